/- The walk of the model's l1Read: it is the plain function readM, for every string. -/
import Derived.Test.YtcingmfeepcpjaaDoorNumT
import Derived.Lib.Strings
import Derived.Lib.Hide
import Derived.Test.YtcingmfeepcpjaaDoorReadMathT
namespace Go.Proofs.YtcingmfeepcpjaaDoor
open Go.RowKit

theorem digs_snoc (l : List UInt8) (c : UInt8) (h : Digs l) (h1 : 48 ≤ c.toNat) (h2 : c.toNat ≤ 57) : Digs (l ++ [c]) := by
  intro x hx; rcases List.mem_append.1 hx with hx | hx
  · exact h x hx
  · rw [List.mem_singleton] at hx; subst hx; exact ⟨h1, h2⟩
theorem readTake (s : ByteArray) (k : Nat) (h : k < s.size) : s.data.toList.take (k + 1) = s.data.toList.take k ++ [s[k]] := by
  rw [List.take_succ_eq_append_getElem (by simpa using h)]; rfl
theorem dv_take (s : ByteArray) (k : Nat) (h : k < s.size) (h1 : 48 ≤ (s[k].toNat : Int)) : (dv 0 (s.data.toList.take (k + 1)) : Int) = 10 * (dv 0 (s.data.toList.take k) : Int) + ((s[k].toNat : Int) - 48) := by
  rw [readTake s k h, dv_snoc]; omega
theorem lenB (s : ByteArray) : s.data.toList.length = s.size := by rw [Array.length_toList]; rfl
theorem numB_eq (n : Int) (s : ByteArray) : numB n = s ↔ Lib.itoa n = s.data.toList := by
  constructor
  · intro h; rw [← h, numB_toList]
  · intro h; apply ByteArray.ext; apply Array.toList_inj.1; rw [numB_toList, h]
def rd (l : List UInt8) : Ending := match readM l with
  | some n => .returned (.tuple #[.int .i64 n, .bool true])
  | none => .returned (.tuple #[.int .i64 0, .bool false])
theorem rd_no (l : List UInt8) (h : readM l = none) : rd l = .returned (.tuple #[.int .i64 0, .bool false]) := by unfold rd; rw [h]
theorem rd_yes (l : List UInt8) (n : Int) (h : readM l = some n) : rd l = .returned (.tuple #[.int .i64 n, .bool true]) := by unfold rd; rw [h]
theorem readM_len (l : List UInt8) (h : ¬ (1 ≤ (readBody l).length ∧ (readBody l).length ≤ 6)) : readM l = none := by
  unfold readM; rw [if_neg (fun g => h ⟨g.1, g.2.1⟩)]
theorem readM_bad (l : List UInt8) (k : Nat) (t : ByteArray) (ht : readBody l = t.data.toList) (hk : k < t.size) (h : ¬ (48 ≤ (t[k].toNat : Int) ∧ (t[k].toNat : Int) ≤ 57)) : readM l = none := by
  unfold readM; rw [if_neg]
  rintro ⟨_, _, g, _⟩
  rw [ht] at g
  have := g t[k] (by rw [show t[k] = t.data.toList[k]'(by rw [lenB]; exact hk) from rfl]; exact List.getElem_mem _)
  omega
theorem take_all (t : ByteArray) (k : Nat) (h : ¬ k < t.size) : t.data.toList.take k = t.data.toList := List.take_of_length_le (by rw [lenB]; omega)
theorem readM_end (l : List UInt8) (h1 : 1 ≤ (readBody l).length) (h6 : (readBody l).length ≤ 6) (hd : Digs (readBody l)) :
    readM l = if Lib.itoa (readNum l) = l then some (readNum l) else none := by
  unfold readM
  by_cases h : Lib.itoa (readNum l) = l
  · rw [if_pos ⟨h1, h6, hd, h⟩, if_pos h]
  · rw [if_neg (fun g => h g.2.2.2), if_neg h]


set_option maxRecDepth 100000 in
set_option maxHeartbeats 1000000 in
theorem l1Read_neg (s : ByteArray) (w : World) (hs : s.size ≤ maxLen) (h1 : 1 < s.size) (g1 : 45 ≤ ((s[0]'(by omega)).toNat : Int)) (g2 : ((s[0]'(by omega)).toNat : Int) ≤ 45) :
    Calls Tryd.prog 8 #[.string s] w fun e w' => e = rd s.data.toList ∧ ∃ n, w' = w.drewN n := by
  unfold maxLen at hs
  obtain ⟨t, ht⟩ : ∃ t, s.extract 1 s.size = t := ⟨_, rfl⟩
  have hl : t.data.toList = s.data.toList.drop 1 := by rw [← ht, Lib.extract_data]; rw [List.take_of_length_le (by rw [List.length_drop, lenB]; exact Nat.le_refl _)]
  have hz : t.size + 1 ≤ s.size ∧ s.size ≤ t.size + 1 := by have := congrArg List.length hl; rw [lenB, List.length_drop, lenB] at this; omega
  have h45 : s.data.toList.head? = some 45 := by
    match hm : s.data.toList with
    | [] => have := lenB s; rw [hm] at this; simp at this; omega
    | x :: r =>
      have e : s[0]'(by omega) = x := by show s.data.toList[0]'(by rw [lenB]; omega) = x; simp [hm]
      rw [e] at g1 g2
      have : x.toNat = 45 := by omega
      simp; exact UInt8.toNat_inj.1 this
  have hb0 : readBody s.data.toList = t.data.toList := by unfold readBody; rw [if_pos ⟨by rw [lenB]; exact h1, h45⟩, hl]
  clear hl h45
  have HB : Hid (readBody s.data.toList = t.data.toList) := Lib.hid hb0
  have HN : Hid (readNum s.data.toList = -(dv 0 t.data.toList : Int)) := Lib.hid (by unfold readNum; rw [HB.out]; simp only [lenB]; rw [if_pos (by omega)])
  by_cases hin : 1 ≤ t.size ∧ t.size ≤ 6
  · obtain ⟨hin1, hin2⟩ := hin
    have hin1' : (1 : Int) ≤ (t.size : Int) := by omega
    have hin2' : (t.size : Int) ≤ 6 := by omega
    have hdec : decide ((1 : Int) ≤ (t.size : Int) ∧ (t.size : Int) ≤ 6) = true := decide_eq_true ⟨hin1', hin2'⟩
    go_enter Tryd.func8, Tryd.ntmps8
    go_wp2_with (go_at_call 15; refine (l1In_dec _ _ _ _).mono ?_; rintro e w' ⟨rfl, rfl⟩)
    go_loop [5, 6] (fun n i => ∃ k : Nat, k ≤ t.size ∧ i = .int .i64 k ∧ n = .int .i64 (dv 0 (t.data.toList.take k)) ∧ Digs (t.data.toList.take k)) (fun _ i => t.size - (intOf i).toNat)
    case atStart => exact ⟨0, Nat.zero_le _, rfl, rfl, by intro c hc; simp at hc⟩
    case round =>
      obtain ⟨k, hk, rfl, rfl, hdg⟩ := hrel
      have hdv := dv_lt6 _ hdg (by have := List.length_take_le k t.data.toList; omega)
      by_cases hlt : k < t.size
      · have hc1 : (t[k].toNat : Int) ≤ 255 := by have := t[k].toNat_lt; omega
        by_cases hd : 48 ≤ (t[k].toNat : Int) ∧ (t[k].toNat : Int) ≤ 57
        · obtain ⟨hd1, hd2⟩ := hd
          have HS := Lib.hid (dv_take t k hlt hd1)
          have HD : Hid (Digs (t.data.toList.take (k + 1))) := Lib.hid (by rw [readTake t k hlt]; exact digs_snoc _ _ hdg (by omega) (by omega))
          clear hdg
          go_wp2_with fail
          go_round
          case rel => exact ⟨k + 1, by omega, by go_num, by rw [HS.out], HD.out⟩
          case measure => simp [intOf]; omega
        · have HZ : Hid (rd s.data.toList = .returned (.tuple #[.int .i64 0, .bool false])) := Lib.hid (rd_no _ (readM_bad _ k t HB.out hlt hd))
          clear hdg
          by_cases hd1 : 48 ≤ (t[k].toNat : Int)
          · have hd2 : 57 < (t[k].toNat : Int) := by omega
            clear hd
            go_wp2_with fail
            go_ret2
            exact ⟨HZ.out.symm, 0, rfl⟩
          · clear hd
            go_wp2_with fail
            go_ret2
            exact ⟨HZ.out.symm, 0, rfl⟩
      · have hT := take_all t k hlt
        rw [hT] at hdg hdv ⊢
        clear hT
        have HE := Lib.hid (readM_end s.data.toList (by rw [HB.out, lenB]; exact hin1) (by rw [HB.out, lenB]; exact hin2) (by rw [HB.out]; exact hdg))
        clear hdg hdec
        obtain ⟨v, hv⟩ : ∃ v : Nat, v = dv 0 t.data.toList := ⟨_, rfl⟩
        rw [← hv] at hdv HN ⊢
        clear hv
        have hv0 : -999999 ≤ -(v : Int) ∧ -(v : Int) ≤ 999999 := by omega
        by_cases hq : numB (-(v : Int)) = s
        · have HY : Hid (rd s.data.toList = .returned (.tuple #[.int .i64 (-(v : Int)), .bool true])) := Lib.hid (rd_yes _ _ (by rw [HE.out, HN.out, if_pos ((numB_eq _ _).1 hq)]))
          have hq' : ((numB (-(v : Int))).toList == s.toList) = true := by rw [hq]; exact beq_self_eq_true _
          clear HE HN hq
          go_wp2_with (go_at_call 16; refine (l1Num_any _ hv0.1 hv0.2 _).mono ?_; rintro e w' ⟨rfl, m, rfl⟩)
          go_ret2
          exact ⟨HY.out.symm, _, rfl⟩
        · have HY : Hid (rd s.data.toList = .returned (.tuple #[.int .i64 0, .bool false])) := Lib.hid (rd_no _ (by rw [HE.out, HN.out, if_neg (fun g => hq ((numB_eq _ _).2 g))]))
          have hq' : ((numB (-(v : Int))).toList == s.toList) = false := by
            apply beq_eq_false_iff_ne.2; intro g; apply hq; apply (numB_eq _ _).2; rw [← numB_toList, ← ByteArray.toList_eq, ← ByteArray.toList_eq]; exact g
          clear HE HN hq
          go_wp2_with (go_at_call 16; refine (l1Num_any _ hv0.1 hv0.2 _).mono ?_; rintro e w' ⟨rfl, m, rfl⟩)
          go_ret2
          exact ⟨HY.out.symm, _, rfl⟩
  · have HZ : Hid (rd s.data.toList = .returned (.tuple #[.int .i64 0, .bool false])) := Lib.hid (rd_no _ (readM_len _ (by rw [HB.out, lenB]; exact hin)))
    have hdec : decide ((1 : Int) ≤ (t.size : Int) ∧ (t.size : Int) ≤ 6) = false := decide_eq_false (by omega)
    clear hin
    go_enter Tryd.func8, Tryd.ntmps8
    go_wp2_with (go_at_call 15; refine (l1In_dec _ _ _ _).mono ?_; rintro e w' ⟨rfl, rfl⟩)
    go_ret2
    exact ⟨HZ.out.symm, 0, rfl⟩

set_option maxRecDepth 100000 in
set_option maxHeartbeats 1000000 in
theorem l1Read_pos1 (s : ByteArray) (w : World) (hs : s.size ≤ maxLen) (h1 : ¬ 1 < s.size) :
    Calls Tryd.prog 8 #[.string s] w fun e w' => e = rd s.data.toList ∧ ∃ n, w' = w.drewN n := by
  unfold maxLen at hs
  have hb0 : readBody s.data.toList = s.data.toList := by
    unfold readBody; rw [if_neg]; rintro ⟨g, _⟩; rw [lenB] at g; exact h1 g
  have HB : Hid (readBody s.data.toList = s.data.toList) := Lib.hid hb0
  have HN : Hid (readNum s.data.toList = (dv 0 s.data.toList : Int)) := Lib.hid (by unfold readNum; rw [HB.out]; simp only [lenB]; rw [if_neg (by omega)])
  by_cases hin : 1 ≤ s.size ∧ s.size ≤ 6
  · obtain ⟨hin1, hin2⟩ := hin
    have hin1' : (1 : Int) ≤ (s.size : Int) := by omega
    have hin2' : (s.size : Int) ≤ 6 := by omega
    have hdec : decide ((1 : Int) ≤ (s.size : Int) ∧ (s.size : Int) ≤ 6) = true := decide_eq_true ⟨hin1', hin2'⟩
    go_enter Tryd.func8, Tryd.ntmps8
    go_wp2_with (go_at_call 15; refine (l1In_dec _ _ _ _).mono ?_; rintro e w' ⟨rfl, rfl⟩)
    go_loop [5, 6] (fun n i => ∃ k : Nat, k ≤ s.size ∧ i = .int .i64 k ∧ n = .int .i64 (dv 0 (s.data.toList.take k)) ∧ Digs (s.data.toList.take k)) (fun _ i => s.size - (intOf i).toNat)
    case atStart => exact ⟨0, Nat.zero_le _, rfl, rfl, by intro c hc; simp at hc⟩
    case round =>
      obtain ⟨k, hk, rfl, rfl, hdg⟩ := hrel
      have hdv := dv_lt6 _ hdg (by have := List.length_take_le k s.data.toList; omega)
      by_cases hlt : k < s.size
      · have hc1 : (s[k].toNat : Int) ≤ 255 := by have := s[k].toNat_lt; omega
        by_cases hd : 48 ≤ (s[k].toNat : Int) ∧ (s[k].toNat : Int) ≤ 57
        · obtain ⟨hd1, hd2⟩ := hd
          have HS := Lib.hid (dv_take s k hlt hd1)
          have HD : Hid (Digs (s.data.toList.take (k + 1))) := Lib.hid (by rw [readTake s k hlt]; exact digs_snoc _ _ hdg (by omega) (by omega))
          clear hdg
          go_wp2_with fail
          go_round
          case rel => exact ⟨k + 1, by omega, by go_num, by rw [HS.out], HD.out⟩
          case measure => simp [intOf]; omega
        · have HZ : Hid (rd s.data.toList = .returned (.tuple #[.int .i64 0, .bool false])) := Lib.hid (rd_no _ (readM_bad _ k s HB.out hlt hd))
          clear hdg
          by_cases hd1 : 48 ≤ (s[k].toNat : Int)
          · have hd2 : 57 < (s[k].toNat : Int) := by omega
            clear hd
            go_wp2_with fail
            go_ret2
            exact ⟨HZ.out.symm, 0, rfl⟩
          · clear hd
            go_wp2_with fail
            go_ret2
            exact ⟨HZ.out.symm, 0, rfl⟩
      · have hT := take_all s k hlt
        rw [hT] at hdg hdv ⊢
        clear hT
        have HE := Lib.hid (readM_end s.data.toList (by rw [HB.out, lenB]; exact hin1) (by rw [HB.out, lenB]; exact hin2) (by rw [HB.out]; exact hdg))
        clear hdg hdec
        obtain ⟨v, hv⟩ : ∃ v : Nat, v = dv 0 s.data.toList := ⟨_, rfl⟩
        rw [← hv] at hdv HN ⊢
        clear hv
        have hv0 : -999999 ≤ (v : Int) ∧ (v : Int) ≤ 999999 := by omega
        by_cases hq : numB ((v : Int)) = s
        · have HY : Hid (rd s.data.toList = .returned (.tuple #[.int .i64 ((v : Int)), .bool true])) := Lib.hid (rd_yes _ _ (by rw [HE.out, HN.out, if_pos ((numB_eq _ _).1 hq)]))
          have hq' : ((numB ((v : Int))).toList == s.toList) = true := by rw [hq]; exact beq_self_eq_true _
          clear HE HN hq
          go_wp2_with (go_at_call 16; refine (l1Num_any _ hv0.1 hv0.2 _).mono ?_; rintro e w' ⟨rfl, m, rfl⟩)
          go_ret2
          exact ⟨HY.out.symm, _, rfl⟩
        · have HY : Hid (rd s.data.toList = .returned (.tuple #[.int .i64 0, .bool false])) := Lib.hid (rd_no _ (by rw [HE.out, HN.out, if_neg (fun g => hq ((numB_eq _ _).2 g))]))
          have hq' : ((numB ((v : Int))).toList == s.toList) = false := by
            apply beq_eq_false_iff_ne.2; intro g; apply hq; apply (numB_eq _ _).2; rw [← numB_toList, ← ByteArray.toList_eq, ← ByteArray.toList_eq]; exact g
          clear HE HN hq
          go_wp2_with (go_at_call 16; refine (l1Num_any _ hv0.1 hv0.2 _).mono ?_; rintro e w' ⟨rfl, m, rfl⟩)
          go_ret2
          exact ⟨HY.out.symm, _, rfl⟩
  · have HZ : Hid (rd s.data.toList = .returned (.tuple #[.int .i64 0, .bool false])) := Lib.hid (rd_no _ (readM_len _ (by rw [HB.out, lenB]; exact hin)))
    have hdec : decide ((1 : Int) ≤ (s.size : Int) ∧ (s.size : Int) ≤ 6) = false := decide_eq_false (by omega)
    clear hin
    go_enter Tryd.func8, Tryd.ntmps8
    go_wp2_with (go_at_call 15; refine (l1In_dec _ _ _ _).mono ?_; rintro e w' ⟨rfl, rfl⟩)
    go_ret2
    exact ⟨HZ.out.symm, 0, rfl⟩

set_option maxRecDepth 100000 in
set_option maxHeartbeats 1000000 in
theorem l1Read_pos2 (s : ByteArray) (w : World) (hs : s.size ≤ maxLen) (h1 : 1 < s.size) (g1 : ((s[0]'(by omega)).toNat : Int) ≠ 45) :
    Calls Tryd.prog 8 #[.string s] w fun e w' => e = rd s.data.toList ∧ ∃ n, w' = w.drewN n := by
  unfold maxLen at hs
  have hb0 : readBody s.data.toList = s.data.toList := by
    unfold readBody; rw [if_neg]; rintro ⟨_, g⟩
    match hm : s.data.toList with
    | [] => rw [hm] at g; simp at g
    | x :: r =>
      have e : s[0]'(by omega) = x := by show s.data.toList[0]'(by rw [lenB]; omega) = x; simp [hm]
      rw [hm] at g; simp at g
      rw [e, g] at g1
      exact g1 rfl
  have g1q : (((s[0]'(by omega)).toNat : Int) == 45) = false := by simpa using g1
  clear g1
  have HB : Hid (readBody s.data.toList = s.data.toList) := Lib.hid hb0
  have HN : Hid (readNum s.data.toList = (dv 0 s.data.toList : Int)) := Lib.hid (by unfold readNum; rw [HB.out]; simp only [lenB]; rw [if_neg (by omega)])
  by_cases hin : 1 ≤ s.size ∧ s.size ≤ 6
  · obtain ⟨hin1, hin2⟩ := hin
    have hin1' : (1 : Int) ≤ (s.size : Int) := by omega
    have hin2' : (s.size : Int) ≤ 6 := by omega
    have hdec : decide ((1 : Int) ≤ (s.size : Int) ∧ (s.size : Int) ≤ 6) = true := decide_eq_true ⟨hin1', hin2'⟩
    go_enter Tryd.func8, Tryd.ntmps8
    go_wp2_with (go_at_call 15; refine (l1In_dec _ _ _ _).mono ?_; rintro e w' ⟨rfl, rfl⟩)
    go_loop [5, 6] (fun n i => ∃ k : Nat, k ≤ s.size ∧ i = .int .i64 k ∧ n = .int .i64 (dv 0 (s.data.toList.take k)) ∧ Digs (s.data.toList.take k)) (fun _ i => s.size - (intOf i).toNat)
    case atStart => exact ⟨0, Nat.zero_le _, rfl, rfl, by intro c hc; simp at hc⟩
    case round =>
      obtain ⟨k, hk, rfl, rfl, hdg⟩ := hrel
      have hdv := dv_lt6 _ hdg (by have := List.length_take_le k s.data.toList; omega)
      by_cases hlt : k < s.size
      · have hc1 : (s[k].toNat : Int) ≤ 255 := by have := s[k].toNat_lt; omega
        by_cases hd : 48 ≤ (s[k].toNat : Int) ∧ (s[k].toNat : Int) ≤ 57
        · obtain ⟨hd1, hd2⟩ := hd
          have HS := Lib.hid (dv_take s k hlt hd1)
          have HD : Hid (Digs (s.data.toList.take (k + 1))) := Lib.hid (by rw [readTake s k hlt]; exact digs_snoc _ _ hdg (by omega) (by omega))
          clear hdg
          go_wp2_with fail
          go_round
          case rel => exact ⟨k + 1, by omega, by go_num, by rw [HS.out], HD.out⟩
          case measure => simp [intOf]; omega
        · have HZ : Hid (rd s.data.toList = .returned (.tuple #[.int .i64 0, .bool false])) := Lib.hid (rd_no _ (readM_bad _ k s HB.out hlt hd))
          clear hdg
          by_cases hd1 : 48 ≤ (s[k].toNat : Int)
          · have hd2 : 57 < (s[k].toNat : Int) := by omega
            clear hd
            go_wp2_with fail
            go_ret2
            exact ⟨HZ.out.symm, 0, rfl⟩
          · clear hd
            go_wp2_with fail
            go_ret2
            exact ⟨HZ.out.symm, 0, rfl⟩
      · have hT := take_all s k hlt
        rw [hT] at hdg hdv ⊢
        clear hT
        have HE := Lib.hid (readM_end s.data.toList (by rw [HB.out, lenB]; exact hin1) (by rw [HB.out, lenB]; exact hin2) (by rw [HB.out]; exact hdg))
        clear hdg hdec
        obtain ⟨v, hv⟩ : ∃ v : Nat, v = dv 0 s.data.toList := ⟨_, rfl⟩
        rw [← hv] at hdv HN ⊢
        clear hv
        have hv0 : -999999 ≤ (v : Int) ∧ (v : Int) ≤ 999999 := by omega
        by_cases hq : numB ((v : Int)) = s
        · have HY : Hid (rd s.data.toList = .returned (.tuple #[.int .i64 ((v : Int)), .bool true])) := Lib.hid (rd_yes _ _ (by rw [HE.out, HN.out, if_pos ((numB_eq _ _).1 hq)]))
          have hq' : ((numB ((v : Int))).toList == s.toList) = true := by rw [hq]; exact beq_self_eq_true _
          clear HE HN hq
          go_wp2_with (go_at_call 16; refine (l1Num_any _ hv0.1 hv0.2 _).mono ?_; rintro e w' ⟨rfl, m, rfl⟩)
          go_ret2
          exact ⟨HY.out.symm, _, rfl⟩
        · have HY : Hid (rd s.data.toList = .returned (.tuple #[.int .i64 0, .bool false])) := Lib.hid (rd_no _ (by rw [HE.out, HN.out, if_neg (fun g => hq ((numB_eq _ _).2 g))]))
          have hq' : ((numB ((v : Int))).toList == s.toList) = false := by
            apply beq_eq_false_iff_ne.2; intro g; apply hq; apply (numB_eq _ _).2; rw [← numB_toList, ← ByteArray.toList_eq, ← ByteArray.toList_eq]; exact g
          clear HE HN hq
          go_wp2_with (go_at_call 16; refine (l1Num_any _ hv0.1 hv0.2 _).mono ?_; rintro e w' ⟨rfl, m, rfl⟩)
          go_ret2
          exact ⟨HY.out.symm, _, rfl⟩
  · have HZ : Hid (rd s.data.toList = .returned (.tuple #[.int .i64 0, .bool false])) := Lib.hid (rd_no _ (readM_len _ (by rw [HB.out, lenB]; exact hin)))
    have hdec : decide ((1 : Int) ≤ (s.size : Int) ∧ (s.size : Int) ≤ 6) = false := decide_eq_false (by omega)
    clear hin
    go_enter Tryd.func8, Tryd.ntmps8
    go_wp2_with (go_at_call 15; refine (l1In_dec _ _ _ _).mono ?_; rintro e w' ⟨rfl, rfl⟩)
    go_ret2
    exact ⟨HZ.out.symm, 0, rfl⟩

theorem l1Read_any (s : ByteArray) (w : World) (hs : s.size ≤ maxLen) :
    Calls Tryd.prog 8 #[.string s] w fun e w' => e = rd s.data.toList ∧ ∃ n, w' = w.drewN n := by
  by_cases h1 : 1 < s.size
  · by_cases g : ((s[0]'(by omega)).toNat : Int) = 45
    · exact l1Read_neg s w hs h1 (by omega) (by omega)
    · exact l1Read_pos2 s w hs h1 g
  · exact l1Read_pos1 s w hs h1
end Go.Proofs.YtcingmfeepcpjaaDoor
