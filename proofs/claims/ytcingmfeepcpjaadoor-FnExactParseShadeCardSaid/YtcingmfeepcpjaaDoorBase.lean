/- The walks of the small functions that all chapters share: bounds, the lesser and the greater of two numbers, words. No condition. -/
import Derived.Test.YtcingmfeepcpjaaDoorMem
namespace Go.Proofs.YtcingmfeepcpjaaDoor
open Go.RowKit

theorem quiet_same {P : Program} {f : FuncId} {args : Array Value} {w : World} {n : Nat} {v : Value}
    (h : Calls P f args (w.drewN n) fun e w' => e = .returned v ∧ w.drewN n = w') : Calls P f args (w.drewN n) fun e w'' => e = .returned v ∧ ∃ m, w'' = w.drewN m :=
  h.mono fun _ _ ⟨he, hm⟩ => ⟨he, n, hm.symm⟩
def inB (x a b : Int) : Bool := decide (a ≤ x ∧ x ≤ b)
theorem inB_yes {x a b : Int} (h : inB x a b = true) : a ≤ x ∧ x ≤ b := of_decide_eq_true h
set_option maxRecDepth 100000 in
set_option maxHeartbeats 400000 in
theorem l1In_any (x a b : Int) (w : World) : Calls Tryd.prog 15 #[.int .i64 x, .int .i64 a, .int .i64 b] w fun e w' => e = .returned (.bool (inB x a b)) ∧ w = w' := by
  go_enter Tryd.func15, Tryd.ntmps15
  go_wp2
  all_goals
    go_ret
    exact ⟨ret_bool (by simp [inB, *] <;> omega), rfl⟩
set_option maxRecDepth 100000 in
set_option maxHeartbeats 400000 in
theorem isBetween_any (x a b : Int) (w : World) : Calls Tryd.prog 29 #[.int .i64 x, .int .i64 a, .int .i64 b] w fun e w' => e = .returned (.bool (inB x a b)) ∧ w = w' := by
  go_enter Tryd.func29, Tryd.ntmps29
  go_wp2
  all_goals
    go_ret
    exact ⟨ret_bool (by simp [inB, *] <;> omega), rfl⟩
theorem not_false {b : Bool} (h : ¬ b = true) : b = false := by simpa using h
/-- What a function leaves that tells yes or no and writes into new memory alone. -/
def Tells (w : World) (b : Bool) (e : Ending) (w' : World) : Prop := e = .returned (.bool b) ∧ Below w.heap.size w w'
def leastI (a b : Int) : Int := if a < b then a else b
def mostI (a b : Int) : Int := if a > b then a else b
/-- Small letters. -/
def isLow (c : UInt8) : Bool := decide (97 ≤ (c.toNat : Int) ∧ (c.toNat : Int) ≤ 122)
def wordB (s : ByteArray) : Bool := decide (1 ≤ s.size ∧ s.size ≤ 10) && s.data.toList.all isLow
theorem low_step {s : ByteArray} {k : Nat} (h : (s.data.toList.take k).all isLow = true) (hk : k < s.size) (h1 : 97 ≤ (s[k].toNat : Int)) (h2 : (s[k].toNat : Int) ≤ 122) : (s.data.toList.take (k + 1)).all isLow = true := by
  rw [List.take_succ_eq_append_getElem (by simpa using hk), List.all_append, h]
  simp only [List.all_cons, List.all_nil, Bool.and_true, Bool.true_and]
  exact decide_eq_true ⟨h1, h2⟩
theorem low_bad {s : ByteArray} {k : Nat} (hk : k < s.size) (h : (s[k].toNat : Int) < 97 ∨ 122 < (s[k].toNat : Int)) : wordB s = false := by
  have : s.data.toList.all isLow = false := by
    rw [List.all_eq_false]
    refine ⟨s[k], ?_, ?_⟩
    · rw [Array.mem_toList_iff]; exact Array.getElem_mem _
    · unfold isLow; rw [decide_eq_true_eq]; omega
  simp [wordB, this]
theorem low_end {s : ByteArray} {k : Nat} (h : (s.data.toList.take k).all isLow = true) (hk : s.size ≤ k) : wordB s = decide (1 ≤ s.size ∧ s.size ≤ 10) := by
  rw [List.take_of_length_le (by simpa using hk)] at h
  simp [wordB, h]
set_option maxRecDepth 100000 in
set_option maxHeartbeats 1000000 in
theorem isWord_any (s : ByteArray) (w : World) (hm : s.size ≤ maxLen) : Calls Tryd.prog 30 #[.string s] w fun e w' => e = .returned (.bool (wordB s)) ∧ w = w' := by
  unfold maxLen at hm
  by_cases hs : 1 ≤ s.size ∧ s.size ≤ 10
  · obtain ⟨s1, s10⟩ := hs
    go_enter Tryd.func30, Tryd.ntmps30
    go_wp2
    go_loop [14, 2] (fun i r => ∃ k : Nat, k ≤ s.size ∧ i = .int .i64 k ∧ r = .bool false ∧ (s.data.toList.take k).all isLow = true) (fun i _ => s.size - (intOf i).toNat)
    case atStart => exact ⟨0, Nat.zero_le _, rfl, rfl, by simp⟩
    case round =>
      obtain ⟨k, hk, rfl, rfl, hall⟩ := hrel
      have HALL := Lib.hid hall
      clear hall
      by_cases hlt : k < s.size
      · by_cases h1 : 97 ≤ (s[k].toNat : Int)
        · by_cases h2 : (s[k].toNat : Int) ≤ 122
          · go_wp2
            go_round
            case rel => exact ⟨k + 1, by omega, by go_num, rfl, low_step HALL.out hlt h1 h2⟩
            case measure => simp [intOf]; omega
          · go_wp2
            go_ret
            exact ⟨ret_bool (low_bad hlt (.inr (by omega))).symm, rfl⟩
        · go_wp2
          go_ret
          exact ⟨ret_bool (low_bad hlt (.inl (by omega))).symm, rfl⟩
      · have e := low_end HALL.out (show s.size ≤ k by omega)
        have HE := Lib.hid e
        clear e
        go_wp2
        go_ret
        exact ⟨ret_bool (by rw [HE.out]; simp; omega), rfl⟩
  · have e := Lib.hid (show wordB s = false by unfold wordB; rw [decide_eq_false hs]; rfl)
    by_cases h1 : s.size < 1
    · go_enter Tryd.func30, Tryd.ntmps30
      go_wp2
      go_ret
      exact ⟨ret_bool e.out.symm, rfl⟩
    · have h2 : 10 < s.size := by omega
      go_enter Tryd.func30, Tryd.ntmps30
      go_wp2
      go_ret
      exact ⟨ret_bool e.out.symm, rfl⟩
set_option maxRecDepth 100000 in
set_option maxHeartbeats 1000000 in
theorem l2Word_any (s : ByteArray) (w : World) (hm : s.size ≤ maxLen) : Calls Tryd.prog 17 #[.string s] w fun e w' => e = .returned (.bool (wordB s)) ∧ w = w' := by
  unfold maxLen at hm
  go_enter Tryd.func17, Tryd.ntmps17
  go_wp2
  go_loop [3, 2] (fun i r => ∃ k : Nat, k ≤ s.size ∧ i = .int .i64 k ∧ r = .bool false ∧ (s.data.toList.take k).all isLow = true) (fun i _ => s.size - (intOf i).toNat)
  case atStart => exact ⟨0, Nat.zero_le _, rfl, rfl, by simp⟩
  case round =>
    obtain ⟨k, hk, rfl, rfl, hall⟩ := hrel
    have HALL := Lib.hid hall
    clear hall
    by_cases hlt : k < s.size
    · by_cases h1 : 97 ≤ (s[k].toNat : Int)
      · by_cases h2 : (s[k].toNat : Int) ≤ 122
        · go_wp2
          go_round
          case rel => exact ⟨k + 1, by omega, by go_num, rfl, low_step HALL.out hlt h1 h2⟩
          case measure => simp [intOf]; omega
        · go_wp2
          go_ret
          exact ⟨ret_bool (low_bad hlt (.inr (by omega))).symm, rfl⟩
      · go_wp2
        go_ret
        exact ⟨ret_bool (low_bad hlt (.inl (by omega))).symm, rfl⟩
    · have HE := Lib.hid (low_end HALL.out (show s.size ≤ k by omega))
      go_wp2_with (go_at_call 15; refine (l1In_any _ _ _ _).mono ?_; rintro e w' ⟨rfl, rfl⟩)
      go_ret
      exact ⟨ret_bool (by rw [HE.out]; unfold inB; rw [Bool.eq_iff_iff]; simp; omega), rfl⟩
end Go.Proofs.YtcingmfeepcpjaaDoor
