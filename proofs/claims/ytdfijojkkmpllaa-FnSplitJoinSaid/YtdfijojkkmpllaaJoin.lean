/- The walks of JoinStrings, the program's and the model's. Condition: texts of at most 1048576 bytes each. -/
import Derived.Test.YtdfijojkkmpllaaStrs
import Derived.Test.YtdfijojkkmpllaaJoinMath
import Derived.Test.YtdfijojkkmpllaaBytes
namespace Go.Proofs.Ytdfijojkkmpllaa
open Go.RowKit

theorem cat_l (l : List UInt8) (s : ByteArray) : (⟨l.toArray⟩ : ByteArray) ++ s = ⟨(l ++ s.data.toList).toArray⟩ := by
  apply ByteArray.ext
  simp
theorem size_l (l : List UInt8) : (⟨l.toArray⟩ : ByteArray).size = l.length := by simp [ByteArray.size]
theorem sign_list {sep : ByteArray} (h : sep.size = 1) : sep.data.toList = [sep[0]'(by omega)] := by
  have hl : sep.data.toList.length = 1 := by rw [sizeL]; exact h
  match e : sep.data.toList, hl with
  | [b], _ =>
    have : sep.data.toList[0]'(by omega) = b := by simp [e]
    rw [← this]; rfl
/-- The next text joined. -/
theorem join_next {ps : List ByteArray} {sep s : ByteArray} {k : Nat} (h : sep.size = 1) (hs : ps[k]? = some s) :
    (0 < k → (⟨(joinL (sep[0]'(by omega)) ps k).toArray⟩ : ByteArray) ++ sep ++ s = ⟨(joinL (sep[0]'(by omega)) ps (k + 1)).toArray⟩) ∧
    (¬ 0 < k → (⟨(joinL (sep[0]'(by omega)) ps k).toArray⟩ : ByteArray) ++ s = ⟨(joinL (sep[0]'(by omega)) ps (k + 1)).toArray⟩) := by
  refine ⟨fun hk => ?_, fun hk => ?_⟩
  · rw [cat_l, cat_l, sign_list h, joinL_succ, part_at hs, joinPre, if_pos hk]
  · rw [cat_l, joinL_succ, part_at hs, joinPre, if_neg hk]

set_option maxRecDepth 100000 in
set_option maxHeartbeats 2000000 in
theorem specJoinStrings_any (A : Option Addr) (n c B : Nat) (ps : List ByteArray) (sep : ByteArray) (w : World) (h : RdF strF w B A n c ps) (hsm : ∀ x ∈ ps, x.size ≤ 1048576) (_hsep : sep.size ≤ maxLen) :
    Calls Try.prog 11 #[.slice A n c, .string sep] w (Out w (.tuple #[.string (joined ps sep), .bool (joins ps sep)])) := by
  have hlen := h.len_lt
  have hl := h.len
  by_cases h1 : sep.size = 1
  · by_cases hn : 0 < n
    · have h0 : 0 < sep.size := by omega
      have hnz : ((n : Int) == 0) = false := by simp; omega
      go_enter Try.func11, Try.ntmps11
      go_wp2
      go_loopw [6, 7] (fun o i wr => ∃ k q : Nat, k ≤ n ∧ i = .int .i64 k ∧ o = .string ⟨(joinL sep[0] ps k).toArray⟩ ∧ joinOk sep[0] ps k = true ∧ wr = w.drewN q) (fun _ i _ => n - (intOf i).toNat)
      case atStart => exact ⟨0, 0, Nat.zero_le _, rfl, rfl, rfl, rfl⟩
      case round =>
        obtain ⟨k, q, hk, rfl, rfl, hok, rfl⟩ := hrel
        have HOK := Lib.hid hok
        clear hok
        by_cases hlt : k < n
        · obtain ⟨b, off, s, rfl, hbB, hs, hc, HX⟩ := strs_at h hlt
          have hsz : s.size ≤ 1048576 := hsm s (List.mem_of_getElem? HX.out)
          have HP := Lib.hid (part_at HX.out)
          obtain ⟨d, hd⟩ : ∃ d, HasB s.data.toList sep[0] = d := ⟨_, rfl⟩
          have hst : ∀ w : World, Calls Try.prog 27 #[.string s, .int .u8 (sep[0].toNat : Int)] w fun e w' => e = .returned (.bool d) ∧ w = w' := fun w => by rw [← hd]; exact l1Stands_any s _ w hs
          have HST := Lib.hid hst
          have HD := Lib.hid hd
          clear hst hd
          cases d
          · have HN := Lib.hid (join_next h1 HX.out)
            have HL := Lib.hid (joinL_succ sep[0] ps k)
            obtain ⟨Y, hY⟩ : ∃ Y, joinL sep[0] ps (k + 1) = Y := ⟨_, rfl⟩
            rw [hY] at HN HL
            have HYL := Lib.hid (size_l Y)
            have HOL := joinOk_len HOK.out
            have HZ : Y.length ≤ 2000000 := by
              have h2 := joinPre_len sep[0] k (joinL sep[0] ps k)
              rw [HL.out, List.length_append, HP.out, sizeL]; omega
            by_cases hk0 : 0 < k
            · skip
              have hcat := HN.out.1 hk0
              by_cases hfit : Y.length ≤ 4000
              · have HJ := Lib.hid (joinOk_step HOK.out (by rw [HP.out]; exact HD.out) (by rw [hY]; exact hfit))
                have HY := Lib.hid hY
                clear hY
                go_wp2
                go_quiet (first | (go_at_call 27; refine (HST.out _).mono ?_; rintro e wy ⟨rfl, rfl⟩; exact ⟨rfl, _, rfl⟩))
                go_wp2
                go_roundw
                case rel => exact ⟨k + 1, _, by omega, by go_num, by rw [HY.out], HJ.out, rfl⟩
                case measure => simp [intOf]; omega
              · have HJ := Lib.hid (joins_no h1 (joinOk_no (k := k) (n := ps.length) (by omega) (joinOk_long (by rw [hY]; omega))))
                have hfit' : (4000 : Int) < (Y.length : Int) := by omega
                go_wp2
                go_quiet (first | (go_at_call 27; refine (HST.out _).mono ?_; rintro e wy ⟨rfl, rfl⟩; exact ⟨rfl, _, rfl⟩))
                go_wp2
                go_ret2
                rw [HJ.out.1, HJ.out.2]
                exact ⟨rfl, by first | exact low_drewN _ _ | exact belowN (low_drewN w q) _⟩
            · skip
              have hcat := HN.out.2 hk0
              by_cases hfit : Y.length ≤ 4000
              · have HJ := Lib.hid (joinOk_step HOK.out (by rw [HP.out]; exact HD.out) (by rw [hY]; exact hfit))
                have HY := Lib.hid hY
                clear hY
                go_wp2
                go_quiet (first | (go_at_call 27; refine (HST.out _).mono ?_; rintro e wy ⟨rfl, rfl⟩; exact ⟨rfl, _, rfl⟩))
                go_wp2
                go_roundw
                case rel => exact ⟨k + 1, _, by omega, by go_num, by rw [HY.out], HJ.out, rfl⟩
                case measure => simp [intOf]; omega
              · have HJ := Lib.hid (joins_no h1 (joinOk_no (k := k) (n := ps.length) (by omega) (joinOk_long (by rw [hY]; omega))))
                have hfit' : (4000 : Int) < (Y.length : Int) := by omega
                go_wp2
                go_quiet (first | (go_at_call 27; refine (HST.out _).mono ?_; rintro e wy ⟨rfl, rfl⟩; exact ⟨rfl, _, rfl⟩))
                go_wp2
                go_ret2
                rw [HJ.out.1, HJ.out.2]
                exact ⟨rfl, by first | exact low_drewN _ _ | exact belowN (low_drewN w q) _⟩
          · have HJ := Lib.hid (joins_no h1 (joinOk_no (k := k) (n := ps.length) (by omega) (joinOk_has (by rw [HP.out]; exact HD.out))))
            go_wp2
            go_quiet (first | (go_at_call 27; refine (HST.out _).mono ?_; rintro e wy ⟨rfl, rfl⟩; exact ⟨rfl, _, rfl⟩))
            go_wp2
            go_ret2
            rw [HJ.out.1, HJ.out.2]
            exact ⟨rfl, belowN (low_drewN w q) _⟩
        · obtain rfl : k = n := by omega
          have HJ := Lib.hid (joins_yes (ps := ps) h1 (by omega) (by rw [hl]; exact HOK.out))
          rw [hl] at HJ
          go_wp2
          go_ret2
          rw [HJ.out.1, HJ.out.2]
          exact ⟨rfl, low_drewN w q⟩
    · obtain rfl : n = 0 := by omega
      obtain rfl := List.eq_nil_of_length_eq_zero hl
      go_enter Try.func11, Try.ntmps11
      go_wp2
      go_ret2
      rw [joins_none.1, joins_none.2]
      exact ⟨rfl, Below.refl _ _⟩
  · have HJ := Lib.hid (joins_sign (ps := ps) h1)
    have h1' : ¬ (sep.size : Int) = 1 := by omega
    go_enter Try.func11, Try.ntmps11
    go_wp2
    go_ret2
    rw [HJ.out.1, HJ.out.2]
    exact ⟨rfl, Below.refl _ _⟩
end Go.Proofs.Ytdfijojkkmpllaa
