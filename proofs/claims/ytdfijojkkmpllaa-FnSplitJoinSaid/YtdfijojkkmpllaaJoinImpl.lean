/- The walk of the program's JoinStrings. Condition: texts of at most 1048576 bytes each. -/
import Derived.Test.YtdfijojkkmpllaaJoin
import Derived.WalkMore
import Derived.Deep.LoopGhost
namespace Go.Proofs.Ytdfijojkkmpllaa
open Go.RowKit

set_option maxRecDepth 100000 in
set_option maxHeartbeats 4000000 in
theorem implJoinStrings_any (A : Option Addr) (n c B : Nat) (ps : List ByteArray) (sep : ByteArray) (w : World) (h : RdF strF w B A n c ps) (hB : B ≤ w.heap.size) (hsm : ∀ x ∈ ps, x.size ≤ 1048576) (_hsep : sep.size ≤ maxLen) :
    Calls Try.prog 10 #[.slice A n c, .string sep] w (Out w (.tuple #[.string (joined ps sep), .bool (joins ps sep)])) := by
  have hlen := h.len_lt
  have hl := h.len
  by_cases hn : 0 < n
  · have hnz : ((n : Int) == 0) = false := by simp; omega
    by_cases h1 : sep.size = 1
    · have h0 : 0 < sep.size := by omega
      go_enter Try.func10, Try.ntmps10
      go_wp2
      go_step3
      go_wp2
      go_step3
      go_wp2
      go_loopg [21, 6, 7, 8, 9, 10] n (fun g i j6 s7 _ _ _ wr => ∃ (k : Nat) (A' : Option Addr) (c' : Nat), k + g = n ∧ i = .int .i64 k ∧ s7 = .bool true ∧ j6 = .slice A' (joinL sep[0] ps k).length c' ∧ OwnB wr w.heap.size (.slice A' (joinL sep[0] ps k).length c') (joinL sep[0] ps k) ∧ joinOk sep[0] ps k = true ∧ Below w.heap.size w wr)
      case atStart => exact ⟨0, none, 0, by omega, rfl, rfl, rfl, OwnB.nil _ _, rfl, Below.refl _ _⟩
      case round =>
        obtain ⟨k, A', c', hkg, rfl, rfl, rfl, ho, hok, hb⟩ := hrel
        have HOK := Lib.hid hok
        have hbz := hb.size
        have HOL := joinOk_len hok
        clear hok
        cases gk with
        | zero =>
          obtain rfl : k = n := by omega
          have hkz : ¬ ((k : Int) < (k : Int)) := by omega
          have HJ := Lib.hid (joins_yes (ps := ps) h1 (by omega) (by rw [hl]; exact HOK.out))
          rw [hl] at HJ
          have hcv := ho.str 22 9 Try.underlying22 Try.underlying5 Try.underlying9
          go_wp2
          (try rw [Exit.noGoto_ret])
          go_ret2
          rw [HJ.out.1, HJ.out.2]
          exact ⟨rfl, hb⟩
        | succ g =>
          have hkz : (k : Int) < (n : Int) := by omega
          obtain ⟨b, off, s, rfl, hbB, hs, hc, HX⟩ := strs_at h (j := k) (by omega)
          have hx := cells_of hb hc (by omega)
          have hsz : s.size ≤ 1048576 := hsm s (List.mem_of_getElem? HX.out)
          have HP := Lib.hid (part_at HX.out)
          clear hc
          by_cases hk0 : 0 < k
          · skip
            have hTl : (joinL sep[0] ps k).length ≤ 1073741824 := by omega
            go_wp2_with (at_builtin; refine wpList_appendB_one wr rfl (.tmp 28) (.tmp 31) 22 rfl Try.underlying22 info_byte w.heap.size _ _ _ sep[0] rfl rfl rfl ho hTl hbz ?_)
            intro A2 c2 w2 ho2 hg2
            have hb2 := hb.grown hg2 hbz (fun q hq => (ho.lt q hq).1)
            have hz := hb2.size
            have hPs : joinL sep[0] ps (k + 1) = (joinL sep[0] ps k ++ [sep[0]]) ++ s.data.toList := by rw [joinL_succ, HP.out, joinPre]; first | rw [if_pos hk0] | rw [if_neg hk0]
            have hYl : (joinL sep[0] ps (k + 1)).length = ((joinL sep[0] ps k).length + 1) + s.size := by rw [hPs, List.length_append, sizeL]; try simp
            obtain ⟨P, hP⟩ : ∃ P, (joinL sep[0] ps k ++ [sep[0]]) = P := ⟨_, rfl⟩
            rw [hP] at hPs
            have HO1 : OwnB w2 w.heap.size (.slice A2 ((joinL sep[0] ps k).length + 1) c2) P := by rw [← hP]; exact ho2
            have hPl : P.length = ((joinL sep[0] ps k).length + 1) := by rw [← hP]; try simp
            have HPL := Lib.hid hPl
            clear hP hPl
            have HYL := Lib.hid hYl
            have HPS := Lib.hid hPs
            clear hYl hPs
            by_cases hfit : ((joinL sep[0] ps k).length + 1) + s.size ≤ 4000
            · skip
              go_wp2
              go_loopw [41, 10, 7] (fun i _ s7 wx => ∃ j q : Nat, j ≤ s.size ∧ i = .int .i64 j ∧ s7 = .bool true ∧ HasB (s.data.toList.take j) sep[0] = false ∧ wx = w2.drewN q) (fun i _ _ _ => s.size - (intOf i).toNat)
              case atStart => exact ⟨0, 0, Nat.zero_le _, rfl, rfl, rfl, rfl⟩
              case round =>
                obtain ⟨j, q, hj, rfl, rfl, hno, rfl⟩ := hrel
                have HN := Lib.hid hno
                clear hno
                by_cases hjl : j < s.size
                · by_cases hc : s[j] = sep[0]
                  · have HY : Hid (HasB s.data.toList sep[0] = true) := Lib.hid (by
                      unfold HasB; rw [List.contains_iff_mem, ← hc]
                      exact (show s.data.toList[j]'(by rw [sizeL]; exact hjl) ∈ s.data.toList from List.getElem_mem _))
                    have hq : ((s[j].toNat : Int) == (sep[0].toNat : Int)) = true := by rw [hc]; exact beq_self_eq_true _
                    clear hc
                    go_wp2
                    go_quiet (fail)
                    have HJ := Lib.hid (joins_no (ps := ps) h1 (joinOk_no (k := k) (n := ps.length) (by omega) (joinOk_has (by rw [HP.out]; exact HY.out))))
                    go_wp2
                    (try rw [Exit.noGoto_ret])
                    go_ret2
                    rw [HJ.out.1, HJ.out.2]
                    exact ⟨rfl, (by first | exact belowN (belowN hb2 _) _ | exact belowN hb2 _)⟩
                  · have HY : Hid (HasB (s.data.toList.take (j + 1)) sep[0] = false) := Lib.hid (by
                      have := HN.out
                      unfold HasB at this ⊢
                      rw [takeS s j hjl]; simp only [List.contains_eq_mem, decide_eq_false_iff_not, List.mem_append, List.mem_singleton, not_or] at this ⊢
                      exact ⟨this, fun e => hc e.symm⟩)
                    have hq := byteNe hc
                    clear hc
                    go_wp2
                    go_quiet (fail)
                    go_wp2
                    go_roundw
                    case rel => exact ⟨j + 1, _, by omega, by go_num, rfl, HY.out, rfl⟩
                    case measure => simp [intOf]; omega
                · have HY : Hid (HasB s.data.toList sep[0] = false) := Lib.hid (by rw [← takeAllS s j hjl]; exact HN.out)
                  have HO2 := HO1.all (low_drewN w2 q)
                  have HB2 := belowN hb2 q
                  have hz2 := HB2.size
                  have hln : P.length + s.size ≤ 1073741824 := by rw [HPL.out]; omega
                  go_wp2_with (at_builtin; refine wpList_appendB_str _ rfl (.tmp 51) (.tmp 52) 22 9 rfl Try.underlying22 Try.underlying9 info_byte w.heap.size _ _ s rfl rfl HO2 hln hz2 ?_)
                  intro A5 c5 w5 ho5 hg5
                  have HOK5 := Lib.hid (joinOk_step HOK.out (by rw [HP.out]; exact HY.out) (by rw [HYL.out]; exact hfit))
                  have HB5 := HB2.grown hg5 hz2 (fun q hq => (HO2.lt q hq).1)
                  rw [← HPS.out] at ho5
                  have HL5 := Lib.hid (show P.length + s.size = (joinL sep[0] ps (k + 1)).length by rw [HYL.out, HPL.out])
                  go_wp2
                  go_roundg g
                  case rel => exact ⟨k + 1, A5, c5, by omega, by go_num, rfl, by rw [← HL5.out], by rw [← HL5.out]; exact ho5, HOK5.out, HB5⟩
                  case measure => omega
            · have hfit' : (4000 : Int) < ((((joinL sep[0] ps k).length + 1) : Nat) : Int) + (s.size : Int) := by omega
              have HJ := Lib.hid (joins_no (ps := ps) h1 (joinOk_no (k := k) (n := ps.length) (by omega) (joinOk_long (by rw [HYL.out]; omega))))
              go_wp2
              (try rw [Exit.noGoto_ret])
              go_ret2
              rw [HJ.out.1, HJ.out.2]
              exact ⟨rfl, hb2⟩
          · skip
            have hPs : joinL sep[0] ps (k + 1) = joinL sep[0] ps k ++ s.data.toList := by rw [joinL_succ, HP.out, joinPre]; first | rw [if_pos hk0] | rw [if_neg hk0]
            have hYl : (joinL sep[0] ps (k + 1)).length = (joinL sep[0] ps k).length + s.size := by rw [hPs, List.length_append, sizeL]; try simp
            obtain ⟨P, hP⟩ : ∃ P, joinL sep[0] ps k = P := ⟨_, rfl⟩
            rw [hP] at hPs
            have HO1 : OwnB wr w.heap.size (.slice A' (joinL sep[0] ps k).length c') P := by rw [← hP]; exact ho
            have hPl : P.length = (joinL sep[0] ps k).length := by rw [← hP]; try simp
            have HPL := Lib.hid hPl
            clear hP hPl
            have HYL := Lib.hid hYl
            have HPS := Lib.hid hPs
            clear hYl hPs
            by_cases hfit : (joinL sep[0] ps k).length + s.size ≤ 4000
            · skip
              go_wp2
              go_loopw [41, 10, 7] (fun i _ s7 wx => ∃ j q : Nat, j ≤ s.size ∧ i = .int .i64 j ∧ s7 = .bool true ∧ HasB (s.data.toList.take j) sep[0] = false ∧ wx = wr.drewN q) (fun i _ _ _ => s.size - (intOf i).toNat)
              case atStart => exact ⟨0, 0, Nat.zero_le _, rfl, rfl, rfl, rfl⟩
              case round =>
                obtain ⟨j, q, hj, rfl, rfl, hno, rfl⟩ := hrel
                have HN := Lib.hid hno
                clear hno
                by_cases hjl : j < s.size
                · by_cases hc : s[j] = sep[0]
                  · have HY : Hid (HasB s.data.toList sep[0] = true) := Lib.hid (by
                      unfold HasB; rw [List.contains_iff_mem, ← hc]
                      exact (show s.data.toList[j]'(by rw [sizeL]; exact hjl) ∈ s.data.toList from List.getElem_mem _))
                    have hq : ((s[j].toNat : Int) == (sep[0].toNat : Int)) = true := by rw [hc]; exact beq_self_eq_true _
                    clear hc
                    go_wp2
                    go_quiet (fail)
                    have HJ := Lib.hid (joins_no (ps := ps) h1 (joinOk_no (k := k) (n := ps.length) (by omega) (joinOk_has (by rw [HP.out]; exact HY.out))))
                    go_wp2
                    (try rw [Exit.noGoto_ret])
                    go_ret2
                    rw [HJ.out.1, HJ.out.2]
                    exact ⟨rfl, (by first | exact belowN (belowN hb _) _ | exact belowN hb _)⟩
                  · have HY : Hid (HasB (s.data.toList.take (j + 1)) sep[0] = false) := Lib.hid (by
                      have := HN.out
                      unfold HasB at this ⊢
                      rw [takeS s j hjl]; simp only [List.contains_eq_mem, decide_eq_false_iff_not, List.mem_append, List.mem_singleton, not_or] at this ⊢
                      exact ⟨this, fun e => hc e.symm⟩)
                    have hq := byteNe hc
                    clear hc
                    go_wp2
                    go_quiet (fail)
                    go_wp2
                    go_roundw
                    case rel => exact ⟨j + 1, _, by omega, by go_num, rfl, HY.out, rfl⟩
                    case measure => simp [intOf]; omega
                · have HY : Hid (HasB s.data.toList sep[0] = false) := Lib.hid (by rw [← takeAllS s j hjl]; exact HN.out)
                  have HO2 := HO1.all (low_drewN wr q)
                  have HB2 := belowN hb q
                  have hz2 := HB2.size
                  have hln : P.length + s.size ≤ 1073741824 := by rw [HPL.out]; omega
                  go_wp2_with (at_builtin; refine wpList_appendB_str _ rfl (.tmp 51) (.tmp 52) 22 9 rfl Try.underlying22 Try.underlying9 info_byte w.heap.size _ _ s rfl rfl HO2 hln hz2 ?_)
                  intro A5 c5 w5 ho5 hg5
                  have HOK5 := Lib.hid (joinOk_step HOK.out (by rw [HP.out]; exact HY.out) (by rw [HYL.out]; exact hfit))
                  have HB5 := HB2.grown hg5 hz2 (fun q hq => (HO2.lt q hq).1)
                  rw [← HPS.out] at ho5
                  have HL5 := Lib.hid (show P.length + s.size = (joinL sep[0] ps (k + 1)).length by rw [HYL.out, HPL.out])
                  go_wp2
                  go_roundg g
                  case rel => exact ⟨k + 1, A5, c5, by omega, by go_num, rfl, by rw [← HL5.out], by rw [← HL5.out]; exact ho5, HOK5.out, HB5⟩
                  case measure => omega
            · have hfit' : (4000 : Int) < (((joinL sep[0] ps k).length : Nat) : Int) + (s.size : Int) := by omega
              have HJ := Lib.hid (joins_no (ps := ps) h1 (joinOk_no (k := k) (n := ps.length) (by omega) (joinOk_long (by rw [HYL.out]; omega))))
              go_wp2
              (try rw [Exit.noGoto_ret])
              go_ret2
              rw [HJ.out.1, HJ.out.2]
              exact ⟨rfl, hb⟩
    · have HJ := Lib.hid (joins_sign (ps := ps) h1)
      have h1' : ¬ (sep.size : Int) = 1 := by omega
      go_enter Try.func10, Try.ntmps10
      go_wp2
      go_step3
      go_wp2
      (try rw [Exit.noGoto_ret])
      go_ret2
      rw [HJ.out.1, HJ.out.2]
      exact ⟨rfl, Below.refl _ _⟩
  · obtain rfl : n = 0 := by omega
    obtain rfl := List.eq_nil_of_length_eq_zero hl
    go_enter Try.func10, Try.ntmps10
    go_wp2
    go_step3
    go_wp2
    (try rw [Exit.noGoto_ret])
    go_ret2
    rw [joins_none.1, joins_none.2]
    exact ⟨rfl, Below.refl _ _⟩
end Go.Proofs.Ytdfijojkkmpllaa
