/- The walks of AppendChecksum and VerifyChecksum, the program's and the model's, and of their exact laws. -/
import Derived.Test.YtojfjadmgaogcaaDoorFormatT
import Derived.Test.YtojfjadmgaogcaaDoorSumT
import Derived.Test.YtojfjadmgaogcaaDoorSplitT
import Derived.Test.YtojfjadmgaogcaaDoorSealMathT
import Derived.ChangeAgain
namespace Go.Proofs.YtojfjadmgaogcaaDoor
open Go.RowKit

structure EnvS (w : World) : Prop where
  tab : Tab w
  shape : w.ShapedOpen Tryd.prog
theorem shape_below {w w' : World} (h : w.ShapedOpen Tryd.prog) (hb : Below w.heap.size w w') : w'.ShapedOpen Tryd.prog :=
  h.keptBut (hb.frame (fun _ => False)) (fun _ h => h.elim)
theorem EnvS.below {w w' : World} (h : EnvS w) {B : Nat} (hb : Below B w w') (hB : B = w.heap.size) : EnvS w' := by
  subst hB; exact ⟨h.tab.below hb rfl, shape_below h.shape hb⟩
theorem strEq {a b : ByteArray} (h : a = b) : (a.toList == b.toList) = true := by rw [h]; exact beq_self_eq_true _
theorem strNe {a b : ByteArray} (h : a ≠ b) : (a.toList == b.toList) = false := by
  apply beq_eq_false_iff_ne.2; intro g; apply h
  rw [ByteArray.toList_eq, ByteArray.toList_eq] at g
  exact ByteArray.ext (Array.toList_inj.1 g)

set_option maxRecDepth 100000 in
set_option maxHeartbeats 400000 in
theorem l1Seal_any (s : ByteArray) (w : World) (hs : s.size ≤ 1048576) :
    Calls Tryd.prog 29 #[.string s] w fun e w' => e = .returned (.string (sealB s)) ∧ ∃ n, w' = w.drewN n := by
  have h6 := chk6 s
  have hz := numB_size _ h6.1 h6.2
  have hE := Lib.hid (show s ++ hash1 ++ numB (chk s.data.toList) = sealB s from rfl)
  have hm : s.size ≤ maxLen := by unfold maxLen; omega
  go_enter Tryd.func29, Tryd.ntmps29
  go_wp2_with (first | (go_at_call 37; refine (l1Sum_any _ _ hm).mono ?_; rintro e w' ⟨rfl, rfl⟩) | (go_at_call 20; refine (l1Num_any _ h6.1 h6.2 _).mono ?_; rintro e w' ⟨rfl, m, rfl⟩))
  go_ret
  exact ⟨by rw [← hE.out]; rfl, _, rfl⟩

set_option maxRecDepth 100000 in
set_option maxHeartbeats 1000000 in
theorem specAppend_any (s : ByteArray) (w : World) (hs : s.size ≤ 1048576) :
    Calls Tryd.prog 13 #[.string s] w fun e w' => e = apE s ∧ ∃ n, w' = w.drewN n := by
  have hm : s.size ≤ maxLen := by unfold maxLen; omega
  by_cases h4 : s.size ≤ 4000
  · cases hst : s.data.toList.contains 35 with
    | true =>
      have hE := Lib.hid (show apE s = _ from if_neg (by rw [hst]; simp))
      have HS := Lib.hid (show HasB s.data.toList 35 = true from hst)
      clear hst
      go_enter Tryd.func13, Tryd.ntmps13
      go_wp2_with (first | (go_at_call 28; refine (l1Stands_any _ (35 : UInt8) _ hm).mono ?_; rintro e w' ⟨he, rfl⟩; rw [HS.out] at he; subst he) | (go_at_call 29; refine (l1Seal_any _ _ hs).mono ?_; rintro e w' ⟨rfl, m, rfl⟩))
      go_ret2
      exact ⟨hE.out.symm, 0, rfl⟩
    | false =>
      have HS := Lib.hid (show HasB s.data.toList 35 = false from hst)
      by_cases hz : (sealB s).size ≤ 4000
      · have hE := Lib.hid (show apE s = _ from if_pos ⟨h4, hst, hz⟩)
        clear hst
        go_enter Tryd.func13, Tryd.ntmps13
        go_wp2_with (first | (go_at_call 28; refine (l1Stands_any _ (35 : UInt8) _ hm).mono ?_; rintro e w' ⟨he, rfl⟩; rw [HS.out] at he; subst he) | (go_at_call 29; refine (l1Seal_any _ _ hs).mono ?_; rintro e w' ⟨rfl, m, rfl⟩))
        go_ret2
        exact ⟨hE.out.symm, _, rfl⟩
      · have hE := Lib.hid (show apE s = _ from if_neg (fun g => hz g.2.2))
        clear hst
        go_enter Tryd.func13, Tryd.ntmps13
        go_wp2_with (first | (go_at_call 28; refine (l1Stands_any _ (35 : UInt8) _ hm).mono ?_; rintro e w' ⟨he, rfl⟩; rw [HS.out] at he; subst he) | (go_at_call 29; refine (l1Seal_any _ _ hs).mono ?_; rintro e w' ⟨rfl, m, rfl⟩))
        go_ret2
        exact ⟨hE.out.symm, _, rfl⟩
  · have hE := Lib.hid (show apE s = _ from if_neg (fun g => h4 g.1))
    go_enter Tryd.func13, Tryd.ntmps13
    go_wp2_with fail
    go_ret2
    exact ⟨hE.out.symm, 0, rfl⟩

set_option maxRecDepth 100000 in
set_option maxHeartbeats 1000000 in
theorem implAppend_any (s : ByteArray) (w : World) (hs : s.size ≤ 1048576) (hV : EnvS w) :
    Calls Tryd.prog 12 #[.string s] w fun e w' => e = apE s ∧ Below w.heap.size w w' := by
  by_cases h4 : s.size ≤ 4000
  · have h6 := chk6 s
    have hnz := numB_size _ h6.1 h6.2
    have HF := Lib.hid (show fmtE (chk s.data.toList) = _ from if_pos h6)
    have HC := Lib.hid (contains_one s.data.toList 35)
    have HV := Lib.hid hV
    have h63 : s.size < 4294967281 := by omega
    clear hV
    cases hst : s.data.toList.contains 35 with
    | true =>
      have hE := Lib.hid (show apE s = _ from if_neg (by rw [hst]; simp))
      have HS := Lib.hid (show Lib.contains s.data.toList hash1.data.toList = true from HC.out.trans hst)
      clear hst
      go_enter Tryd.func12, Tryd.ntmps12
      go_wp2_with (first | (go_at_call 26; refine (implChecksum_ok _ _ h4).mono ?_; rintro e w' ⟨rfl, rfl⟩) | (go_at_call 27; refine (Tryd.strings_Contains_shaped _ hash1 _ HV.out.shape h63).mono ?_; rintro e w' ⟨he, rfl⟩; rw [HS.out] at he; subst he))
      go_ret2
      exact ⟨hE.out.symm, Below.refl _ _⟩
    | false =>
      have HS := Lib.hid (show Lib.contains s.data.toList hash1.data.toList = false from HC.out.trans hst)
      have HX := Lib.hid (show s ++ hash1 ++ numB (chk s.data.toList) = sealB s from rfl)
      have hsz : (sealB s).size = s.size + 1 + (numB (chk s.data.toList)).size := by
        unfold sealB; rw [ByteArray.size_append, ByteArray.size_append]; rfl
      by_cases hz : (sealB s).size ≤ 4000
      · have hE := Lib.hid (show apE s = _ from if_pos ⟨h4, hst, hz⟩)
        have hz' : s.size + 1 + (numB (chk s.data.toList)).size ≤ 4000 := by omega
        clear hst hz hsz
        go_enter Tryd.func12, Tryd.ntmps12
        go_wp2_with (first | (go_at_call 26; refine (implChecksum_ok _ _ h4).mono ?_; rintro e w' ⟨rfl, rfl⟩) | (go_at_call 27; refine (Tryd.strings_Contains_shaped _ hash1 _ HV.out.shape h63).mono ?_; rintro e w' ⟨he, rfl⟩; rw [HS.out] at he; subst he) | (go_at_call 6; refine (implFormat_any _ _ HV.out.tab).mono ?_; rintro e w' ⟨he, hb⟩; rw [HF.out] at he; subst he))
        go_ret2
        exact ⟨hE.out.symm, hb⟩
      · have hE := Lib.hid (show apE s = _ from if_neg (fun g => hz g.2.2))
        have hz' : 4000 < s.size + 1 + (numB (chk s.data.toList)).size := by omega
        clear hst hz hsz
        go_enter Tryd.func12, Tryd.ntmps12
        go_wp2_with (first | (go_at_call 26; refine (implChecksum_ok _ _ h4).mono ?_; rintro e w' ⟨rfl, rfl⟩) | (go_at_call 27; refine (Tryd.strings_Contains_shaped _ hash1 _ HV.out.shape h63).mono ?_; rintro e w' ⟨he, rfl⟩; rw [HS.out] at he; subst he) | (go_at_call 6; refine (implFormat_any _ _ HV.out.tab).mono ?_; rintro e w' ⟨he, hb⟩; rw [HF.out] at he; subst he))
        go_ret2
        exact ⟨hE.out.symm, hb⟩
  · have hE := Lib.hid (show apE s = _ from if_neg (fun g => h4 g.1))
    have HV := Lib.hid hV
    have h4' : 4000 < s.size := by omega
    clear hV h4
    go_enter Tryd.func12, Tryd.ntmps12
    go_wp2_with (go_at_call 26; refine (implChecksum_no _ _ h4').mono ?_; rintro e w' ⟨rfl, rfl⟩)
    go_ret2
    exact ⟨hE.out.symm, Below.refl _ _⟩
end Go.Proofs.YtojfjadmgaogcaaDoor
