/- The walks of VerifyChecksum, the program's and the model's, and of the two exact laws. -/
import Derived.Test.YtojfjadmgaogcaaDoorSealT
namespace Go.Proofs.YtojfjadmgaogcaaDoor
open Go.RowKit

theorem own_read {w : World} {base e : Nat} {v : Value} {n : Nat} {xs : List Value} (h : w.ownsRow base e 1 v n xs) (hn : 0 < n) :
    ∃ g cap, v = .slice (some ⟨g, 0, none⟩) n cap ∧ base ≤ g ∧ n ≤ cap ∧ cap ≤ maxLen ∧ g < w.heap.size ∧ ∀ j u, xs[j]? = some u → w.cell? ⟨g, j, none⟩ = some u := by
  have hc := h
  obtain ⟨_, ⟨rfl, h0⟩ | ⟨g, cap, cur, rfl, hb, hg, hle, hm, _⟩⟩ := h
  · omega
  · have hlt := (hc.lt g rfl).2
    refine ⟨g, cap, rfl, hb, hle, hm, hlt, fun j u hu => ?_⟩
    have := hc.cells (g := g) rfl j u hu
    cases j with
    | zero => simpa [Addr.add] using this
    | succ j => simpa [Addr.add] using this

/-- The first part of a split text. -/
theorem split_first (s : ByteArray) (c : UInt8) (w w' : World) (e : Ending) (h : SplitEnd s.data.toList c w e w') :
    ∃ g n cap t, e = .returned (.slice (some ⟨g, 0, none⟩) n cap) ∧ 1 ≤ n ∧ n ≤ cap ∧ cap ≤ maxLen ∧ w'.cell? ⟨g, 0, none⟩ = some (.string t) ∧ t.data.toList = s.data.toList.takeWhile (· ≠ c) ∧ Below w.heap.size w w' := by
  obtain ⟨v, P, rfl, hO, hP⟩ := h
  match P, hP, hO with
  | [], hP, _ => exact absurd hP.symm (splitGo_ne c _ _)
  | t :: r, hP, hO =>
    obtain ⟨g, cap, rfl, _, hle, hm, _, hcell⟩ := own_read hO.own (by simp)
    refine ⟨g, _, cap, t, rfl, by simp, hle, hm, hcell 0 _ (by simp), ?_, hO.below⟩
    have := splitL_head c s.data.toList
    rw [← hP] at this
    simpa using this
theorem txtB_of (s t : ByteArray) (h : t.data.toList = s.data.toList.takeWhile (· ≠ 35)) : t = txtB s :=
  ByteArray.ext (Array.toList_inj.1 (by rw [h, txtB_toList]))
theorem low_drewT (w : World) (n : Nat) : Below w.heap.size w (w.drewN n) := below_drewN w n

theorem cut_any (s : ByteArray) (w : World) (hs : s.size ≤ 1048576) (hV : EnvS w) :
    Calls Tryd.prog 30 #[.string s, .string hash1] w fun e w' => (∃ x b, e = .returned (.tuple #[.string (txtB s), .string x, .bool b])) ∧ ∃ n, w' = w.drewN n :=
  (Tryd.strings_Cut_shaped s hash1 w hV.shape (by omega)).mono fun e w' ⟨he, hw⟩ => by
    have : (⟨(Lib.cut s.data.toList hash1.data.toList).1.toArray⟩ : ByteArray) = txtB s := by
      unfold txtB; rw [show hash1.data.toList = [35] from rfl, cut_one]
    rw [this] at he
    exact ⟨⟨_, _, he⟩, hw⟩
set_option maxRecDepth 100000 in
set_option maxHeartbeats 400000 in
theorem clone_any (s : ByteArray) (w : World) (hs : s.size ≤ 1048576) :
    Calls Tryd.prog 31 #[.string s] w fun e w' => e = .returned (.string s) ∧ Below w.heap.size w w' := by
  go_enter Tryd.func31, Tryd.ntmps31
  go_wp2_with (go_at_call 39; refine (Tryd.stringslite_Clone _ _ (by omega)).mono ?_; rintro e w' ⟨rfl, hb⟩)
  go_ret
  exact ⟨rfl, hb⟩

set_option maxRecDepth 100000 in
set_option maxHeartbeats 1000000 in
theorem implVerify_any (s : ByteArray) (w : World) (hs : s.size ≤ 1048576) (hV : EnvS w) :
    Calls Tryd.prog 14 #[.string s] w fun e w' => e = verE s ∧ Below w.heap.size w w' := by
  have htx : (txtB s).size ≤ 1048576 := by have := txt_le s; omega
  have HV := Lib.hid hV
  clear hV
  by_cases hq : s.size ≤ 4000 ∧ sealB (txtB s) = s
  · have hE := Lib.hid (show verE s = _ from if_pos hq)
    have HA := Lib.hid ((ver_iff s).2 hq)
    have hq' := strEq (show s = s from rfl)
    clear hq
    go_enter Tryd.func14, Tryd.ntmps14
    go_wp2_with (first | (go_at_call 30; refine (cut_any _ _ hs HV.out).mono ?_; rintro e w1 ⟨⟨x, b, rfl⟩, n, rfl⟩; have HV' := Lib.hid (HV.out.below (below_drewN w n) rfl); go_wp2_with fail; refine (implAppend_any _ _ htx HV'.out).mono ?_; rintro e w2 ⟨he, hb⟩; rw [HA.out] at he; subst he) | (go_at_call 31; refine (clone_any _ _ htx).mono ?_; rintro e w3 ⟨rfl, hb3⟩))
    go_ret2
    exact ⟨hE.out.symm, ((below_drewN w _).trans hb).trans (hb3.mono hb.size)⟩
  · have hE := Lib.hid (show verE s = _ from if_neg hq)
    by_cases hap : (txtB s).size ≤ 4000 ∧ (txtB s).data.toList.contains 35 = false ∧ (sealB (txtB s)).size ≤ 4000
    · have HA := Lib.hid (show apE (txtB s) = _ from if_pos hap)
      have hq' := strNe (show sealB (txtB s) ≠ s from fun g => hq ⟨by rw [← g]; exact hap.2.2, g⟩)
      clear hq hap
      go_enter Tryd.func14, Tryd.ntmps14
      go_wp2_with (first | (go_at_call 30; refine (cut_any _ _ hs HV.out).mono ?_; rintro e w1 ⟨⟨x, b, rfl⟩, n, rfl⟩; have HV' := Lib.hid (HV.out.below (below_drewN w n) rfl); go_wp2_with fail; refine (implAppend_any _ _ htx HV'.out).mono ?_; rintro e w2 ⟨he, hb⟩; rw [HA.out] at he; subst he))
      go_ret2
      exact ⟨hE.out.symm, (below_drewN w _).trans hb⟩
    · have HA := Lib.hid (show apE (txtB s) = _ from if_neg hap)
      clear hq hap
      go_enter Tryd.func14, Tryd.ntmps14
      go_wp2_with (first | (go_at_call 30; refine (cut_any _ _ hs HV.out).mono ?_; rintro e w1 ⟨⟨x, b, rfl⟩, n, rfl⟩; have HV' := Lib.hid (HV.out.below (below_drewN w n) rfl); go_wp2_with fail; refine (implAppend_any _ _ htx HV'.out).mono ?_; rintro e w2 ⟨he, hb⟩; rw [HA.out] at he; subst he))
      go_ret2
      exact ⟨hE.out.symm, (below_drewN w _).trans hb⟩
theorem envS {W : World} {r : List (String × DataW Unit)} (h : laidMet Tryd.prog (("internal/strconv.uint64pow10", Rows.laid_internal_strconv_uint64pow10) :: r) W) (hs : W.ShapedOpen Tryd.prog) : EnvS W := ⟨tab_of h, hs⟩
theorem specAppend_below (s : ByteArray) (w : World) (hs : s.size ≤ 1048576) : Calls Tryd.prog 13 #[.string s] w fun e w' => e = apE s ∧ Below w.heap.size w w' :=
  (specAppend_any s w hs).mono fun e w' ⟨he, n, hw⟩ => ⟨he, by subst hw; exact below_drewN w n⟩
end Go.Proofs.YtojfjadmgaogcaaDoor
