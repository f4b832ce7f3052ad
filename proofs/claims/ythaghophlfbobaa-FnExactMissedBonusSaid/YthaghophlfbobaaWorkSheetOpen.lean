/- How the struct WorkSheet and slices of it come in. No condition. -/
import Derived.Test.YthaghophlfbobaaWorkSheetData
import Derived.Test.YthaghophlfbobaaOpens
namespace Go.Proofs.Ythaghophlfbobaa
open Go.RowKit Go.ChangeShapes Go.WideShapes Go.ChangeAt Go.Deep

section
variable {H : Type} {enc : TypeId × Value → H} {w : World} {base : Nat} {spare : Nat → Bool} {held : Bool}
set_option maxRecDepth 100000 in
theorem open_cells_WorkSheet {fuel : Nat} {cs : List Value} {x : DataW H × List MemPlace} (h : DataW.trod enc Try.prog w base spare held fuel 23 cs = some x) : ∃ a : WorkSheetR, workSheetL.ok a ∧ cs = workSheetL.enc a := by
  have hs := Try.underlying23
  obtain ⟨xs, n, _, _, hl, hx, hf⟩ := DataW.trod_struct hs h
  have hone := (show ∀ fs, Try.prog.underlying 23 = some (.struct fs) → oneCellFields Try.prog fs = true by intro fs hfs; rw [hs] at hfs; cases hfs; kernel_rfl) _ hs
  rw [show Try.prog.cellsOf 23 = 5 by kernel_rfl] at hl
  match cs, hl, xs, hx, hf with
  | [c0, c1, c2, c3, c4], _, [y0, y1, y2, y3, y4], _, hf =>
    have h0 := hf 0 _ rfl
    obtain ⟨o0, k0⟩ := hone_of hone 0 _ rfl
    rw [o0, k0] at h0
    replace h0 := h0.trans (show _ = some y0 from rfl)
    obtain ⟨n0, e0, _, w0⟩ := DataW.trod_int Try.underlying3 h0
    have h1 := hf 1 _ rfl
    obtain ⟨o1, k1⟩ := hone_of hone 1 _ rfl
    rw [o1, k1] at h1
    replace h1 := h1.trans (show _ = some y1 from rfl)
    obtain ⟨n1, e1, _, w1⟩ := DataW.trod_int Try.underlying3 h1
    have h2 := hf 2 _ rfl
    obtain ⟨o2, k2⟩ := hone_of hone 2 _ rfl
    rw [o2, k2] at h2
    replace h2 := h2.trans (show _ = some y2 from rfl)
    obtain ⟨n2, e2, _, w2⟩ := DataW.trod_int Try.underlying3 h2
    have h3 := hf 3 _ rfl
    obtain ⟨o3, k3⟩ := hone_of hone 3 _ rfl
    rw [o3, k3] at h3
    replace h3 := h3.trans (show _ = some y3 from rfl)
    obtain ⟨n3, e3, _, w3⟩ := DataW.trod_int Try.underlying3 h3
    have h4 := hf 4 _ rfl
    obtain ⟨o4, k4⟩ := hone_of hone 4 _ rfl
    rw [o4, k4] at h4
    replace h4 := h4.trans (show _ = some y4 from rfl)
    obtain ⟨n4, e4, _, w4⟩ := DataW.trod_int Try.underlying3 h4
    simp only [List.drop_zero, List.drop_succ_cons, List.take_succ_cons, List.take_zero, List.cons.injEq, and_true] at e0 e1 e2 e3 e4
    subst e0 e1 e2 e3 e4
    exact ⟨⟨n0, n1, n2, n3, n4⟩, ⟨kit.wf_bd w0, kit.wf_bd w1, kit.wf_bd w2, kit.wf_bd w3, kit.wf_bd w4⟩, rfl⟩
end
section
variable {H : Type} {enc : TypeId × Value → H} {w : World} {r : Reach} {b0 base : Nat} {held : Bool} {v : Value} {d : DataW H} {p : List MemPlace}
set_option maxRecDepth 100000 in
theorem open_WorkSheet (hv : Value.okWide Try.prog w r b0 23 v) (h : DataW.Trod enc Try.prog w base (fun _ => true) held 23 v d p) : ∃ s : WorkSheetR, v = .agg #[.int .i64 s.f0, .int .i64 s.f1, .int .i64 s.f2, .int .i64 s.f3, .int .i64 s.f4] ∧ s.ok := by
  obtain ⟨a, ha, rfl⟩ := open_flat_val workSheetL (fun _ _ _ h => open_cells_WorkSheet h) Try.underlying23 hv h
  exact ⟨a, rfl, ha⟩
set_option maxRecDepth 100000 in
theorem open_WorkSheetS (hv : Value.okWide Try.prog w r b0 28 v) (h : DataW.Trod enc Try.prog w base (fun _ => true) held 28 v d p) : ∃ A n c xs, v = .slice A n c ∧ RdF workSheetL w w.heap.size A n c xs := by
  obtain ⟨A0, n0, c0, rfl, _⟩ := okWide_slice Try.underlying28 hv
  obtain ⟨fuel, hf⟩ := h
  obtain ⟨A, n, c, xs, e, hr⟩ := open_flat workSheetL (by decide) (fun _ _ _ h => open_cells_WorkSheet h) Try.underlying28 (by kernel_rfl) hf
  cases e
  exact ⟨_, _, _, xs, rfl, hr⟩
end
end Go.Proofs.Ythaghophlfbobaa
