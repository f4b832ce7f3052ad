/- How the struct DyePart and slices of it come in. No condition. -/
import Derived.Test.YtnfleambfidllaaDyePartData
import Derived.Test.YtnfleambfidllaaOpens
namespace Go.Proofs.Ytnfleambfidllaa
open Go.RowKit Go.ChangeShapes Go.WideShapes Go.ChangeAt Go.Deep

section
variable {H : Type} {enc : TypeId × Value → H} {w : World} {base : Nat} {spare : Nat → Bool} {held : Bool}
set_option maxRecDepth 100000 in
theorem open_cells_DyePart {fuel : Nat} {cs : List Value} {x : DataW H × List MemPlace} (h : DataW.trod enc Try.prog w base spare held fuel 73 cs = some x) : ∃ a : DyePartR, dyePartL.ok a ∧ cs = dyePartL.enc a := by
  have hs := Try.underlying73
  obtain ⟨xs, n, _, _, hl, hx, hf⟩ := DataW.trod_struct hs h
  have hone := (show ∀ fs, Try.prog.underlying 73 = some (.struct fs) → oneCellFields Try.prog fs = true by intro fs hfs; rw [hs] at hfs; cases hfs; kernel_rfl) _ hs
  rw [show Try.prog.cellsOf 73 = 2 by kernel_rfl] at hl
  match cs, hl, xs, hx, hf with
  | [c0, c1], _, [y0, y1], _, hf =>
    have h0 := hf 0 _ rfl
    obtain ⟨o0, k0⟩ := hone_of hone 0 _ rfl
    rw [o0, k0] at h0
    replace h0 := h0.trans (show _ = some y0 from rfl)
    obtain ⟨n0, e0, _, w0⟩ := DataW.trod_string Try.underlying9 h0
    have h1 := hf 1 _ rfl
    obtain ⟨o1, k1⟩ := hone_of hone 1 _ rfl
    rw [o1, k1] at h1
    replace h1 := h1.trans (show _ = some y1 from rfl)
    obtain ⟨n1, e1, _, w1⟩ := DataW.trod_int Try.underlying3 h1
    simp only [List.drop_zero, List.drop_succ_cons, List.take_succ_cons, List.take_zero, List.cons.injEq, and_true] at e0 e1
    subst e0 e1
    exact ⟨⟨n0, n1⟩, ⟨w0, kit.wf_bd w1⟩, rfl⟩
end
section
variable {H : Type} {enc : TypeId × Value → H} {w : World} {r : Reach} {b0 base : Nat} {held : Bool} {v : Value} {d : DataW H} {p : List MemPlace}
set_option maxRecDepth 100000 in
theorem open_DyePart (hv : Value.okWide Try.prog w r b0 73 v) (h : DataW.Trod enc Try.prog w base (fun _ => true) held 73 v d p) : ∃ s : DyePartR, v = .agg #[.string s.f0, .int .i64 s.f1] ∧ s.ok := by
  obtain ⟨a, ha, rfl⟩ := open_flat_val dyePartL (fun _ _ _ h => open_cells_DyePart h) Try.underlying73 hv h
  exact ⟨a, rfl, ha⟩
set_option maxRecDepth 100000 in
theorem open_DyePartS (hv : Value.okWide Try.prog w r b0 46 v) (h : DataW.Trod enc Try.prog w base (fun _ => true) held 46 v d p) : ∃ A n c xs, v = .slice A n c ∧ RdF dyePartL w w.heap.size A n c xs := by
  obtain ⟨A0, n0, c0, rfl, _⟩ := okWide_slice Try.underlying46 hv
  obtain ⟨fuel, hf⟩ := h
  obtain ⟨A, n, c, xs, e, hr⟩ := open_flat dyePartL (by decide) (fun _ _ _ h => open_cells_DyePart h) Try.underlying46 (by kernel_rfl) hf
  cases e
  exact ⟨_, _, _, xs, rfl, hr⟩
end
end Go.Proofs.Ytnfleambfidllaa
