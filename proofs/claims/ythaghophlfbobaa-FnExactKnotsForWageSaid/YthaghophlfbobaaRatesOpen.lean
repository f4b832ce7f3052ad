/- How the struct Rates and slices of it come in. No condition. -/
import Derived.Test.YthaghophlfbobaaRatesData
import Derived.Test.YthaghophlfbobaaOpens
namespace Go.Proofs.Ythaghophlfbobaa
open Go.RowKit Go.ChangeShapes Go.WideShapes Go.ChangeAt Go.Deep

section
variable {H : Type} {enc : TypeId × Value → H} {w : World} {base : Nat} {spare : Nat → Bool} {held : Bool}
set_option maxRecDepth 100000 in
theorem open_cells_Rates {fuel : Nat} {cs : List Value} {x : DataW H × List MemPlace} (h : DataW.trod enc Try.prog w base spare held fuel 36 cs = some x) : ∃ a : RatesR, ratesL.ok a ∧ cs = ratesL.enc a := by
  have hs := Try.underlying36
  obtain ⟨xs, n, _, _, hl, hx, hf⟩ := DataW.trod_struct hs h
  have hone := (show ∀ fs, Try.prog.underlying 36 = some (.struct fs) → oneCellFields Try.prog fs = true by intro fs hfs; rw [hs] at hfs; cases hfs; kernel_rfl) _ hs
  rw [show Try.prog.cellsOf 36 = 5 by kernel_rfl] at hl
  match cs, hl, xs, hx, hf with
  | [c0, c1, c2, c3, c4], _, [y0, y1, y2, y3, y4], _, hf =>
    have h0 := hf 0 _ rfl
    obtain ⟨o0, k0⟩ := hone_of hone 0 _ rfl
    rw [o0, k0] at h0
    replace h0 := h0.trans (show _ = some y0 from rfl)
    obtain ⟨n0, e0, _, w0⟩ := DataW.trod_int Try.underlying3 h0
    have h1 := hf 1 _ rfl
    obtain ⟨o1, k1⟩ := hone_of hone 1 _ rfl
    rw [o1, k1] at h1
    replace h1 := h1.trans (show _ = some y1 from rfl)
    obtain ⟨n1, e1, _, w1⟩ := DataW.trod_int Try.underlying3 h1
    have h2 := hf 2 _ rfl
    obtain ⟨o2, k2⟩ := hone_of hone 2 _ rfl
    rw [o2, k2] at h2
    replace h2 := h2.trans (show _ = some y2 from rfl)
    obtain ⟨n2, e2, _, w2⟩ := DataW.trod_int Try.underlying3 h2
    have h3 := hf 3 _ rfl
    obtain ⟨o3, k3⟩ := hone_of hone 3 _ rfl
    rw [o3, k3] at h3
    replace h3 := h3.trans (show _ = some y3 from rfl)
    obtain ⟨n3, e3, _, w3⟩ := DataW.trod_int Try.underlying3 h3
    have h4 := hf 4 _ rfl
    obtain ⟨o4, k4⟩ := hone_of hone 4 _ rfl
    rw [o4, k4] at h4
    replace h4 := h4.trans (show _ = some y4 from rfl)
    obtain ⟨n4, e4, _, w4⟩ := DataW.trod_int Try.underlying3 h4
    simp only [List.drop_zero, List.drop_succ_cons, List.take_succ_cons, List.take_zero, List.cons.injEq, and_true] at e0 e1 e2 e3 e4
    subst e0 e1 e2 e3 e4
    exact ⟨⟨n0, n1, n2, n3, n4⟩, ⟨kit.wf_bd w0, kit.wf_bd w1, kit.wf_bd w2, kit.wf_bd w3, kit.wf_bd w4⟩, rfl⟩
end
section
variable {H : Type} {enc : TypeId × Value → H} {w : World} {r : Reach} {b0 base : Nat} {held : Bool} {v : Value} {d : DataW H} {p : List MemPlace}
set_option maxRecDepth 100000 in
theorem open_Rates (hv : Value.okWide Try.prog w r b0 36 v) (h : DataW.Trod enc Try.prog w base (fun _ => true) held 36 v d p) : ∃ s : RatesR, v = .agg #[.int .i64 s.f0, .int .i64 s.f1, .int .i64 s.f2, .int .i64 s.f3, .int .i64 s.f4] ∧ s.ok := by
  obtain ⟨a, ha, rfl⟩ := open_flat_val ratesL (fun _ _ _ h => open_cells_Rates h) Try.underlying36 hv h
  exact ⟨a, rfl, ha⟩
end
end Go.Proofs.Ythaghophlfbobaa
