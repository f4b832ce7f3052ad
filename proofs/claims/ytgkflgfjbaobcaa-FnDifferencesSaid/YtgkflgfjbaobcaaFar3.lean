/- Words for a chart that is stored into its box: what keeps. No condition. -/
import Derived.Test.YtgkflgfjbaobcaaCopy
namespace Go.Proofs.Ytgkflgfjbaobcaa
open Go.RowKit

section
variable {w w0 : World} {p q B lo n c' : Nat} {t : TypeId} {a b c a' b' v : Value} {A : Option Addr} {cs : Array Value} {xs : List Int}
theorem Blk.put3b {c'' : Value} (h : Blk w p t #[a', b', c'']) : Blk (((w.setCell ⟨p, 0, none⟩ a).setCell ⟨p, 1, none⟩ b).setCell ⟨p, 2, none⟩ c) p t #[a, b, c] := by
  have := ((h.set_ 0 a).set_ 1 b).set_ 2 c
  simpa using this
theorem Blk.far3b (h : Blk w q t cs) (hp : q ≠ p) : Blk (((w.setCell ⟨p, 0, none⟩ a).setCell ⟨p, 1, none⟩ b).setCell ⟨p, 2, none⟩ c) q t cs :=
  ((h.far (a := ⟨p, 0, none⟩) hp _).far (a := ⟨p, 1, none⟩) hp _).far (a := ⟨p, 2, none⟩) hp _
theorem Own.far3b (h : Own w lo v xs) (hp : v.ownBlock ≠ some p) : Own (((w.setCell ⟨p, 0, none⟩ a).setCell ⟨p, 1, none⟩ b).setCell ⟨p, 2, none⟩ c) lo v xs :=
  ((h.far (a := ⟨p, 0, none⟩) hp a).far (a := ⟨p, 1, none⟩) hp b).far (a := ⟨p, 2, none⟩) hp c
theorem Rd.keep3 (h : Rd w B A n c' xs) (hp : B ≤ p) : Rd (((w.setCell ⟨p, 0, none⟩ a).setCell ⟨p, 1, none⟩ b).setCell ⟨p, 2, none⟩ c) B A n c' xs :=
  h.keep fun b' o hb => by
    rw [World.cell?_setCell_other _ _ _ _ (by first | (simp; done) | (simp; omega)), World.cell?_setCell_other _ _ _ _ (by first | (simp; done) | (simp; omega)), World.cell?_setCell_other _ _ _ _ (by first | (simp; done) | (simp; omega))]
end
theorem below_far3 {w0 w : World} {p B : Nat} {a b c : Value} (h : Below B w0 w) (hp : B ≤ p) : Below B w0 (((w.setCell ⟨p, 0, none⟩ a).setCell ⟨p, 1, none⟩ b).setCell ⟨p, 2, none⟩ c) :=
  ((h.setCell (p := ⟨p, 0, none⟩) hp a).setCell (p := ⟨p, 1, none⟩) hp b).setCell (p := ⟨p, 2, none⟩) hp c
/-- A cell of an older block. -/
def Cel (w : World) (b o : Nat) (v : Value) : Prop := b < w.heap.size ∧ w.cell? ⟨b, o, none⟩ = some v
section
variable {w w' : World} {b' o p : Nat} {v a b c : Value}
theorem Cel.all (h : Cel w b' o v) (hb : Below w.heap.size w w') : Cel w' b' o v := ⟨Nat.lt_of_lt_of_le h.1 hb.size, (hb.cell (p := ⟨b', o, none⟩) h.1).trans h.2⟩
theorem Cel.drew (h : Cel w b' o v) : Cel w.drew b' o v := h
theorem Cel.far3b (h : Cel w b' o v) (hp : b' ≠ p) : Cel (((w.setCell ⟨p, 0, none⟩ a).setCell ⟨p, 1, none⟩ b).setCell ⟨p, 2, none⟩ c) b' o v :=
  ⟨by simpa using h.1, by
    rw [World.cell?_setCell_other _ _ _ _ (by first | (simp; done) | (simp; omega)), World.cell?_setCell_other _ _ _ _ (by first | (simp; done) | (simp; omega)), World.cell?_setCell_other _ _ _ _ (by first | (simp; done) | (simp; omega))]
    exact h.2⟩
theorem Cel.alloc (h : Cel w b' o v) (ob : Obj) : Cel (w.alloc ob) b' o v := h.all ((Below.refl _ _).alloc (Nat.le_refl _) ob)
end
end Go.Proofs.Ytgkflgfjbaobcaa
