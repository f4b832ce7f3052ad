/- The walks of FillArea, both texts. No condition. -/
import Derived.Test.YtpnmnkdnlajfiaaNeighborsS
namespace Go.Proofs.Ytpnmnkdnlajfiaa
open Go.RowKit

/-- A chart in which the places of P have a color. -/
def FilS (xs : List Int) (color : Int) (P : Nat → Prop) (L : List Int) : Prop := L.length = xs.length ∧ ∀ x, x < xs.length → (P x → L.getD x 0 = color) ∧ (¬ P x → L.getD x 0 = xs.getD x 0)
theorem FilS.start {xs : List Int} {color : Int} {P : Nat → Prop} (h : ∀ x, ¬ P x) : FilS xs color P xs := ⟨rfl, fun x _ => ⟨fun g => absurd g (h x), fun _ => rfl⟩⟩
theorem FilS.put {xs L : List Int} {color : Int} {P P' : Nat → Prop} {y : Nat} (h : FilS xs color P L) (hy : y < xs.length) (hP : ∀ x, P' x ↔ P x ∨ x = y) : FilS xs color P' (L.set y color) := by
  refine ⟨by rw [List.length_set]; exact h.1, fun x hx => ?_⟩
  rw [hP x]
  by_cases e : x = y
  · subst e
    refine ⟨fun _ => getD_set_self (by rw [h.1]; exact hx), fun g => absurd (.inr rfl) g⟩
  · rw [getD_set_ne e]
    obtain ⟨h1, h2⟩ := h.2 x hx
    exact ⟨fun g => h1 (g.elim id fun e' => absurd e' e), fun g => h2 fun g' => g (.inl g')⟩
theorem FilS.congr {xs L : List Int} {color : Int} {P P' : Nat → Prop} (h : FilS xs color P L) (hP : ∀ x, P' x ↔ P x) : FilS xs color P' L :=
  ⟨h.1, fun x hx => by rw [hP x]; exact h.2 x hx⟩
noncomputable def fillL (m : Nat) (xs : List Int) (a color : Int) : List Int := (List.range xs.length).map fun x => if labAt m xs x = a then color else xs.getD x 0
theorem FilS.end_ {m : Nat} {xs L : List Int} {a color : Int} {P : Nat → Prop} (h : FilS xs color P L) (hP : ∀ x, x < xs.length → (P x ↔ labAt m xs x = a)) : L = fillL m xs a color := by
  refine List.ext_getElem (by rw [h.1, fillL]; simp) fun x hx hx' => ?_
  have hxN : x < xs.length := by rw [← h.1]; exact hx
  obtain ⟨h1, h2⟩ := h.2 x hxN
  rw [getD_at hx] at h1 h2
  simp only [fillL, List.getElem_map, List.getElem_range]
  by_cases e : labAt m xs x = a
  · rw [if_pos e]; exact h1 ((hP x hxN).2 e)
  · rw [if_neg e]; exact h2 fun g => e ((hP x hxN).1 g)
noncomputable def fillOk (W H : Int) (xs : List Int) (a color : Int) : Bool := hasArea W H xs a && isColorB color
noncomputable def fillX (W H : Int) (xs : List Int) (a color : Int) : List Int := if fillOk W H xs a color = true then fillL W.toNat xs a color else []
theorem fillX_len (W H : Int) (xs : List Int) (a color : Int) : (fillX W H xs a color).length ≤ 1048576 := by
  unfold fillX
  split
  · next h =>
    have h1 : goodB W H xs = true := by simp only [fillOk, hasArea, Bool.and_eq_true] at h; exact h.1.1
    have := (good_bd h1).1
    simp [fillL]; omega
  · simp
theorem fill_no {W H : Int} {xs : List Int} {a color : Int} (h : fillOk W H xs a color = false) : orZero (fillOk W H xs a color) W = 0 ∧ orZero (fillOk W H xs a color) H = 0 ∧ fillX W H xs a color = [] := ⟨by rw [h]; rfl, by rw [h]; rfl, if_neg (by rw [h]; decide)⟩
theorem fill_yes {m k : Nat} {xs : List Int} {a color : Int} (h : fillOk m k xs a color = true) : orZero (fillOk m k xs a color) m = m ∧ orZero (fillOk m k xs a color) k = k ∧ fillX m k xs a color = fillL m xs a color := ⟨by rw [h]; rfl, by rw [h]; rfl, if_pos h⟩
theorem fillOk_1 {W H : Int} {xs : List Int} {a color : Int} (h : hasArea W H xs a = false) : fillOk W H xs a color = false := by simp [fillOk, h]
theorem fillOk_2 {W H : Int} {xs : List Int} {a color : Int} (h : isColorB color = false) : fillOk W H xs a color = false := by simp [fillOk, h]
theorem fillOk_3 {W H : Int} {xs : List Int} {a color : Int} (h : hasArea W H xs a = true) (h' : isColorB color = true) : fillOk W H xs a color = true := by simp [fillOk, h, h']
end Go.Proofs.Ytpnmnkdnlajfiaa
