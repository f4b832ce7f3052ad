/- How a law's arguments come in that are structs of numbers and strings, or slices of them. No condition. -/
import Derived.Test.YthaghophlfbobaaSeq
import Derived.Test.YthaghophlfbobaaKit
import Derived.OpenShut
import Derived.Deep.Slices
import Derived.Deep.Fields
import Derived.ChangeSame
namespace Go.Proofs.Ythaghophlfbobaa
open Go.RowKit Go.ChangeShapes Go.WideShapes Go.ChangeAt Go.Deep

theorem pick_list {α : Type} {P : Nat → α → Prop} : ∀ n : Nat, (∀ i, i < n → ∃ a, P i a) → ∃ xs : List α, xs.length = n ∧ ∀ i a, xs[i]? = some a → P i a := by
  intro n
  induction n with
  | zero => intro _; exact ⟨[], rfl, fun i a h => by simp at h⟩
  | succ n ih =>
    intro h
    obtain ⟨xs, hl, hx⟩ := ih fun i hi => h i (by omega)
    obtain ⟨a, ha⟩ := h n (by omega)
    refine ⟨xs ++ [a], by simp [hl], fun i b hb => ?_⟩
    by_cases hi : i < xs.length
    · rw [List.getElem?_append_left hi] at hb; exact hx i b hb
    · have hlt := (List.getElem?_eq_some_iff.1 hb).1
      rw [List.length_append, List.length_singleton] at hlt
      obtain rfl : i = n := by omega
      rw [List.getElem?_append_right (by omega), hl, Nat.sub_self] at hb
      obtain rfl : a = b := by simpa using hb
      exact ha

section
variable {H : Type} {enc : TypeId × Value → H} {P : Program} {w : World} {base : Nat} {held : Bool} {α : Type}
theorem open_flat (F : Flat α) {t : TypeId} {fuel : Nat} {cs : List Value} {x : DataW H × List MemPlace} (hk : 0 < F.k)
    (hop : ∀ (fuel : Nat) (cs : List Value) (x : DataW H × List MemPlace), DataW.trod enc P w base (fun _ => true) held fuel F.t cs = some x → ∃ a, F.ok a ∧ cs = F.enc a)
    (ht : P.underlying t = some (.slice F.t)) (hc : P.cellsOf F.t = F.k) (h : DataW.trod enc P w base (fun _ => true) held fuel t cs = some x) :
    ∃ A n c xs, cs = [.slice A n c] ∧ RdF F w w.heap.size A n c xs := by
  rcases open_slice ht h with ⟨rfl, _⟩ | ⟨a, len, cap, m, n, D, Pl, rfl, _, hl, hm, hmm, _, hi⟩
  · exact ⟨none, 0, 0, [], rfl, rfl, Nat.le_refl _, Nat.zero_le _, fun h => by omega, fun x hx => by simp at hx, fun _ => ⟨rfl, rfl⟩⟩
  · simp only [if_true] at hmm
    subst hmm
    obtain ⟨xs, hxl, hx⟩ := pick_list (P := fun i (b : α) => F.ok b ∧ ∀ j v, (F.enc b)[j]? = some v → w.cell? (a.add (i * F.k + j)) = some v) len (by
      intro i hil
      obtain ⟨cs', hcs, htr⟩ := hi i (by omega)
      obtain ⟨b, hb, rfl⟩ := hop _ _ _ htr
      rw [hc] at hcs
      obtain ⟨_, _, hcell⟩ := World.cells?_some hcs
      refine ⟨b, hb, fun j v hv => ?_⟩
      have hj : j < F.k := by have := (List.getElem?_eq_some_iff.1 hv).1; rwa [F.len] at this
      rw [← Go.Deep.add_add, hcell j hj, hv])
    refine ⟨some a, len, m, xs, rfl, hxl, hl, hm, fun hn => ?_, fun b hb => ?_, fun h => by cases h⟩
    · obtain ⟨b, off, spot⟩ := a
      obtain ⟨y, hy⟩ : ∃ y, xs[0]? = some y := ⟨_, List.getElem?_eq_getElem (by omega)⟩
      obtain ⟨v, hv⟩ : ∃ v, (F.enc y)[0]? = some v := ⟨_, List.getElem?_eq_getElem (by rw [F.len]; exact hk)⟩
      have h0 := (hx 0 y hy).2 0 v hv
      have hspot : spot = none := by simpa [Addr.add] using World.cell?_spot h0
      subst hspot
      refine ⟨b, off, rfl, ?_, fun j i c v hj hv => ?_⟩
      · have := World.block_lt_of_cell? w _ h0
        simpa [Addr.add] using this
      · have := (hx j c hj).2 i v hv
        have e : (⟨b, off, none⟩ : Addr).add (j * F.k + i) = ⟨b, off + (j * F.k + i), none⟩ := by unfold Addr.add; split <;> simp_all
        rwa [e] at this
    · obtain ⟨i, hi', rfl⟩ := List.getElem_of_mem hb
      exact (hx i _ (List.getElem?_eq_getElem hi')).1
/-- A struct by value. -/
theorem open_flat_val (F : Flat α) {r : Reach} {b0 : Nat} {fs : Array Field} {v : Value} {d : DataW H} {p : List MemPlace}
    (hop : ∀ (fuel : Nat) (cs : List Value) (x : DataW H × List MemPlace), DataW.trod enc P w base (fun _ => true) held fuel F.t cs = some x → ∃ a, F.ok a ∧ cs = F.enc a)
    (hs : P.underlying F.t = some (.struct fs)) (hv : Value.okWide P w r b0 F.t v) (h : DataW.Trod enc P w base (fun _ => true) held F.t v d p) : ∃ a, F.ok a ∧ v = .agg (F.enc a).toArray := by
  obtain ⟨cs, rfl, _⟩ := okWide_struct hs hv
  obtain ⟨fuel, hf⟩ := h
  obtain ⟨a, ha, e⟩ := hop _ _ _ hf
  refine ⟨a, ha, ?_⟩
  have e' : cs.toList = F.enc a := e
  rw [← e']
end
end Go.Proofs.Ythaghophlfbobaa
