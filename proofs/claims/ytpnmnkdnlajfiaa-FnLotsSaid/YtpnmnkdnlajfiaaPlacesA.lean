/- The walk of the program's placesOfArea; which areas lie beside an area. No condition. -/
import Derived.Test.YtpnmnkdnlajfiaaMgSizes
import Derived.Test.YtpnmnkdnlajfiaaPut1Math
namespace Go.Proofs.Ytpnmnkdnlajfiaa
open Go.RowKit

noncomputable def hasArea (W H : Int) (xs : List Int) (a : Int) : Bool := goodB W H xs && inB a 0 (areasN W H xs - 1)
theorem hasArea_no1 {W H : Int} {xs : List Int} {a : Int} (h : goodB W H xs = false) : hasArea W H xs a = false := by simp [hasArea, h]
theorem hasArea_eq {m k : Nat} {xs : List Int} {a : Int} (h : goodB m k xs = true) : hasArea m k xs a = inB a 0 (((cntOf m xs : Nat) : Int) - 1) := by rw [hasArea, h, areasN_yes h]; rfl
open Classical in
/-- The areas beside an area. -/
noncomputable def nbrsL (m : Nat) (xs : List Int) (a : Int) : List Int := ((List.range (cntOf m xs)).filter fun (b : Nat) => decide ((b : Int) ≠ a ∧ ∃ y, (∃ x, x < xs.length ∧ labAt m xs x = a ∧ Nb m xs.length x y) ∧ labAt m xs y = (b : Int))).map fun (b : Nat) => (b : Int)
/-- The numbers of the places beside those of O, and beside j more ones, but for a. -/
structure NbS (m : Nat) (xs : List Int) (a : Int) (O : Nat → Prop) (NL : List Nat) (j : Nat) (M : List Int) : Prop where
  mem : ∀ v, v ∈ M ↔ v ≠ a ∧ ∃ y, ((∃ x, O x ∧ Nb m xs.length x y) ∨ ∃ jj, jj < j ∧ NL[jj]? = some y) ∧ labAt m xs y = v
section
variable {m j y : Nat} {xs : List Int} {a : Int} {O O' : Nat → Prop} {NL NL' : List Nat} {M M' : List Int}
theorem NbS.start (m : Nat) (xs : List Int) (a : Int) (h : ∀ x, ¬ O x) : NbS m xs a O NL 0 [] := ⟨fun v => by
  refine ⟨fun g => by simp at g, ?_⟩
  rintro ⟨_, y, (⟨x, hx, _⟩ | ⟨jj, hj, _⟩), _⟩
  · exact absurd hx (h x)
  · omega⟩
theorem NbS.any (h : NbS m xs a O NL 0 M) (NL' : List Nat) : NbS m xs a O NL' 0 M := ⟨fun v => by
  rw [h.mem v]
  refine and_congr_right fun _ => ⟨?_, ?_⟩
  · rintro ⟨y, (hx | ⟨jj, hj, _⟩), hv⟩
    · exact ⟨y, .inl hx, hv⟩
    · omega
  · rintro ⟨y, (hx | ⟨jj, hj, _⟩), hv⟩
    · exact ⟨y, .inl hx, hv⟩
    · omega⟩
theorem NbS.put (h : NbS m xs a O NL j M) (hy : NL[j]? = some y) (hM : ∀ v, v ∈ M' ↔ (v = labAt m xs y ∧ labAt m xs y ≠ a) ∨ v ∈ M) : NbS m xs a O NL (j + 1) M' := ⟨fun v => by
  rw [hM v, h.mem v]
  constructor
  · rintro (⟨rfl, hne⟩ | ⟨hne, z, (hx | ⟨jj, hj, hz⟩), hv⟩)
    · exact ⟨hne, y, .inr ⟨j, by omega, hy⟩, rfl⟩
    · exact ⟨hne, z, .inl hx, hv⟩
    · exact ⟨hne, z, .inr ⟨jj, by omega, hz⟩, hv⟩
  · rintro ⟨hne, z, (hx | ⟨jj, hj, hz⟩), hv⟩
    · exact .inr ⟨hne, z, .inl hx, hv⟩
    · by_cases e : jj = j
      · subst e
        rw [hy] at hz
        cases hz
        exact .inl ⟨hv.symm, by rw [hv]; exact hne⟩
      · exact .inr ⟨hne, z, .inr ⟨jj, by omega, hz⟩, hv⟩⟩
theorem NbS.skip (h : NbS m xs a O NL j M) (hy : NL[j]? = some y) (hs : labAt m xs y = a ∨ labAt m xs y ∈ M) : NbS m xs a O NL (j + 1) M :=
  h.put hy fun _ => ⟨.inr, fun g => g.elim (fun ⟨g1, g2⟩ => hs.elim (fun e => absurd e g2) (fun e => g1 ▸ e)) id⟩
theorem NbS.next {x : Nat} (h : NbS m xs a O NL j M) (hj : NL.length ≤ j) (hN : ∀ y, y ∈ NL ↔ Nb m xs.length x y) (hO : ∀ z, O' z ↔ O z ∨ z = x) : NbS m xs a O' NL' 0 M := ⟨fun v => by
  rw [h.mem v]
  refine and_congr_right fun _ => ⟨?_, ?_⟩
  · rintro ⟨y, (⟨z, hz, hzy⟩ | ⟨jj, hj, hjy⟩), hv⟩
    · exact ⟨y, .inl ⟨z, (hO z).2 (.inl hz), hzy⟩, hv⟩
    · exact ⟨y, .inl ⟨x, (hO x).2 (.inr rfl), (hN y).1 (List.mem_of_getElem? hjy)⟩, hv⟩
  · rintro ⟨y, (⟨z, hz, hzy⟩ | ⟨jj, hj, _⟩), hv⟩
    · rcases (hO z).1 hz with g | rfl
      · exact ⟨y, .inl ⟨z, g, hzy⟩, hv⟩
      · obtain ⟨jj, hjj, hjy⟩ := List.mem_iff_getElem.1 ((hN y).2 hzy)
        exact ⟨y, .inr ⟨jj, by omega, by rw [List.getElem?_eq_getElem hjj, hjy]⟩, hv⟩
    · omega⟩
theorem NbS.congr (h : NbS m xs a O NL 0 M) (hO : ∀ z, O' z ↔ O z) : NbS m xs a O' NL' 0 M := ⟨fun v => by
  rw [(h.any NL').mem v]
  refine and_congr_right fun _ => ⟨?_, ?_⟩
  · rintro ⟨y, (⟨z, hz, hzy⟩ | ⟨jj, hj, _⟩), hv⟩
    · exact ⟨y, .inl ⟨z, (hO z).2 hz, hzy⟩, hv⟩
    · omega
  · rintro ⟨y, (⟨z, hz, hzy⟩ | ⟨jj, hj, _⟩), hv⟩
    · exact ⟨y, .inl ⟨z, (hO z).1 hz, hzy⟩, hv⟩
    · omega⟩
theorem NbS.end_ (h : NbS m xs a O NL 0 M) (hO : ∀ z, O z ↔ z < xs.length ∧ labAt m xs z = a) (v : Int) : v ∈ M ↔ v ∈ nbrsL m xs a := by
  rw [h.mem v, nbrsL, List.mem_map]
  constructor
  · rintro ⟨hne, y, (⟨z, hz, hzy⟩ | ⟨jj, hj, _⟩), rfl⟩
    · have hr := labAt_rng (m := m) hzy.2.1
      obtain ⟨b, hb⟩ := Int.eq_ofNat_of_zero_le hr.1
      refine ⟨b, List.mem_filter.2 ⟨List.mem_range.2 (by omega), ?_⟩, hb.symm⟩
      simp only [decide_eq_true_eq]
      exact ⟨by rw [← hb]; exact hne, y, ⟨z, ((hO z).1 hz).1, ((hO z).1 hz).2, hzy⟩, hb⟩
    · omega
  · rintro ⟨b, hb, rfl⟩
    have := (List.mem_filter.1 hb).2
    simp only [decide_eq_true_eq] at this
    obtain ⟨hne, y, ⟨x, hx, hxa, hxy⟩, hv⟩ := this
    exact ⟨hne, y, .inl ⟨x, (hO x).2 ⟨hx, hxa⟩, hxy⟩, hv⟩
end
theorem nbrsL_asc (m : Nat) (xs : List Int) (a : Int) : (nbrsL m xs a).Pairwise (· < ·) := by
  unfold nbrsL
  rw [List.pairwise_map]
  exact (List.Pairwise.filter _ List.pairwise_lt_range).imp fun h => Int.ofNat_lt.2 h
theorem nbrsL_len (m : Nat) (xs : List Int) (a : Int) : (nbrsL m xs a).length ≤ xs.length := by
  unfold nbrsL
  rw [List.length_map]
  refine Nat.le_trans (List.length_filter_le _ _) ?_
  rw [List.length_range]
  exact cnt_le m xs
noncomputable def nbrsX (W H : Int) (xs : List Int) (a : Int) : List Int := if hasArea W H xs a = true then nbrsL W.toNat xs a else []
theorem nbrsX_yes {m k : Nat} {xs : List Int} {a : Int} (h : hasArea m k xs a = true) : nbrsX m k xs a = nbrsL m xs a := if_pos h
theorem nbrsX_no {W H : Int} {xs : List Int} {a : Int} (h : hasArea W H xs a = false) : nbrsX W H xs a = [] := if_neg (by rw [h]; decide)
theorem nbrsX_len (W H : Int) (xs : List Int) (a : Int) : (nbrsX W H xs a).length ≤ 1048576 := by
  cases hg : hasArea W H xs a with
  | false => rw [nbrsX_no hg]; simp
  | true =>
    have h1 : goodB W H xs = true := by simp only [hasArea, Bool.and_eq_true] at hg; exact hg.1
    have := (good_bd h1).1
    rw [show nbrsX W H xs a = nbrsL W.toNat xs a from if_pos hg]
    have := nbrsL_len W.toNat xs a
    omega
end Go.Proofs.Ytpnmnkdnlajfiaa
