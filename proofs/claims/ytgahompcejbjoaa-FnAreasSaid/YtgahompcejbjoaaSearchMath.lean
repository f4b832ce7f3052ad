/- The mathematics of assignments of lots: searching in order, without one lot for another one as great, and with the greatest lots alone. No condition. -/
import Derived.Test.YtgahompcejbjoaaLots
namespace Go.Proofs.Ytgahompcejbjoaa
open Go.RowKit

/-- The first list of lots that is enough. -/
def fst12 : List Int → List Int → Option (List Nat)
  | [], _ => some []
  | s :: ss, left => (List.range left.length).findSome? fun l => if left.getD l 0 < s then none else (fst12 ss (left.set l (left.getD l 0 - s))).map (l :: ·)
/-- The same without a lot that has as much left as an earlier one. -/
def chn12 : List Int → List Int → Option (List Nat)
  | [], _ => some []
  | s :: ss, left => (List.range left.length).findSome? fun l => if left.getD l 0 < s ∨ left.getD l 0 ∈ left.take l then none else (chn12 ss (left.set l (left.getD l 0 - s))).map (l :: ·)
/-- Some list of lots is enough. -/
def Fe : List Int → List Int → Prop
  | [], _ => True
  | s :: ss, left => ∃ v rest, left.Perm (v :: rest) ∧ s ≤ v ∧ Fe ss ((v - s) :: rest)
theorem Fe.perm {sizes l l' : List Int} (h : Fe sizes l) (p : l.Perm l') : Fe sizes l' := by
  cases sizes with
  | nil => trivial
  | cons s ss =>
    obtain ⟨v, rest, h1, h2, h3⟩ := h
    exact ⟨v, rest, p.symm.trans h1, h2, h3⟩
theorem set_perm : ∀ (l : List Int) (i : Nat) (w : Int), i < l.length → (l.set i w).Perm (w :: l.eraseIdx i)
  | [], _, _, h => by simp at h
  | a :: l, 0, w, _ => by simp
  | a :: l, i + 1, w, h => by
    have := set_perm l i w (by simpa using h)
    simp only [List.set_cons_succ, List.eraseIdx_cons_succ]
    exact (this.cons a).trans (List.Perm.swap w a _)
theorem get_perm (l : List Int) (i : Nat) (h : i < l.length) : l.Perm (l.getD i 0 :: l.eraseIdx i) := by
  rw [getD_at h]
  have := set_perm l i l[i] h
  rwa [List.set_getElem_self] at this
theorem findSome_iff {f : Nat → Option (List Nat)} {n : Nat} : ((List.range n).findSome? f).isSome = true ↔ ∃ l, l < n ∧ (f l).isSome = true := by
  rw [List.isSome_findSome?, List.any_eq_true]
  constructor
  · rintro ⟨l, hl, h⟩
    exact ⟨l, List.mem_range.1 hl, h⟩
  · rintro ⟨l, hl, h⟩
    exact ⟨l, List.mem_range.2 hl, h⟩
theorem fst_iff : ∀ (sizes left : List Int), (fst12 sizes left).isSome = true ↔ Fe sizes left
  | [], _ => by simp [fst12, Fe]
  | s :: ss, left => by
    rw [fst12, findSome_iff, Fe]
    constructor
    · rintro ⟨l, hl, h⟩
      by_cases hv : left.getD l 0 < s
      · rw [if_pos hv] at h; simp at h
      · rw [if_neg hv] at h
        simp only [Option.isSome_map] at h
        exact ⟨left.getD l 0, left.eraseIdx l, get_perm left l hl, by omega, ((fst_iff ss _).1 h).perm (set_perm left l _ hl)⟩
    · rintro ⟨v, rest, hp, hv, hf⟩
      have hm : v ∈ left := hp.symm.subset (by simp)
      obtain ⟨l, hl, rfl⟩ := List.mem_iff_getElem.1 hm
      refine ⟨l, hl, ?_⟩
      rw [getD_at hl, if_neg (by omega)]
      simp only [Option.isSome_map]
      refine (fst_iff ss _).2 (hf.perm ?_)
      have h1 := get_perm left l hl
      rw [getD_at hl] at h1
      have h2 : rest.Perm (left.eraseIdx l) := (hp.symm.trans h1).cons_inv
      exact (h2.cons _).trans (set_perm left l _ hl).symm
theorem findSome_skip {f g : Nat → Option (List Nat)} : ∀ n, (∀ l, l < n → f l = g l ∨ (f l = none ∧ ((∃ l', l' < l ∧ (g l').isSome = true) ∨ g l = none))) → (List.range n).findSome? f = (List.range n).findSome? g
  | 0, _ => rfl
  | n + 1, h => by
    have ih := findSome_skip n (fun l hl => h l (by omega))
    rw [List.range_succ, List.findSome?_append, List.findSome?_append, ih]
    simp only [List.findSome?_singleton]
    rcases h n (by omega) with e | ⟨e, ⟨l', hl', hs⟩ | e'⟩
    · rw [e]
    · have : ((List.range n).findSome? g).isSome = true := findSome_iff.2 ⟨l', hl', hs⟩
      obtain ⟨v, hv⟩ := Option.isSome_iff_exists.1 this
      rw [hv]; rfl
    · rw [e, e']
theorem chn_eq : ∀ (sizes left : List Int), chn12 sizes left = fst12 sizes left
  | [], _ => rfl
  | s :: ss, left => by
    rw [chn12, fst12]
    refine findSome_skip _ fun l hl => ?_
    rw [chn_eq ss]
    by_cases hv : left.getD l 0 < s
    · left; rw [if_pos (.inl hv), if_pos hv]
    · by_cases hm : left.getD l 0 ∈ left.take l
      · right
        refine ⟨if_pos (.inr hm), ?_⟩
        obtain ⟨l', hl', e⟩ := List.mem_iff_getElem.1 hm
        rw [List.length_take] at hl'
        rw [List.getElem_take] at e
        have hll : l' < l := by omega
        have hlen : l' < left.length := by omega
        have e' : left.getD l' 0 = left.getD l 0 := by rw [getD_at hlen]; exact e
        rw [if_neg hv]
        cases hf : fst12 ss (left.set l (left.getD l 0 - s)) with
        | none => right; rfl
        | some r =>
          left
          refine ⟨l', hll, ?_⟩
          rw [e', if_neg hv]
          simp only [Option.isSome_map]
          have h1 : Fe ss (left.set l (left.getD l 0 - s)) := (fst_iff ss _).1 (by rw [hf]; rfl)
          refine (fst_iff ss _).2 (h1.perm ?_)
          have p1 := set_perm left l (left.getD l 0 - s) hl
          have p2 := set_perm left l' (left.getD l 0 - s) hlen
          have q1 := get_perm left l hl
          have q2 := get_perm left l' hlen
          rw [e'] at q2
          exact p1.trans ((((q1.symm.trans q2).cons_inv).cons _).trans p2.symm)
      · left; rw [if_neg (by simp only [not_or]; exact ⟨hv, hm⟩), if_neg hv]
theorem fe_raise : ∀ (sizes : List Int) (x y : Int) (rest : List Int), Fe sizes (x :: rest) → x ≤ y → Fe sizes (y :: rest)
  | [], _, _, _, _, _ => trivial
  | s :: ss, x, y, rest, h, hxy => by
    obtain ⟨v, r', hp, hv, hf⟩ := h
    by_cases e : x = v
    · subst e
      have h2 : r'.Perm rest := (hp.cons_inv).symm
      exact ⟨y, rest, .refl _, by omega, fe_raise ss (x - s) (y - s) rest (hf.perm (h2.cons _)) (by omega)⟩
    · have hm : v ∈ rest := by
        have : v ∈ x :: rest := hp.symm.subset (by simp)
        rcases List.mem_cons.1 this with h | h
        · exact absurd h.symm e
        · exact h
      have p1 : rest.Perm (v :: rest.erase v) := List.perm_cons_erase hm
      have p2 : r'.Perm (x :: rest.erase v) := ((hp.symm.trans (p1.cons x)).trans (List.Perm.swap v x _)).cons_inv
      refine ⟨v, y :: rest.erase v, (p1.cons y).trans (List.Perm.swap v y _), hv, ?_⟩
      have h1 : Fe ss (x :: (v - s) :: rest.erase v) := hf.perm ((p2.cons _).trans (List.Perm.swap x (v - s) _))
      exact (fe_raise ss x y _ h1 hxy).perm (List.Perm.swap (v - s) y _)
theorem fe_add : ∀ (sizes : List Int) (y : Int) (rest : List Int), Fe sizes rest → Fe sizes (y :: rest)
  | [], _, _, _ => trivial
  | s :: ss, y, rest, h => by
    obtain ⟨v, r', hp, hv, hf⟩ := h
    exact ⟨v, y :: r', (hp.cons y).trans (List.Perm.swap v y _), hv, (fe_add ss y _ hf).perm (List.Perm.swap (v - s) y _)⟩
theorem fe_more (sizes : List Int) (S : List Int) : ∀ T : List Int, Fe sizes S → Fe sizes (T ++ S)
  | [], h => h
  | t :: T, h => fe_add sizes t _ (fe_more sizes S T h)
/-- The greatest ones are as good as any. -/
theorem fe_top (sizes : List Int) : ∀ (D S R Q : List Int), D.Pairwise (· ≥ ·) → D.Perm (S ++ R) → Fe sizes (S ++ Q) → Fe sizes (D.take S.length ++ Q)
  | _, [], _, _, _, _, h => by simpa using h
  | [], x :: S, R, _, _, hp, _ => by
    have := hp.length_eq
    simp at this
  | d :: D, x :: S, R, Q, hd, hp, h => by
    obtain ⟨hd1, hd2⟩ := List.pairwise_cons.1 hd
    by_cases hm : d ∈ x :: S
    · have p1 : (x :: S).Perm (d :: (x :: S).erase d) := List.perm_cons_erase hm
      have hl : ((x :: S).erase d).length = S.length := by rw [List.length_erase_of_mem hm]; simp
      have p2 : D.Perm ((x :: S).erase d ++ R) := (hp.trans (p1.append_right R)).cons_inv
      have h1 : Fe sizes ((x :: S).erase d ++ d :: Q) := h.perm ((p1.append_right Q).trans (List.perm_middle.symm))
      have h2 := fe_top sizes D ((x :: S).erase d) R (d :: Q) hd2 p2 h1
      rw [hl] at h2
      rw [List.length_cons, List.take_succ_cons]
      exact h2.perm List.perm_middle
    · have hmR : d ∈ R := by
        have : d ∈ (x :: S) ++ R := hp.subset (by simp)
        rcases List.mem_append.1 this with g | g
        · exact absurd g hm
        · exact g
      have hxd : x ≤ d := by
        have : x ∈ d :: D := hp.symm.subset (by simp)
        rcases List.mem_cons.1 this with g | g
        · omega
        · exact hd1 x g
      have p1 : R.Perm (d :: R.erase d) := List.perm_cons_erase hmR
      have p2 : D.Perm (S ++ (x :: R.erase d)) := by
        have : (d :: D).Perm (d :: (x :: (S ++ R.erase d))) := hp.trans (((p1.append_left (x :: S))).trans List.perm_middle)
        exact this.cons_inv.trans List.perm_middle.symm
      have h1 : Fe sizes (S ++ d :: Q) := (fe_raise sizes x d (S ++ Q) h hxd).perm List.perm_middle.symm
      have h2 := fe_top sizes D S (x :: R.erase d) (d :: Q) hd2 p2 h1
      rw [List.length_cons, List.take_succ_cons]
      exact h2.perm List.perm_middle
end Go.Proofs.Ytgahompcejbjoaa
