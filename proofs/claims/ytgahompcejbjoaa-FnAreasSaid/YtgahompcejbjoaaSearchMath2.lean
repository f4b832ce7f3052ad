/- The model's search, and that few lots are as good as the greatest ones. No condition. -/
import Derived.Test.YtgahompcejbjoaaSearchMath
namespace Go.Proofs.Ytgahompcejbjoaa
open Go.RowKit

/-- How many different numbers a list has. -/
def dif12 : List Nat → Nat
  | [] => 0
  | x :: l => dif12 l + if x ∈ l then 0 else 1
theorem dif_snoc : ∀ (l : List Nat) (x : Nat), dif12 (l ++ [x]) = dif12 l + if x ∈ l then 0 else 1
  | [], x => by simp [dif12]
  | y :: l, x => by
    rw [List.cons_append, dif12, dif_snoc l x, dif12]
    by_cases h3 : x = y
    · subst h3
      rw [if_pos (show x ∈ l ++ [x] by simp), if_pos (show x ∈ x :: l by simp)]
    · have e1 : (y ∈ l ++ [x]) = (y ∈ l) := by
        simp only [List.mem_append, List.mem_singleton, eq_iff_iff]
        exact ⟨fun h => h.elim id (fun e => absurd e.symm h3), .inl⟩
      have e2 : (x ∈ y :: l) = (x ∈ l) := by
        simp only [List.mem_cons, eq_iff_iff]
        exact ⟨fun h => h.elim (fun e => absurd e h3) id, .inr⟩
      simp only [e1, e2]
      omega
theorem dif_app (a : List Nat) : ∀ b : List Nat, dif12 a ≤ dif12 (a ++ b)
  | [] => by simp
  | x :: b => by
    have h1 := dif_snoc a x
    have h2 := dif_app (a ++ [x]) b
    rw [List.append_assoc] at h2
    simp only [List.singleton_append] at h2
    omega
theorem nodup_sub : ∀ (l U : List Nat), l.Nodup → (∀ x ∈ l, x ∈ U) → l.length ≤ U.length
  | [], _, _, _ => by simp
  | a :: l, U, hd, h => by
    obtain ⟨h1, h2⟩ := List.nodup_cons.1 hd
    have ha := h a (by simp)
    have := nodup_sub l (U.erase a) h2 (fun x hx => (List.mem_erase_of_ne (fun e => h1 (by rw [← e]; exact hx))).2 (h x (by simp [hx])))
    rw [List.length_erase_of_mem ha] at this
    have := List.length_pos_of_mem ha
    rw [List.length_cons]
    omega
/-- The different numbers of a list. -/
def ddp : List Nat → List Nat
  | [] => []
  | x :: l => if x ∈ l then ddp l else x :: ddp l
theorem ddp_mem : ∀ (l : List Nat) (x : Nat), x ∈ ddp l ↔ x ∈ l
  | [], _ => by simp [ddp]
  | y :: l, x => by
    rw [ddp]
    by_cases h : y ∈ l
    · rw [if_pos h, ddp_mem l x, List.mem_cons]
      exact ⟨.inr, fun g => g.elim (fun e => e ▸ h) id⟩
    · rw [if_neg h, List.mem_cons, List.mem_cons, ddp_mem l x]
theorem ddp_nodup : ∀ l : List Nat, (ddp l).Nodup
  | [] => by simp [ddp]
  | y :: l => by
    rw [ddp]
    by_cases h : y ∈ l
    · rw [if_pos h]; exact ddp_nodup l
    · rw [if_neg h]
      exact List.nodup_cons.2 ⟨fun g => h ((ddp_mem l y).1 g), ddp_nodup l⟩
theorem ddp_len : ∀ l : List Nat, (ddp l).length = dif12 l
  | [] => rfl
  | y :: l => by
    rw [ddp, dif12]
    by_cases h : y ∈ l
    · rw [if_pos h, if_pos h, ddp_len l]; rfl
    · rw [if_neg h, if_neg h, List.length_cons, ddp_len l]
theorem dif_le {l U : List Nat} (h : ∀ x ∈ l, x ∈ U) : dif12 l ≤ U.length := by
  rw [← ddp_len]
  exact nodup_sub _ _ (ddp_nodup l) (fun x hx => h x ((ddp_mem l x).1 hx))
theorem inB_nat (k n : Nat) : inB (k : Int) 0 ((n : Int) - 1) = decide (k < n) := by
  unfold inB; rw [Bool.eq_iff_iff]; simp; omega
theorem fitG_cons (s : Int) (ss left : List Int) (k : Nat) (az : List Nat) : fitG (s :: ss) left (upI (k :: az)) = (decide (k < left.length) && decide (s ≤ left.getD k 0) && fitG ss (left.set k (left.getD k 0 - s)) (upI az)) := by
  show fitG (s :: ss) left ((k : Int) :: upI az) = _
  rw [fitG, inB_nat, Int.toNat_natCast]
/-- What is left of the lots. -/
def lft12 : List Int → List Int → List Nat → List Int
  | _, left, [] => left
  | [], left, _ => left
  | s :: ss, left, k :: az => lft12 ss (left.set k (left.getD k 0 - s)) az
theorem lft_len : ∀ (sizes left : List Int) (az : List Nat), (lft12 sizes left az).length = left.length
  | [], _, [] => rfl
  | [], _, _ :: _ => rfl
  | _ :: _, _, [] => rfl
  | s :: ss, left, k :: az => by rw [lft12, lft_len]; simp
theorem fitG_pre : ∀ (sizes left : List Int) (a b : List Nat), fitG sizes left (upI (a ++ b)) = true → fitG sizes left (upI a) = true
  | _, _, [], _, _ => by simp [fitG, upI]
  | [], _, k :: a, b, h => by simp [fitG, upI] at h
  | s :: ss, left, k :: a, b, h => by
    rw [List.cons_append, fitG_cons, Bool.and_eq_true] at h
    rw [fitG_cons, Bool.and_eq_true]
    exact ⟨h.1, fitG_pre ss _ a b h.2⟩
theorem fitG_lt : ∀ (sizes left : List Int) (az : List Nat), fitG sizes left (upI az) = true → ∀ x ∈ az, x < left.length
  | _, _, [], _ => by simp
  | [], _, k :: a, h => by simp [fitG, upI] at h
  | s :: ss, left, k :: a, h => by
    rw [fitG_cons, Bool.and_eq_true, Bool.and_eq_true, decide_eq_true_eq] at h
    intro x hx
    rcases List.mem_cons.1 hx with e | hx
    · rw [e]; exact h.1.1
    · have := fitG_lt ss _ a h.2 x hx
      simpa using this
theorem fitG_snoc : ∀ (sizes left : List Int) (az : List Nat) (k : Nat) (s : Int) (ss : List Int), sizes.drop az.length = s :: ss → fitG sizes left (upI (az ++ [k])) = (fitG sizes left (upI az) && (decide (k < left.length) && decide (s ≤ (lft12 sizes left az).getD k 0)))
  | sizes, left, [], k, s, ss, h => by
    simp only [List.length_nil, List.drop_zero] at h
    subst h
    rw [List.nil_append, fitG_cons]
    simp [fitG, upI, lft12]
  | [], left, x :: az, k, s, ss, h => by simp at h
  | t :: sizes, left, x :: az, k, s, ss, h => by
    rw [List.cons_append, fitG_cons, fitG_cons, fitG_snoc sizes _ az k s ss (by simpa using h), List.length_set, lft12, Bool.and_assoc]
    simp only [Bool.and_assoc]
theorem lft_snoc : ∀ (sizes left : List Int) (az : List Nat) (k : Nat) (s : Int) (ss : List Int), sizes.drop az.length = s :: ss → lft12 sizes left (az ++ [k]) = (lft12 sizes left az).set k ((lft12 sizes left az).getD k 0 - s)
  | sizes, left, [], k, s, ss, h => by
    simp only [List.length_nil, List.drop_zero] at h
    subst h
    simp [lft12]
  | [], left, x :: az, k, s, ss, h => by simp at h
  | t :: sizes, left, x :: az, k, s, ss, h => by
    rw [List.cons_append, lft12, lft12, lft_snoc sizes _ az k s ss (by simpa using h)]
/-- The model's search: n places are left. -/
def sr12 (sizes lots : List Int) (most : Nat) : Nat → List Nat → Option (List Nat)
  | 0, begun => if fitG sizes lots (upI begun) = true ∧ dif12 begun ≤ most then some begun else none
  | n + 1, begun => if fitG sizes lots (upI begun) = true ∧ dif12 begun ≤ most then (List.range lots.length).findSome? fun k => sr12 sizes lots most n (begun ++ [k]) else none
theorem findSome_congr {f g : Nat → Option (List Nat)} (n : Nat) (h : ∀ l, l < n → f l = g l) : (List.range n).findSome? f = (List.range n).findSome? g := findSome_skip n fun l hl => .inl (h l hl)
theorem findSome_map {f : Nat → Option (List Nat)} {u : List Nat → List Nat} : ∀ n, (List.range n).findSome? (fun k => (f k).map u) = ((List.range n).findSome? f).map u
  | 0 => rfl
  | n + 1 => by
    rw [List.range_succ, List.findSome?_append, List.findSome?_append, findSome_map n]
    simp only [List.findSome?_singleton]
    cases (List.range n).findSome? f <;> rfl
theorem sr_eq {sizes lots : List Int} : ∀ (n : Nat) (begun : List Nat), begun.length + n = sizes.length → sr12 sizes lots lots.length n begun = if fitG sizes lots (upI begun) = true then (fst12 (sizes.drop begun.length) (lft12 sizes lots begun)).map (begun ++ ·) else none
  | n, begun, hn => by
    by_cases hf : fitG sizes lots (upI begun) = true
    · have hd : dif12 begun ≤ lots.length := by
        have := dif_le (U := List.range lots.length) (fun x hx => List.mem_range.2 (fitG_lt sizes lots begun hf x hx))
        simpa using this
      cases n with
      | zero =>
        rw [sr12, if_pos ⟨hf, hd⟩, if_pos hf, List.drop_of_length_le (by omega)]
        simp [fst12]
      | succ n =>
        have hlt : begun.length < sizes.length := by omega
        have hdr := List.drop_eq_getElem_cons hlt
        rw [sr12, if_pos ⟨hf, hd⟩, if_pos hf, hdr, fst12, ← findSome_map, lft_len]
        refine findSome_congr _ fun k hk => ?_
        rw [sr_eq n (begun ++ [k]) (by simp; omega), fitG_snoc sizes lots begun k _ _ hdr, hf, lft_snoc sizes lots begun k _ _ hdr, decide_eq_true hk]
        by_cases hv : (lft12 sizes lots begun).getD k 0 < sizes[begun.length]
        · rw [if_pos hv, decide_eq_false (by omega)]; rfl
        · rw [if_neg hv, decide_eq_true (by omega)]
          simp only [Bool.and_self, if_true, List.length_append, List.length_singleton, Option.map_map]
          congr 1
          funext r
          simp
    · rw [if_neg hf]
      cases n with
      | zero => rw [sr12, if_neg (fun h => hf h.1)]
      | succ n => rw [sr12, if_neg (fun h => hf h.1)]
theorem sr_some {sizes lots : List Int} {most : Nat} : ∀ (n : Nat) (begun : List Nat), (sr12 sizes lots most n begun).isSome = true ↔ ∃ az : List Nat, az.length = n ∧ fitG sizes lots (upI (begun ++ az)) = true ∧ dif12 (begun ++ az) ≤ most
  | 0, begun => by
    rw [sr12]
    constructor
    · intro h
      split at h
      · next g => exact ⟨[], rfl, by simpa using g⟩
      · simp at h
    · rintro ⟨az, hl, h⟩
      rw [List.eq_nil_of_length_eq_zero hl, List.append_nil] at h
      rw [if_pos h]; rfl
  | n + 1, begun => by
    rw [sr12]
    constructor
    · intro h
      split at h
      · obtain ⟨k, hk, hs⟩ := findSome_iff.1 h
        obtain ⟨az, hl, hf, hd⟩ := (sr_some n _).1 hs
        exact ⟨k :: az, by simp [hl], by simpa using hf, by simpa using hd⟩
      · simp at h
    · rintro ⟨az, hl, hf, hd⟩
      obtain ⟨k, az, rfl⟩ : ∃ k az', az = k :: az' := by
        cases az with
        | nil => simp at hl
        | cons k az => exact ⟨k, az, rfl⟩
      have h1 := fitG_pre sizes lots begun (k :: az) hf
      have h2 := dif_app begun (k :: az)
      rw [if_pos ⟨h1, by omega⟩]
      refine findSome_iff.2 ⟨k, fitG_lt sizes lots _ hf k (by simp), (sr_some n _).2 ⟨az, by simpa using hl, by simpa using hf, by simpa using hd⟩⟩
/-- Lots that are used are enough by themselves. -/
theorem fe_used : ∀ (sizes left : List Int) (az U : List Nat), az.length = sizes.length → fitG sizes left (upI az) = true → U.Nodup → (∀ x ∈ az, x ∈ U) → Fe sizes (U.map fun k => left.getD k 0)
  | [], _, _, _, _, _, _, _ => trivial
  | s :: ss, left, [], U, hl, _, _, _ => by simp at hl
  | s :: ss, left, k :: az, U, hl, hf, hd, hU => by
    rw [fitG_cons, Bool.and_eq_true, Bool.and_eq_true, decide_eq_true_eq, decide_eq_true_eq] at hf
    have hk : k ∈ U := hU k (by simp)
    have p1 : U.Perm (k :: U.erase k) := List.perm_cons_erase hk
    have ih := fe_used ss _ az U (by simpa using hl) hf.2 hd (fun x hx => hU x (by simp [hx]))
    refine ⟨left.getD k 0, (U.erase k).map fun j => left.getD j 0, by simpa using p1.map (fun j => left.getD j 0), hf.1.2, ih.perm ?_⟩
    have p2 := p1.map (fun j => (left.set k (left.getD k 0 - s)).getD j 0)
    rw [List.map_cons, getD_set_self hf.1.1] at p2
    refine p2.trans (.cons _ (.of_eq ?_))
    refine List.map_congr_left fun j hj => ?_
    exact getD_set_ne (hd.mem_erase_iff.1 hj).1
theorem fe_made : ∀ (sizes left : List Int) (U : List Nat), U.Nodup → (∀ x ∈ U, x < left.length) → Fe sizes (U.map fun k => left.getD k 0) → ∃ az : List Nat, az.length = sizes.length ∧ fitG sizes left (upI az) = true ∧ ∀ x ∈ az, x ∈ U
  | [], _, _, _, _, _ => ⟨[], rfl, by simp [fitG, upI], by simp⟩
  | s :: ss, left, U, hd, hlt, h => by
    obtain ⟨v, rest, hp, hv, hf⟩ := h
    have hm : v ∈ U.map fun k => left.getD k 0 := hp.symm.subset (by simp)
    obtain ⟨k, hk, rfl⟩ := List.mem_map.1 hm
    have p1 : U.Perm (k :: U.erase k) := List.perm_cons_erase hk
    have p2 := p1.map (fun j => left.getD j 0)
    rw [List.map_cons] at p2
    have p3 : rest.Perm ((U.erase k).map fun j => left.getD j 0) := (hp.symm.trans p2).cons_inv
    have hkl := hlt k hk
    have p4 := p1.map (fun j => (left.set k (left.getD k 0 - s)).getD j 0)
    rw [List.map_cons, getD_set_self hkl] at p4
    have e : (U.erase k).map (fun j => (left.set k (left.getD k 0 - s)).getD j 0) = (U.erase k).map fun j => left.getD j 0 := List.map_congr_left fun j hj => getD_set_ne (hd.mem_erase_iff.1 hj).1
    rw [e] at p4
    obtain ⟨az, h1, h2, h3⟩ := fe_made ss (left.set k (left.getD k 0 - s)) U hd (fun x hx => by rw [List.length_set]; exact hlt x hx) (hf.perm ((p3.cons _).trans p4.symm))
    refine ⟨k :: az, by simp [h1], ?_, fun x hx => ?_⟩
    · rw [fitG_cons, decide_eq_true hkl, decide_eq_true hv, h2]; rfl
    · rcases List.mem_cons.1 hx with e | hx
      · rw [e]; exact hk
      · exact h3 x hx
theorem map_lift {f : Nat → Int} : ∀ (D : List Int) (l : List Nat), (l.map f).Perm D → ∃ P : List Nat, l.Perm P ∧ P.map f = D
  | [], l, h => ⟨[], by
    have := h.length_eq
    simp at this
    rw [this], rfl⟩
  | d :: D, l, h => by
    have hm : d ∈ l.map f := h.symm.subset (by simp)
    obtain ⟨k, hk, rfl⟩ := List.mem_map.1 hm
    have p1 : l.Perm (k :: l.erase k) := List.perm_cons_erase hk
    have p2 := p1.map f
    rw [List.map_cons] at p2
    obtain ⟨P, h1, h2⟩ := map_lift D (l.erase k) ((p2.symm.trans h).cons_inv)
    exact ⟨k :: P, p1.trans (h1.cons k), by rw [List.map_cons, h2]⟩
/-- With n lots an assignment can be had exactly if the n greatest ones are enough. -/
theorem few_iff {sizes lots D : List Int} {n : Nat} (hd : D.Pairwise (· ≥ ·)) (hp : lots.Perm D) : (sr12 sizes lots n sizes.length []).isSome = true ↔ Fe sizes (D.take n) := by
  rw [sr_some]
  have hr : (List.range lots.length).map (fun k => lots.getD k 0) = lots := by
    refine List.ext_getElem (by simp) fun i h1 h2 => ?_
    simp only [List.getElem_map, List.getElem_range]
    exact getD_at h2
  constructor
  · rintro ⟨az, hl, hf, hdn⟩
    rw [List.nil_append] at hf hdn
    have hlt := fitG_lt sizes lots az hf
    have h1 := fe_used sizes lots az (ddp az) hl hf (ddp_nodup az) (fun x hx => (ddp_mem az x).2 hx)
    -- the rest of the lots
    have hsub : ∀ x ∈ ddp az, x ∈ List.range lots.length := fun x hx => List.mem_range.2 (hlt x ((ddp_mem az x).1 hx))
    have hex : ∀ (U V : List Nat), U.Nodup → (∀ x ∈ U, x ∈ V) → ∃ W, V.Perm (U ++ W) := by
      intro U
      induction U with
      | nil => intro V _ _; exact ⟨V, .refl _⟩
      | cons a U ih =>
        intro V hn hs
        obtain ⟨g1, g2⟩ := List.nodup_cons.1 hn
        have ha := hs a (by simp)
        obtain ⟨W, hW⟩ := ih (V.erase a) g2 (fun x hx => (List.mem_erase_of_ne (fun e => g1 (by rw [← e]; exact hx))).2 (hs x (by simp [hx])))
        exact ⟨W, (List.perm_cons_erase ha).trans (hW.cons a)⟩
    obtain ⟨W, hW⟩ := hex (ddp az) (List.range lots.length) (ddp_nodup az) hsub
    have hW2 := hW.map (fun k => lots.getD k 0)
    rw [hr, List.map_append] at hW2
    have h2 := fe_top sizes D _ _ [] hd (hp.symm.trans hW2) (by rw [List.append_nil]; exact h1)
    rw [List.append_nil, List.length_map, ddp_len] at h2
    have e : D.take n = D.take (dif12 az) ++ (D.drop (dif12 az)).take (n - dif12 az) := by
      rw [← List.take_add]; congr 1; omega
    rw [e]
    exact (fe_more sizes _ _ h2).perm List.perm_append_comm
  · intro h
    obtain ⟨P, h1, h2⟩ := map_lift D (List.range lots.length) (by rw [hr]; exact hp)
    have hPn : P.Nodup := h1.nodup_iff.1 List.nodup_range
    have hU : (P.take n).Nodup := hPn.sublist (List.take_sublist _ _)
    have hUl : ∀ x ∈ P.take n, x < lots.length := fun x hx => List.mem_range.1 (h1.symm.subset (List.mem_of_mem_take hx))
    obtain ⟨az, g1, g2, g3⟩ := fe_made sizes lots (P.take n) hU hUl (by rw [List.map_take, h2]; exact h)
    refine ⟨az, g1, by simpa using g2, ?_⟩
    rw [List.nil_append]
    have := dif_le g3
    rw [List.length_take] at this
    omega
end Go.Proofs.Ytgahompcejbjoaa
