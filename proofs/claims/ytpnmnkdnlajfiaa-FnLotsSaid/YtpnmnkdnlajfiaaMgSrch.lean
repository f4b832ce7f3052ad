/- Several texts of this proof in one: SearchMath, SearchMath2. No condition. -/
import Derived.Test.YtpnmnkdnlajfiaaLots
namespace Go.Proofs.Ytpnmnkdnlajfiaa
open Go.RowKit

/-- The first list of lots that is enough. -/
def fst12 : List Int → List Int → Option (List Nat)
  | [], _ => some []
  | s :: ss, left => (List.range left.length).findSome? fun l => if left.getD l 0 < s then none else (fst12 ss (left.set l (left.getD l 0 - s))).map (l :: ·)
/-- The same without a lot that has as much left as an earlier one. -/
def chn12 : List Int → List Int → Option (List Nat)
  | [], _ => some []
  | s :: ss, left => (List.range left.length).findSome? fun l => if left.getD l 0 < s ∨ left.getD l 0 ∈ left.take l then none else (chn12 ss (left.set l (left.getD l 0 - s))).map (l :: ·)
/-- Some list of lots is enough. -/
def Fe : List Int → List Int → Prop
  | [], _ => True
  | s :: ss, left => ∃ v rest, left.Perm (v :: rest) ∧ s ≤ v ∧ Fe ss ((v - s) :: rest)
theorem Fe.perm {sizes l l' : List Int} (h : Fe sizes l) (p : l.Perm l') : Fe sizes l' := by
  cases sizes with
  | nil => trivial
  | cons s ss =>
    obtain ⟨v, rest, h1, h2, h3⟩ := h
    exact ⟨v, rest, p.symm.trans h1, h2, h3⟩
theorem set_perm : ∀ (l : List Int) (i : Nat) (w : Int), i < l.length → (l.set i w).Perm (w :: l.eraseIdx i)
  | [], _, _, h => by simp at h
  | a :: l, 0, w, _ => by simp
  | a :: l, i + 1, w, h => by
    have := set_perm l i w (by simpa using h)
    simp only [List.set_cons_succ, List.eraseIdx_cons_succ]
    exact (this.cons a).trans (List.Perm.swap w a _)
theorem get_perm (l : List Int) (i : Nat) (h : i < l.length) : l.Perm (l.getD i 0 :: l.eraseIdx i) := by
  rw [getD_at h]
  have := set_perm l i l[i] h
  rwa [List.set_getElem_self] at this
theorem findSome_iff {f : Nat → Option (List Nat)} {n : Nat} : ((List.range n).findSome? f).isSome = true ↔ ∃ l, l < n ∧ (f l).isSome = true := by
  rw [List.isSome_findSome?, List.any_eq_true]
  constructor
  · rintro ⟨l, hl, h⟩
    exact ⟨l, List.mem_range.1 hl, h⟩
  · rintro ⟨l, hl, h⟩
    exact ⟨l, List.mem_range.2 hl, h⟩
theorem fst_iff : ∀ (sizes left : List Int), (fst12 sizes left).isSome = true ↔ Fe sizes left
  | [], _ => by simp [fst12, Fe]
  | s :: ss, left => by
    rw [fst12, findSome_iff, Fe]
    constructor
    · rintro ⟨l, hl, h⟩
      by_cases hv : left.getD l 0 < s
      · rw [if_pos hv] at h; simp at h
      · rw [if_neg hv] at h
        simp only [Option.isSome_map] at h
        exact ⟨left.getD l 0, left.eraseIdx l, get_perm left l hl, by omega, ((fst_iff ss _).1 h).perm (set_perm left l _ hl)⟩
    · rintro ⟨v, rest, hp, hv, hf⟩
      have hm : v ∈ left := hp.symm.subset (by simp)
      obtain ⟨l, hl, rfl⟩ := List.mem_iff_getElem.1 hm
      refine ⟨l, hl, ?_⟩
      rw [getD_at hl, if_neg (by omega)]
      simp only [Option.isSome_map]
      refine (fst_iff ss _).2 (hf.perm ?_)
      have h1 := get_perm left l hl
      rw [getD_at hl] at h1
      have h2 : rest.Perm (left.eraseIdx l) := (hp.symm.trans h1).cons_inv
      exact (h2.cons _).trans (set_perm left l _ hl).symm
theorem findSome_skip {f g : Nat → Option (List Nat)} : ∀ n, (∀ l, l < n → f l = g l ∨ (f l = none ∧ ((∃ l', l' < l ∧ (g l').isSome = true) ∨ g l = none))) → (List.range n).findSome? f = (List.range n).findSome? g
  | 0, _ => rfl
  | n + 1, h => by
    have ih := findSome_skip n (fun l hl => h l (by omega))
    rw [List.range_succ, List.findSome?_append, List.findSome?_append, ih]
    simp only [List.findSome?_singleton]
    rcases h n (by omega) with e | ⟨e, ⟨l', hl', hs⟩ | e'⟩
    · rw [e]
    · have : ((List.range n).findSome? g).isSome = true := findSome_iff.2 ⟨l', hl', hs⟩
      obtain ⟨v, hv⟩ := Option.isSome_iff_exists.1 this
      rw [hv]; rfl
    · rw [e, e']
theorem chn_eq : ∀ (sizes left : List Int), chn12 sizes left = fst12 sizes left
  | [], _ => rfl
  | s :: ss, left => by
    rw [chn12, fst12]
    refine findSome_skip _ fun l hl => ?_
    rw [chn_eq ss]
    by_cases hv : left.getD l 0 < s
    · left; rw [if_pos (.inl hv), if_pos hv]
    · by_cases hm : left.getD l 0 ∈ left.take l
      · right
        refine ⟨if_pos (.inr hm), ?_⟩
        obtain ⟨l', hl', e⟩ := List.mem_iff_getElem.1 hm
        rw [List.length_take] at hl'
        rw [List.getElem_take] at e
        have hll : l' < l := by omega
        have hlen : l' < left.length := by omega
        have e' : left.getD l' 0 = left.getD l 0 := by rw [getD_at hlen]; exact e
        rw [if_neg hv]
        cases hf : fst12 ss (left.set l (left.getD l 0 - s)) with
        | none => right; rfl
        | some r =>
          left
          refine ⟨l', hll, ?_⟩
          rw [e', if_neg hv]
          simp only [Option.isSome_map]
          have h1 : Fe ss (left.set l (left.getD l 0 - s)) := (fst_iff ss _).1 (by rw [hf]; rfl)
          refine (fst_iff ss _).2 (h1.perm ?_)
          have p1 := set_perm left l (left.getD l 0 - s) hl
          have p2 := set_perm left l' (left.getD l 0 - s) hlen
          have q1 := get_perm left l hl
          have q2 := get_perm left l' hlen
          rw [e'] at q2
          exact p1.trans ((((q1.symm.trans q2).cons_inv).cons _).trans p2.symm)
      · left; rw [if_neg (by simp only [not_or]; exact ⟨hv, hm⟩), if_neg hv]
theorem fe_raise : ∀ (sizes : List Int) (x y : Int) (rest : List Int), Fe sizes (x :: rest) → x ≤ y → Fe sizes (y :: rest)
  | [], _, _, _, _, _ => trivial
  | s :: ss, x, y, rest, h, hxy => by
    obtain ⟨v, r', hp, hv, hf⟩ := h
    by_cases e : x = v
    · subst e
      have h2 : r'.Perm rest := (hp.cons_inv).symm
      exact ⟨y, rest, .refl _, by omega, fe_raise ss (x - s) (y - s) rest (hf.perm (h2.cons _)) (by omega)⟩
    · have hm : v ∈ rest := by
        have : v ∈ x :: rest := hp.symm.subset (by simp)
        rcases List.mem_cons.1 this with h | h
        · exact absurd h.symm e
        · exact h
      have p1 : rest.Perm (v :: rest.erase v) := List.perm_cons_erase hm
      have p2 : r'.Perm (x :: rest.erase v) := ((hp.symm.trans (p1.cons x)).trans (List.Perm.swap v x _)).cons_inv
      refine ⟨v, y :: rest.erase v, (p1.cons y).trans (List.Perm.swap v y _), hv, ?_⟩
      have h1 : Fe ss (x :: (v - s) :: rest.erase v) := hf.perm ((p2.cons _).trans (List.Perm.swap x (v - s) _))
      exact (fe_raise ss x y _ h1 hxy).perm (List.Perm.swap (v - s) y _)
theorem fe_add : ∀ (sizes : List Int) (y : Int) (rest : List Int), Fe sizes rest → Fe sizes (y :: rest)
  | [], _, _, _ => trivial
  | s :: ss, y, rest, h => by
    obtain ⟨v, r', hp, hv, hf⟩ := h
    exact ⟨v, y :: r', (hp.cons y).trans (List.Perm.swap v y _), hv, (fe_add ss y _ hf).perm (List.Perm.swap (v - s) y _)⟩
theorem fe_more (sizes : List Int) (S : List Int) : ∀ T : List Int, Fe sizes S → Fe sizes (T ++ S)
  | [], h => h
  | t :: T, h => fe_add sizes t _ (fe_more sizes S T h)
/-- The greatest ones are as good as any. -/
theorem fe_top (sizes : List Int) : ∀ (D S R Q : List Int), D.Pairwise (· ≥ ·) → D.Perm (S ++ R) → Fe sizes (S ++ Q) → Fe sizes (D.take S.length ++ Q)
  | _, [], _, _, _, _, h => by simpa using h
  | [], x :: S, R, _, _, hp, _ => by
    have := hp.length_eq
    simp at this
  | d :: D, x :: S, R, Q, hd, hp, h => by
    obtain ⟨hd1, hd2⟩ := List.pairwise_cons.1 hd
    by_cases hm : d ∈ x :: S
    · have p1 : (x :: S).Perm (d :: (x :: S).erase d) := List.perm_cons_erase hm
      have hl : ((x :: S).erase d).length = S.length := by rw [List.length_erase_of_mem hm]; simp
      have p2 : D.Perm ((x :: S).erase d ++ R) := (hp.trans (p1.append_right R)).cons_inv
      have h1 : Fe sizes ((x :: S).erase d ++ d :: Q) := h.perm ((p1.append_right Q).trans (List.perm_middle.symm))
      have h2 := fe_top sizes D ((x :: S).erase d) R (d :: Q) hd2 p2 h1
      rw [hl] at h2
      rw [List.length_cons, List.take_succ_cons]
      exact h2.perm List.perm_middle
    · have hmR : d ∈ R := by
        have : d ∈ (x :: S) ++ R := hp.subset (by simp)
        rcases List.mem_append.1 this with g | g
        · exact absurd g hm
        · exact g
      have hxd : x ≤ d := by
        have : x ∈ d :: D := hp.symm.subset (by simp)
        rcases List.mem_cons.1 this with g | g
        · omega
        · exact hd1 x g
      have p1 : R.Perm (d :: R.erase d) := List.perm_cons_erase hmR
      have p2 : D.Perm (S ++ (x :: R.erase d)) := by
        have : (d :: D).Perm (d :: (x :: (S ++ R.erase d))) := hp.trans (((p1.append_left (x :: S))).trans List.perm_middle)
        exact this.cons_inv.trans List.perm_middle.symm
      have h1 : Fe sizes (S ++ d :: Q) := (fe_raise sizes x d (S ++ Q) h hxd).perm List.perm_middle.symm
      have h2 := fe_top sizes D S (x :: R.erase d) (d :: Q) hd2 p2 h1
      rw [List.length_cons, List.take_succ_cons]
      exact h2.perm List.perm_middle
end Go.Proofs.Ytpnmnkdnlajfiaa
namespace Go.Proofs.Ytpnmnkdnlajfiaa
open Go.RowKit

/-- How many different numbers a list has. -/
def dif12 : List Nat → Nat
  | [] => 0
  | x :: l => dif12 l + if x ∈ l then 0 else 1
theorem dif_snoc : ∀ (l : List Nat) (x : Nat), dif12 (l ++ [x]) = dif12 l + if x ∈ l then 0 else 1
  | [], x => by simp [dif12]
  | y :: l, x => by
    rw [List.cons_append, dif12, dif_snoc l x, dif12]
    by_cases h3 : x = y
    · subst h3
      rw [if_pos (show x ∈ l ++ [x] by simp), if_pos (show x ∈ x :: l by simp)]
    · have e1 : (y ∈ l ++ [x]) = (y ∈ l) := by
        simp only [List.mem_append, List.mem_singleton, eq_iff_iff]
        exact ⟨fun h => h.elim id (fun e => absurd e.symm h3), .inl⟩
      have e2 : (x ∈ y :: l) = (x ∈ l) := by
        simp only [List.mem_cons, eq_iff_iff]
        exact ⟨fun h => h.elim (fun e => absurd e h3) id, .inr⟩
      simp only [e1, e2]
      omega
theorem dif_app (a : List Nat) : ∀ b : List Nat, dif12 a ≤ dif12 (a ++ b)
  | [] => by simp
  | x :: b => by
    have h1 := dif_snoc a x
    have h2 := dif_app (a ++ [x]) b
    rw [List.append_assoc] at h2
    simp only [List.singleton_append] at h2
    omega
theorem nodup_sub : ∀ (l U : List Nat), l.Nodup → (∀ x ∈ l, x ∈ U) → l.length ≤ U.length
  | [], _, _, _ => by simp
  | a :: l, U, hd, h => by
    obtain ⟨h1, h2⟩ := List.nodup_cons.1 hd
    have ha := h a (by simp)
    have := nodup_sub l (U.erase a) h2 (fun x hx => (List.mem_erase_of_ne (fun e => h1 (by rw [← e]; exact hx))).2 (h x (by simp [hx])))
    rw [List.length_erase_of_mem ha] at this
    have := List.length_pos_of_mem ha
    rw [List.length_cons]
    omega
/-- The different numbers of a list. -/
def ddp : List Nat → List Nat
  | [] => []
  | x :: l => if x ∈ l then ddp l else x :: ddp l
theorem ddp_mem : ∀ (l : List Nat) (x : Nat), x ∈ ddp l ↔ x ∈ l
  | [], _ => by simp [ddp]
  | y :: l, x => by
    rw [ddp]
    by_cases h : y ∈ l
    · rw [if_pos h, ddp_mem l x, List.mem_cons]
      exact ⟨.inr, fun g => g.elim (fun e => e ▸ h) id⟩
    · rw [if_neg h, List.mem_cons, List.mem_cons, ddp_mem l x]
theorem ddp_nodup : ∀ l : List Nat, (ddp l).Nodup
  | [] => by simp [ddp]
  | y :: l => by
    rw [ddp]
    by_cases h : y ∈ l
    · rw [if_pos h]; exact ddp_nodup l
    · rw [if_neg h]
      exact List.nodup_cons.2 ⟨fun g => h ((ddp_mem l y).1 g), ddp_nodup l⟩
theorem ddp_len : ∀ l : List Nat, (ddp l).length = dif12 l
  | [] => rfl
  | y :: l => by
    rw [ddp, dif12]
    by_cases h : y ∈ l
    · rw [if_pos h, if_pos h, ddp_len l]; rfl
    · rw [if_neg h, if_neg h, List.length_cons, ddp_len l]
theorem dif_le {l U : List Nat} (h : ∀ x ∈ l, x ∈ U) : dif12 l ≤ U.length := by
  rw [← ddp_len]
  exact nodup_sub _ _ (ddp_nodup l) (fun x hx => h x ((ddp_mem l x).1 hx))
theorem inB_nat (k n : Nat) : inB (k : Int) 0 ((n : Int) - 1) = decide (k < n) := by
  unfold inB; rw [Bool.eq_iff_iff]; simp; omega
theorem fitG_cons (s : Int) (ss left : List Int) (k : Nat) (az : List Nat) : fitG (s :: ss) left (upI (k :: az)) = (decide (k < left.length) && decide (s ≤ left.getD k 0) && fitG ss (left.set k (left.getD k 0 - s)) (upI az)) := by
  show fitG (s :: ss) left ((k : Int) :: upI az) = _
  rw [fitG, inB_nat, Int.toNat_natCast]
/-- What is left of the lots. -/
def lft12 : List Int → List Int → List Nat → List Int
  | _, left, [] => left
  | [], left, _ => left
  | s :: ss, left, k :: az => lft12 ss (left.set k (left.getD k 0 - s)) az
theorem lft_len : ∀ (sizes left : List Int) (az : List Nat), (lft12 sizes left az).length = left.length
  | [], _, [] => rfl
  | [], _, _ :: _ => rfl
  | _ :: _, _, [] => rfl
  | s :: ss, left, k :: az => by rw [lft12, lft_len]; simp
theorem fitG_pre : ∀ (sizes left : List Int) (a b : List Nat), fitG sizes left (upI (a ++ b)) = true → fitG sizes left (upI a) = true
  | _, _, [], _, _ => by simp [fitG, upI]
  | [], _, k :: a, b, h => by simp [fitG, upI] at h
  | s :: ss, left, k :: a, b, h => by
    rw [List.cons_append, fitG_cons, Bool.and_eq_true] at h
    rw [fitG_cons, Bool.and_eq_true]
    exact ⟨h.1, fitG_pre ss _ a b h.2⟩
theorem fitG_lt : ∀ (sizes left : List Int) (az : List Nat), fitG sizes left (upI az) = true → ∀ x ∈ az, x < left.length
  | _, _, [], _ => by simp
  | [], _, k :: a, h => by simp [fitG, upI] at h
  | s :: ss, left, k :: a, h => by
    rw [fitG_cons, Bool.and_eq_true, Bool.and_eq_true, decide_eq_true_eq] at h
    intro x hx
    rcases List.mem_cons.1 hx with e | hx
    · rw [e]; exact h.1.1
    · have := fitG_lt ss _ a h.2 x hx
      simpa using this
theorem fitG_snoc : ∀ (sizes left : List Int) (az : List Nat) (k : Nat) (s : Int) (ss : List Int), sizes.drop az.length = s :: ss → fitG sizes left (upI (az ++ [k])) = (fitG sizes left (upI az) && (decide (k < left.length) && decide (s ≤ (lft12 sizes left az).getD k 0)))
  | sizes, left, [], k, s, ss, h => by
    simp only [List.length_nil, List.drop_zero] at h
    subst h
    rw [List.nil_append, fitG_cons]
    simp [fitG, upI, lft12]
  | [], left, x :: az, k, s, ss, h => by simp at h
  | t :: sizes, left, x :: az, k, s, ss, h => by
    rw [List.cons_append, fitG_cons, fitG_cons, fitG_snoc sizes _ az k s ss (by simpa using h), List.length_set, lft12, Bool.and_assoc]
    simp only [Bool.and_assoc]
theorem lft_snoc : ∀ (sizes left : List Int) (az : List Nat) (k : Nat) (s : Int) (ss : List Int), sizes.drop az.length = s :: ss → lft12 sizes left (az ++ [k]) = (lft12 sizes left az).set k ((lft12 sizes left az).getD k 0 - s)
  | sizes, left, [], k, s, ss, h => by
    simp only [List.length_nil, List.drop_zero] at h
    subst h
    simp [lft12]
  | [], left, x :: az, k, s, ss, h => by simp at h
  | t :: sizes, left, x :: az, k, s, ss, h => by
    rw [List.cons_append, lft12, lft12, lft_snoc sizes _ az k s ss (by simpa using h)]
/-- The model's search: n places are left. -/
def sr12 (sizes lots : List Int) (most : Nat) : Nat → List Nat → Option (List Nat)
  | 0, begun => if fitG sizes lots (upI begun) = true ∧ dif12 begun ≤ most then some begun else none
  | n + 1, begun => if fitG sizes lots (upI begun) = true ∧ dif12 begun ≤ most then (List.range lots.length).findSome? fun k => sr12 sizes lots most n (begun ++ [k]) else none
theorem findSome_congr {f g : Nat → Option (List Nat)} (n : Nat) (h : ∀ l, l < n → f l = g l) : (List.range n).findSome? f = (List.range n).findSome? g := findSome_skip n fun l hl => .inl (h l hl)
theorem findSome_map {f : Nat → Option (List Nat)} {u : List Nat → List Nat} : ∀ n, (List.range n).findSome? (fun k => (f k).map u) = ((List.range n).findSome? f).map u
  | 0 => rfl
  | n + 1 => by
    rw [List.range_succ, List.findSome?_append, List.findSome?_append, findSome_map n]
    simp only [List.findSome?_singleton]
    cases (List.range n).findSome? f <;> rfl
theorem sr_eq {sizes lots : List Int} : ∀ (n : Nat) (begun : List Nat), begun.length + n = sizes.length → sr12 sizes lots lots.length n begun = if fitG sizes lots (upI begun) = true then (fst12 (sizes.drop begun.length) (lft12 sizes lots begun)).map (begun ++ ·) else none
  | n, begun, hn => by
    by_cases hf : fitG sizes lots (upI begun) = true
    · have hd : dif12 begun ≤ lots.length := by
        have := dif_le (U := List.range lots.length) (fun x hx => List.mem_range.2 (fitG_lt sizes lots begun hf x hx))
        simpa using this
      cases n with
      | zero =>
        rw [sr12, if_pos ⟨hf, hd⟩, if_pos hf, List.drop_of_length_le (by omega)]
        simp [fst12]
      | succ n =>
        have hlt : begun.length < sizes.length := by omega
        have hdr := List.drop_eq_getElem_cons hlt
        rw [sr12, if_pos ⟨hf, hd⟩, if_pos hf, hdr, fst12, ← findSome_map, lft_len]
        refine findSome_congr _ fun k hk => ?_
        rw [sr_eq n (begun ++ [k]) (by simp; omega), fitG_snoc sizes lots begun k _ _ hdr, hf, lft_snoc sizes lots begun k _ _ hdr, decide_eq_true hk]
        by_cases hv : (lft12 sizes lots begun).getD k 0 < sizes[begun.length]
        · rw [if_pos hv, decide_eq_false (by omega)]; rfl
        · rw [if_neg hv, decide_eq_true (by omega)]
          simp only [Bool.and_self, if_true, List.length_append, List.length_singleton, Option.map_map]
          congr 1
          funext r
          simp
    · rw [if_neg hf]
      cases n with
      | zero => rw [sr12, if_neg (fun h => hf h.1)]
      | succ n => rw [sr12, if_neg (fun h => hf h.1)]
theorem sr_some {sizes lots : List Int} {most : Nat} : ∀ (n : Nat) (begun : List Nat), (sr12 sizes lots most n begun).isSome = true ↔ ∃ az : List Nat, az.length = n ∧ fitG sizes lots (upI (begun ++ az)) = true ∧ dif12 (begun ++ az) ≤ most
  | 0, begun => by
    rw [sr12]
    constructor
    · intro h
      split at h
      · next g => exact ⟨[], rfl, by simpa using g⟩
      · simp at h
    · rintro ⟨az, hl, h⟩
      rw [List.eq_nil_of_length_eq_zero hl, List.append_nil] at h
      rw [if_pos h]; rfl
  | n + 1, begun => by
    rw [sr12]
    constructor
    · intro h
      split at h
      · obtain ⟨k, hk, hs⟩ := findSome_iff.1 h
        obtain ⟨az, hl, hf, hd⟩ := (sr_some n _).1 hs
        exact ⟨k :: az, by simp [hl], by simpa using hf, by simpa using hd⟩
      · simp at h
    · rintro ⟨az, hl, hf, hd⟩
      obtain ⟨k, az, rfl⟩ : ∃ k az', az = k :: az' := by
        cases az with
        | nil => simp at hl
        | cons k az => exact ⟨k, az, rfl⟩
      have h1 := fitG_pre sizes lots begun (k :: az) hf
      have h2 := dif_app begun (k :: az)
      rw [if_pos ⟨h1, by omega⟩]
      refine findSome_iff.2 ⟨k, fitG_lt sizes lots _ hf k (by simp), (sr_some n _).2 ⟨az, by simpa using hl, by simpa using hf, by simpa using hd⟩⟩
/-- Lots that are used are enough by themselves. -/
theorem fe_used : ∀ (sizes left : List Int) (az U : List Nat), az.length = sizes.length → fitG sizes left (upI az) = true → U.Nodup → (∀ x ∈ az, x ∈ U) → Fe sizes (U.map fun k => left.getD k 0)
  | [], _, _, _, _, _, _, _ => trivial
  | s :: ss, left, [], U, hl, _, _, _ => by simp at hl
  | s :: ss, left, k :: az, U, hl, hf, hd, hU => by
    rw [fitG_cons, Bool.and_eq_true, Bool.and_eq_true, decide_eq_true_eq, decide_eq_true_eq] at hf
    have hk : k ∈ U := hU k (by simp)
    have p1 : U.Perm (k :: U.erase k) := List.perm_cons_erase hk
    have ih := fe_used ss _ az U (by simpa using hl) hf.2 hd (fun x hx => hU x (by simp [hx]))
    refine ⟨left.getD k 0, (U.erase k).map fun j => left.getD j 0, by simpa using p1.map (fun j => left.getD j 0), hf.1.2, ih.perm ?_⟩
    have p2 := p1.map (fun j => (left.set k (left.getD k 0 - s)).getD j 0)
    rw [List.map_cons, getD_set_self hf.1.1] at p2
    refine p2.trans (.cons _ (.of_eq ?_))
    refine List.map_congr_left fun j hj => ?_
    exact getD_set_ne (hd.mem_erase_iff.1 hj).1
theorem fe_made : ∀ (sizes left : List Int) (U : List Nat), U.Nodup → (∀ x ∈ U, x < left.length) → Fe sizes (U.map fun k => left.getD k 0) → ∃ az : List Nat, az.length = sizes.length ∧ fitG sizes left (upI az) = true ∧ ∀ x ∈ az, x ∈ U
  | [], _, _, _, _, _ => ⟨[], rfl, by simp [fitG, upI], by simp⟩
  | s :: ss, left, U, hd, hlt, h => by
    obtain ⟨v, rest, hp, hv, hf⟩ := h
    have hm : v ∈ U.map fun k => left.getD k 0 := hp.symm.subset (by simp)
    obtain ⟨k, hk, rfl⟩ := List.mem_map.1 hm
    have p1 : U.Perm (k :: U.erase k) := List.perm_cons_erase hk
    have p2 := p1.map (fun j => left.getD j 0)
    rw [List.map_cons] at p2
    have p3 : rest.Perm ((U.erase k).map fun j => left.getD j 0) := (hp.symm.trans p2).cons_inv
    have hkl := hlt k hk
    have p4 := p1.map (fun j => (left.set k (left.getD k 0 - s)).getD j 0)
    rw [List.map_cons, getD_set_self hkl] at p4
    have e : (U.erase k).map (fun j => (left.set k (left.getD k 0 - s)).getD j 0) = (U.erase k).map fun j => left.getD j 0 := List.map_congr_left fun j hj => getD_set_ne (hd.mem_erase_iff.1 hj).1
    rw [e] at p4
    obtain ⟨az, h1, h2, h3⟩ := fe_made ss (left.set k (left.getD k 0 - s)) U hd (fun x hx => by rw [List.length_set]; exact hlt x hx) (hf.perm ((p3.cons _).trans p4.symm))
    refine ⟨k :: az, by simp [h1], ?_, fun x hx => ?_⟩
    · rw [fitG_cons, decide_eq_true hkl, decide_eq_true hv, h2]; rfl
    · rcases List.mem_cons.1 hx with e | hx
      · rw [e]; exact hk
      · exact h3 x hx
theorem map_lift {f : Nat → Int} : ∀ (D : List Int) (l : List Nat), (l.map f).Perm D → ∃ P : List Nat, l.Perm P ∧ P.map f = D
  | [], l, h => ⟨[], by
    have := h.length_eq
    simp at this
    rw [this], rfl⟩
  | d :: D, l, h => by
    have hm : d ∈ l.map f := h.symm.subset (by simp)
    obtain ⟨k, hk, rfl⟩ := List.mem_map.1 hm
    have p1 : l.Perm (k :: l.erase k) := List.perm_cons_erase hk
    have p2 := p1.map f
    rw [List.map_cons] at p2
    obtain ⟨P, h1, h2⟩ := map_lift D (l.erase k) ((p2.symm.trans h).cons_inv)
    exact ⟨k :: P, p1.trans (h1.cons k), by rw [List.map_cons, h2]⟩
/-- With n lots an assignment can be had exactly if the n greatest ones are enough. -/
theorem few_iff {sizes lots D : List Int} {n : Nat} (hd : D.Pairwise (· ≥ ·)) (hp : lots.Perm D) : (sr12 sizes lots n sizes.length []).isSome = true ↔ Fe sizes (D.take n) := by
  rw [sr_some]
  have hr : (List.range lots.length).map (fun k => lots.getD k 0) = lots := by
    refine List.ext_getElem (by simp) fun i h1 h2 => ?_
    simp only [List.getElem_map, List.getElem_range]
    exact getD_at h2
  constructor
  · rintro ⟨az, hl, hf, hdn⟩
    rw [List.nil_append] at hf hdn
    have hlt := fitG_lt sizes lots az hf
    have h1 := fe_used sizes lots az (ddp az) hl hf (ddp_nodup az) (fun x hx => (ddp_mem az x).2 hx)
    -- the rest of the lots
    have hsub : ∀ x ∈ ddp az, x ∈ List.range lots.length := fun x hx => List.mem_range.2 (hlt x ((ddp_mem az x).1 hx))
    have hex : ∀ (U V : List Nat), U.Nodup → (∀ x ∈ U, x ∈ V) → ∃ W, V.Perm (U ++ W) := by
      intro U
      induction U with
      | nil => intro V _ _; exact ⟨V, .refl _⟩
      | cons a U ih =>
        intro V hn hs
        obtain ⟨g1, g2⟩ := List.nodup_cons.1 hn
        have ha := hs a (by simp)
        obtain ⟨W, hW⟩ := ih (V.erase a) g2 (fun x hx => (List.mem_erase_of_ne (fun e => g1 (by rw [← e]; exact hx))).2 (hs x (by simp [hx])))
        exact ⟨W, (List.perm_cons_erase ha).trans (hW.cons a)⟩
    obtain ⟨W, hW⟩ := hex (ddp az) (List.range lots.length) (ddp_nodup az) hsub
    have hW2 := hW.map (fun k => lots.getD k 0)
    rw [hr, List.map_append] at hW2
    have h2 := fe_top sizes D _ _ [] hd (hp.symm.trans hW2) (by rw [List.append_nil]; exact h1)
    rw [List.append_nil, List.length_map, ddp_len] at h2
    have e : D.take n = D.take (dif12 az) ++ (D.drop (dif12 az)).take (n - dif12 az) := by
      rw [← List.take_add]; congr 1; omega
    rw [e]
    exact (fe_more sizes _ _ h2).perm List.perm_append_comm
  · intro h
    obtain ⟨P, h1, h2⟩ := map_lift D (List.range lots.length) (by rw [hr]; exact hp)
    have hPn : P.Nodup := h1.nodup_iff.1 List.nodup_range
    have hU : (P.take n).Nodup := hPn.sublist (List.take_sublist _ _)
    have hUl : ∀ x ∈ P.take n, x < lots.length := fun x hx => List.mem_range.1 (h1.symm.subset (List.mem_of_mem_take hx))
    obtain ⟨az, g1, g2, g3⟩ := fe_made sizes lots (P.take n) hU hUl (by rw [List.map_take, h2]; exact h)
    refine ⟨az, g1, by simpa using g2, ?_⟩
    rw [List.nil_append]
    have := dif_le g3
    rw [List.length_take] at this
    omega
end Go.Proofs.Ytpnmnkdnlajfiaa
