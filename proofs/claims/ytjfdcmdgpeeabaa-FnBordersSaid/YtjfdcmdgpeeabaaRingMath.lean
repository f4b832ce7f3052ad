/- Plain mathematics of rings: the places of a ring, a ring read, a ring put in, its period. -/
import Derived.Test.YtjfdcmdgpeeabaaTileMath
import Derived.Test.YtjfdcmdgpeeabaaPutMath
namespace Go.Proofs.Ytjfdcmdgpeeabaa
open Go.RowKit

/-- How many knots a ring has. -/
def ringN (m k : Nat) : Nat := 2 * (m - 1) + 2 * (k - 1)
/-- Its places, clockwise. -/
def ringP (m k : Nat) : List Nat :=
  List.range m ++ (List.range (k - 1)).map (fun r => (r + 1) * m + (m - 1)) ++ (List.range (m - 1)).map (fun j => (k - 1) * m + (m - 2 - j)) ++ (List.range (k - 2)).map (fun r => (k - 2 - r) * m)
theorem ringP_len {m k : Nat} (h1 : 2 ≤ m) (h2 : 2 ≤ k) : (ringP m k).length = ringN m k := by simp [ringP, ringN]; omega
def placeP (m k n : Nat) : Nat := (ringP m k).getD n 0
/-- Side s: its knots without the last one, the step from one to the next, the number of its first one, its i-th place. -/
def sideN (m k s : Nat) : Nat := if s % 2 = 0 then m - 1 else k - 1
def sideS (m : Nat) : Nat → Int
  | 0 => 1
  | 1 => m
  | 2 => -1
  | _ => -(m : Int)
def offN (m k : Nat) : Nat → Nat
  | 0 => 0
  | s + 1 => offN m k s + sideN m k s
def sideP (m k : Nat) : Nat → Nat → Nat
  | 0, i => i
  | 1, i => m - 1 + i * m
  | 2, i => k * m - 1 - i
  | 3, i => (k - 1) * m - i * m
  | _, _ => 0
def inSides (f : Nat → Nat → Bool) : Bool := (List.range 7).all fun m => (List.range 7).all fun k => f (m + 2) (k + 2)
theorem inSides_at {f : Nat → Nat → Bool} (h : inSides f = true) {m k : Nat} (m2 : 2 ≤ m) (m8 : m ≤ 8) (k2 : 2 ≤ k) (k8 : k ≤ 8) : f m k = true := by
  unfold inSides at h
  rw [List.all_eq_true] at h
  have h1 := h (m - 2) (List.mem_range.2 (by omega))
  rw [List.all_eq_true] at h1
  have h2 := h1 (k - 2) (List.mem_range.2 (by omega))
  rwa [Nat.sub_add_cancel m2, Nat.sub_add_cancel k2] at h2
def sideOk (m k : Nat) : Bool := (List.range 4).all fun s => (List.range (sideN m k s)).all fun i =>
  (placeP m k (offN m k s + i) == sideP m k s i) && ((sideP m k s i : Int) + sideS m s == (sideP m k s (i + 1) : Int)) && Nat.blt (sideP m k s i) (m * k) && Nat.blt (offN m k s + i) (ringN m k)
theorem sides_tab : inSides sideOk = true := by kernel_rfl
theorem side_at {m k s i : Nat} (m2 : 2 ≤ m) (m8 : m ≤ 8) (k2 : 2 ≤ k) (k8 : k ≤ 8) (hs : s < 4) (hi : i < sideN m k s) :
    placeP m k (offN m k s + i) = sideP m k s i ∧ (sideP m k s i : Int) + sideS m s = (sideP m k s (i + 1) : Int) ∧ sideP m k s i < m * k ∧ offN m k s + i < ringN m k := by
  have h := inSides_at sides_tab m2 m8 k2 k8
  unfold sideOk at h
  rw [List.all_eq_true] at h
  have h1 := h s (List.mem_range.2 hs)
  rw [List.all_eq_true] at h1
  have h2 := h1 i (List.mem_range.2 hi)
  simp only [Bool.and_eq_true, beq_iff_eq, Nat.blt_eq] at h2
  exact ⟨h2.1.1.1, h2.1.1.2, h2.1.2, h2.2⟩
def turnsOk (m k : Nat) : Bool := (List.range 3).all fun s => sideP m k s (sideN m k s) == sideP m k (s + 1) 0
theorem turns_tab : inSides turnsOk = true := by kernel_rfl
theorem side_next {m k s : Nat} (m2 : 2 ≤ m) (m8 : m ≤ 8) (k2 : 2 ≤ k) (k8 : k ≤ 8) : ∃ p, sideP m k s (sideN m k s) = p ∧ (s < 3 → p = sideP m k (s + 1) 0) := by
  refine ⟨_, rfl, fun h3 => ?_⟩
  have h := inSides_at turns_tab m2 m8 k2 k8
  unfold turnsOk at h
  rw [List.all_eq_true] at h
  simpa using h s (List.mem_range.2 h3)
theorem offN_end {m k : Nat} : offN m k 4 = ringN m k := by simp [offN, sideN, ringN]; omega
/-- All places lie within the chart, each one once; what is no place lies inside of the ring. -/
def placesOk (m k : Nat) : Bool := (ringP m k).all fun q => Nat.blt q (m * k)
theorem places_tab : inSides placesOk = true := by kernel_rfl
theorem place_lt {m k q : Nat} (m2 : 2 ≤ m) (m8 : m ≤ 8) (k2 : 2 ≤ k) (k8 : k ≤ 8) (h : q ∈ ringP m k) : q < m * k := by
  have h1 := inSides_at places_tab m2 m8 k2 k8
  unfold placesOk at h1
  rw [List.all_eq_true] at h1
  simpa using h1 q h
theorem placeP_lt {m k n : Nat} (m2 : 2 ≤ m) (m8 : m ≤ 8) (k2 : 2 ≤ k) (k8 : k ≤ 8) (h : n < ringN m k) : placeP m k n < m * k := by
  have hl : n < (ringP m k).length := by rw [ringP_len m2 k2]; exact h
  refine place_lt m2 m8 k2 k8 ?_
  rw [placeP, List.getD_eq_getElem?_getD, List.getElem?_eq_getElem hl]
  exact List.getElem_mem hl
def onceOk (m k : Nat) : Bool := (List.range (ringN m k)).all fun i => (List.range i).all fun j => !(placeP m k j == placeP m k i)
theorem once_tab : inSides onceOk = true := by kernel_rfl
theorem place_once {m k i j : Nat} (m2 : 2 ≤ m) (m8 : m ≤ 8) (k2 : 2 ≤ k) (k8 : k ≤ 8) (hi : i < ringN m k) (hj : j < ringN m k) (h : placeP m k i = placeP m k j) : i = j := by
  have key : ∀ i j, i < ringN m k → j < i → placeP m k j ≠ placeP m k i := by
    intro i j hi hj
    have h1 := inSides_at once_tab m2 m8 k2 k8
    unfold onceOk at h1
    rw [List.all_eq_true] at h1
    have h2 := h1 i (List.mem_range.2 hi)
    rw [List.all_eq_true] at h2
    have h3 := h2 j (List.mem_range.2 hj)
    simpa using h3
  rcases Nat.lt_trichotomy i j with hl | hl | hl
  · exact absurd h (key j i hj hl)
  · exact hl
  · exact absurd h.symm (key i j hi hl)
def innerOk (m k : Nat) : Bool := (List.range k).all fun r => (List.range m).all fun c => (ringP m k).contains (r * m + c) == !(Nat.ble 1 r && Nat.ble r (k - 2) && Nat.ble 1 c && Nat.ble c (m - 2))
theorem inner_tab : inSides innerOk = true := by kernel_rfl
theorem inner_iff {m k r c : Nat} (m2 : 2 ≤ m) (m8 : m ≤ 8) (k2 : 2 ≤ k) (k8 : k ≤ 8) (hr : r < k) (hc : c < m) : r * m + c ∈ ringP m k ↔ ¬ (1 ≤ r ∧ r ≤ k - 2 ∧ 1 ≤ c ∧ c ≤ m - 2) := by
  have h1 := inSides_at inner_tab m2 m8 k2 k8
  unfold innerOk at h1
  rw [List.all_eq_true] at h1
  have h2 := h1 r (List.mem_range.2 hr)
  rw [List.all_eq_true] at h2
  have h3 := h2 c (List.mem_range.2 hc)
  rw [beq_iff_eq] at h3
  rw [← List.contains_iff_mem, h3]
  cases hh : (Nat.ble 1 r && Nat.ble r (k - 2) && Nat.ble 1 c && Nat.ble c (m - 2)) with
  | true =>
    simp only [Bool.and_eq_true, Nat.ble_eq] at hh
    constructor
    · intro h; cases h
    · intro h; exact absurd ⟨hh.1.1.1, hh.1.1.2, hh.1.2, hh.2⟩ h
  | false =>
    constructor
    rotate_left
    · intro _; rfl
    rintro _ ⟨a, b, c', d⟩
    have : (Nat.ble 1 r && Nat.ble r (k - 2) && Nat.ble 1 c && Nat.ble c (m - 2)) = true := by simp only [Bool.and_eq_true, Nat.ble_eq]; exact ⟨⟨⟨a, b⟩, c'⟩, d⟩
    rw [hh] at this
    cases this
theorem mem_place {m k q : Nat} (m2 : 2 ≤ m) (k2 : 2 ≤ k) : q ∈ ringP m k ↔ ∃ n, n < ringN m k ∧ placeP m k n = q := by
  constructor
  · intro h
    obtain ⟨n, hn, e⟩ := List.getElem_of_mem h
    refine ⟨n, by rw [← ringP_len m2 k2]; exact hn, ?_⟩
    rw [placeP, List.getD_eq_getElem?_getD, List.getElem?_eq_getElem hn]
    exact e
  · rintro ⟨n, hn, rfl⟩
    have hl : n < (ringP m k).length := by rw [ringP_len m2 k2]; exact hn
    rw [placeP, List.getD_eq_getElem?_getD, List.getElem?_eq_getElem hl]
    exact List.getElem_mem hl

theorem set_getD {zs : List Int} {i q : Nat} {v : Int} : (zs.set i v).getD q 0 = if i = q ∧ q < zs.length then v else zs.getD q 0 := by
  by_cases e : i = q
  · subst e
    by_cases hlt : i < zs.length
    · rw [if_pos ⟨rfl, hlt⟩, getD_at (by simpa using hlt), List.getElem_set_self]
    · rw [if_neg (fun h => hlt h.2), List.set_eq_of_length_le (by omega)]
  · rw [if_neg (fun h => e h.1), List.getD_eq_getElem?_getD, List.getElem?_set_ne e, ← List.getD_eq_getElem?_getD]
/-- The numbers of a ring with their places. -/
def ringQ (m k : Nat) : List (Nat × Nat) := (List.range (ringN m k)).map fun n => (n, placeP m k n)
theorem ringQ_len (m k : Nat) : (ringQ m k).length = ringN m k := by simp [ringQ]
theorem ringQ_snoc {m k n : Nat} (hn : n < ringN m k) : (ringQ m k).take (n + 1) = (ringQ m k).take n ++ [(n, placeP m k n)] := by
  have hl : n < (ringQ m k).length := by rw [ringQ_len]; exact hn
  rw [List.take_succ_eq_append_getElem hl]
  congr 2
  simp [ringQ]
theorem ringQ_all {m k n : Nat} (hn : ringN m k ≤ n) : (ringQ m k).take n = ringQ m k := List.take_of_length_le (by rw [ringQ_len]; exact hn)
/-- The ring of a chart. -/
def ringL (m k : Nat) (xs : List Int) : List Int := (List.range (ringN m k)).map fun n => xs.getD (placeP m k n) 0
theorem ringL_len (m k : Nat) (xs : List Int) : (ringL m k xs).length = ringN m k := by simp [ringL]
theorem ringL_get {m k n : Nat} {xs : List Int} (hn : n < ringN m k) : (ringL m k xs).getD n 0 = xs.getD (placeP m k n) 0 := by
  have hl : n < (ringL m k xs).length := by rw [ringL_len]; exact hn
  rw [getD_at hl]
  simp [ringL]
/-- One knot read into its number. -/
def readF (xs : List Int) (zs : List Int) (x : Nat × Nat) : List Int := zs.set x.1 (xs.getD x.2 0)
/-- One knot of the ring put into its place. -/
def putF (cs : List Int) (zs : List Int) (x : Nat × Nat) : List Int := zs.set x.2 (cs.getD (x.1 % cs.length) 0)
def putRing (m k : Nat) (xs cs : List Int) : List Int := (ringQ m k).foldl (putF cs) xs
theorem read_all {m k : Nat} {xs zs : List Int} (hz : zs.length = ringN m k) : (ringQ m k).foldl (readF xs) zs = ringL m k xs := by
  have key : ∀ n, n ≤ ringN m k → ((ringQ m k).take n).foldl (readF xs) zs = (ringL m k xs).take n ++ zs.drop n := by
    intro n
    induction n with
    | zero => intro _; simp
    | succ n ih =>
      intro hn
      rw [ringQ_snoc hn, List.foldl_append, ih (by omega)]
      simp only [List.foldl_cons, List.foldl_nil, readF]
      have hl : n < (ringL m k xs).length := by rw [ringL_len]; exact hn
      have hzl : n < zs.length := by omega
      rw [List.take_succ_eq_append_getElem hl, List.append_assoc, List.drop_eq_getElem_cons hzl, List.set_append_right _ _ (by simp; omega)]
      have e1 : n - ((ringL m k xs).take n).length = 0 := by simp; omega
      rw [e1, List.set_cons_zero, ← ringL_get hn, getD_at hl]
      rfl
  have := key (ringN m k) (Nat.le_refl _)
  rw [ringQ_all (Nat.le_refl _)] at this
  rw [this, List.take_of_length_le (by rw [ringL_len]; exact Nat.le_refl _), List.drop_of_length_le (by omega), List.append_nil]
theorem foldl_put_len {cs : List Int} (l : List (Nat × Nat)) (zs : List Int) : (l.foldl (putF cs) zs).length = zs.length := by
  induction l generalizing zs with
  | nil => rfl
  | cons x l ih => rw [List.foldl_cons, ih, putF, List.length_set]
theorem putRing_len (m k : Nat) (xs cs : List Int) : (putRing m k xs cs).length = xs.length := foldl_put_len _ _
/-- Which knots are put in does not ask what stood there. -/
theorem put_agree {cs : List Int} : ∀ (l : List (Nat × Nat)) (zs ys : List Int), zs.length = ys.length → (∀ q, (∀ x ∈ l, x.2 ≠ q) → zs.getD q 0 = ys.getD q 0) → l.foldl (putF cs) zs = l.foldl (putF cs) ys
  | [], zs, ys, hl, h => list_ext0 hl fun q _ => h q (fun x hx => by cases hx)
  | x :: l, zs, ys, hl, h => by
    rw [List.foldl_cons, List.foldl_cons]
    refine put_agree l _ _ (by simp [putF, hl]) fun q hq => ?_
    unfold putF
    rw [set_getD, set_getD, hl]
    by_cases e : x.2 = q
    · by_cases hlt : q < ys.length
      · rw [if_pos ⟨e, hlt⟩, if_pos ⟨e, hlt⟩]
      · rw [if_neg (fun h => hlt h.2), if_neg (fun h => hlt h.2), List.getD_eq_getElem?_getD, List.getD_eq_getElem?_getD, List.getElem?_eq_none (by omega), List.getElem?_eq_none (by omega)]
    · rw [if_neg (fun h => e h.1), if_neg (fun h => e h.1)]
      exact h q fun y hy => by
        rcases List.mem_cons.1 hy with rfl | hy
        · exact e
        · exact hq y hy
theorem put_other {cs : List Int} : ∀ (l : List (Nat × Nat)) (zs : List Int) (q : Nat), (∀ x ∈ l, x.2 ≠ q) → (l.foldl (putF cs) zs).getD q 0 = zs.getD q 0
  | [], _, _, _ => rfl
  | x :: l, zs, q, h => by
    rw [List.foldl_cons, put_other l _ q fun y hy => h y (List.mem_cons_of_mem _ hy), putF, set_getD, if_neg (fun e => h x (List.mem_cons_self ..) e.1)]
theorem ringQ_mem {m k q : Nat} (m2 : 2 ≤ m) (k2 : 2 ≤ k) : (∀ x ∈ ringQ m k, x.2 ≠ q) ↔ q ∉ ringP m k := by
  rw [mem_place m2 k2]
  constructor
  · rintro h ⟨n, hn, rfl⟩
    exact h (n, placeP m k n) (List.mem_map.2 ⟨n, List.mem_range.2 hn, rfl⟩) rfl
  · intro h x hx e
    obtain ⟨n, hn, rfl⟩ := List.mem_map.1 hx
    exact h ⟨n, List.mem_range.1 hn, e⟩
theorem putRing_out {m k q : Nat} {xs cs : List Int} (m2 : 2 ≤ m) (k2 : 2 ≤ k) (h : q ∉ ringP m k) : (putRing m k xs cs).getD q 0 = xs.getD q 0 := put_other _ _ _ ((ringQ_mem m2 k2).2 h)
theorem putRing_agree {m k : Nat} {xs ys cs : List Int} (m2 : 2 ≤ m) (k2 : 2 ≤ k) (hl : xs.length = ys.length) (h : ∀ q, q ∉ ringP m k → xs.getD q 0 = ys.getD q 0) : putRing m k xs cs = putRing m k ys cs :=
  put_agree _ _ _ hl fun q hq => h q ((ringQ_mem m2 k2).1 hq)
theorem putRing_at {m k n : Nat} {xs cs : List Int} (m2 : 2 ≤ m) (m8 : m ≤ 8) (k2 : 2 ≤ k) (k8 : k ≤ 8) (hx : xs.length = m * k) (hn : n < ringN m k) : (putRing m k xs cs).getD (placeP m k n) 0 = cs.getD (n % cs.length) 0 := by
  have key : ∀ t, t ≤ ringN m k → n < t → (((ringQ m k).take t).foldl (putF cs) xs).getD (placeP m k n) 0 = cs.getD (n % cs.length) 0 := by
    intro t
    induction t with
    | zero => intro _ h; omega
    | succ t ih =>
      intro ht hnt
      rw [ringQ_snoc ht, List.foldl_append]
      simp only [List.foldl_cons, List.foldl_nil, putF]
      by_cases e : n = t
      · subst e
        rw [set_getD, if_pos ⟨rfl, by rw [foldl_put_len, hx]; exact placeP_lt m2 m8 k2 k8 hn⟩]
      · have hne : placeP m k t ≠ placeP m k n := fun h => e (place_once m2 m8 k2 k8 ht hn h).symm
        rw [set_getD, if_neg (fun h => hne h.1)]
        exact ih (by omega) (by omega)
  have := key (ringN m k) (Nat.le_refl _) hn
  rwa [ringQ_all (Nat.le_refl _)] at this
/-- The period of a ring: the first number that divides its length and that shifts it to itself. -/
def perRB (ys : List Int) (p : Nat) : Bool := decide (ys.length % p = 0) && decide (ys.drop p = ys.take (ys.length - p))
def perR (ys : List Int) : Nat := firstP (perRB ys) (ys.length - 1) 1
theorem shift_iff {ys : List Int} {p : Nat} (hp : p ≤ ys.length) : ys.drop p = ys.take (ys.length - p) ↔ ∀ i, i + p < ys.length → ys.getD i 0 = ys.getD (i + p) 0 := by
  constructor
  · intro h i hi
    have : (ys.drop p).getD i 0 = (ys.take (ys.length - p)).getD i 0 := by rw [h]
    rw [List.getD_eq_getElem?_getD, List.getElem?_drop, List.getD_eq_getElem?_getD (l := List.take _ _), List.getElem?_take, if_pos (by omega), ← List.getD_eq_getElem?_getD, ← List.getD_eq_getElem?_getD] at this
    rw [← this, Nat.add_comm]
  · intro h
    refine list_ext0 (by simp) fun i hi => ?_
    simp only [List.length_drop] at hi
    rw [List.getD_eq_getElem?_getD, List.getElem?_drop, List.getD_eq_getElem?_getD (l := List.take _ _), List.getElem?_take, if_pos (by omega), ← List.getD_eq_getElem?_getD, ← List.getD_eq_getElem?_getD, h i (by omega), Nat.add_comm]
theorem perRB_iff {ys : List Int} {p : Nat} (hp : p ≤ ys.length) : perRB ys p = true ↔ ys.length % p = 0 ∧ ∀ i, i + p < ys.length → ys.getD i 0 = ys.getD (i + p) 0 := by
  unfold perRB
  rw [Bool.and_eq_true, decide_eq_true_eq, decide_eq_true_eq, shift_iff hp]
/-- .. or around the whole ring. -/
theorem perRB_round {ys : List Int} {p : Nat} (p1 : 1 ≤ p) (hp : p ≤ ys.length) : perRB ys p = true ↔ ys.length % p = 0 ∧ ∀ i, i < ys.length → ys.getD i 0 = ys.getD ((i + p) % ys.length) 0 := by
  rw [perRB_iff hp]
  refine and_congr_right fun hd => ⟨fun h i hi => ?_, fun h i hi => ?_⟩
  · have red : ∀ j, j < ys.length → ys.getD j 0 = ys.getD (j % p) 0 := by
      intro j
      induction j using Nat.strongRecOn with
      | ind j ih =>
        intro hj
        by_cases hlt : j < p
        · rw [Nat.mod_eq_of_lt hlt]
        · have h1 := h (j - p) (by omega)
          rw [Nat.sub_add_cancel (by omega)] at h1
          rw [← h1, ih (j - p) (by omega) (by omega), ← Nat.mod_eq_sub_mod (by omega)]
    have hlt : (i + p) % ys.length < ys.length := Nat.mod_lt _ (by omega)
    rw [red i hi, red _ hlt, Nat.mod_mod_of_dvd _ (Nat.dvd_of_mod_eq_zero hd), Nat.add_mod_right]
  · have := h i (by omega)
    rwa [Nat.mod_eq_of_lt hi] at this
theorem perR_bd {ys : List Int} (h : 1 ≤ ys.length) : 1 ≤ perR ys ∧ perR ys ≤ ys.length := by
  have h1 := firstP_ge (g := perRB ys) (ys.length - 1) 1
  have h2 := firstP_le (g := perRB ys) (ys.length - 1) 1
  unfold perR
  omega
theorem perRB_self {ys : List Int} : perRB ys ys.length = true := by simp [perRB]
theorem perR_ok {ys : List Int} (h : 1 ≤ ys.length) : perRB ys (perR ys) = true := firstP_ok _ _ (by rw [show 1 + (ys.length - 1) = ys.length by omega]; exact perRB_self)
end Go.Proofs.Ytjfdcmdgpeeabaa
