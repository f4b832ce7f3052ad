/- A text read as a chart, as plain mathematics. No condition. -/
import Derived.Test.YteiaanaljimghaaTextMath
import Derived.Test.YteiaanaljimghaaSplits
namespace Go.Proofs.Yteiaanaljimghaa
open Go.RowKit

/-- Lists joined by a byte, from the left. -/
def joinR (b : UInt8) : List (List UInt8) → List UInt8
  | [] => []
  | x :: r => if r = [] then x else x ++ [b] ++ joinR b r
theorem joinR_snoc (b : UInt8) (l : List (List UInt8)) (x : List UInt8) : joinR b (l ++ [x]) = if l = [] then x else joinR b l ++ [b] ++ x := by
  induction l with
  | nil => simp [joinR]
  | cons y ys ih =>
    rw [List.cons_append, joinR, if_neg (by simp), ih]
    by_cases h : ys = []
    · subst h; simp [joinR]
    · rw [if_neg h, if_neg (List.cons_ne_nil _ _), joinR, if_neg h]; simp
theorem joinR_split (b : UInt8) : ∀ (l cur : List UInt8), joinR b (splitGo b cur l) = cur ++ l := by
  intro l
  induction l with
  | nil => intro cur; simp [splitGo, joinR]
  | cons c r ih =>
    intro cur
    rw [splitGo]
    split
    · rename_i h
      rw [joinR, if_neg (splitGo_ne b r []), ih, h]
      simp
    · rw [ih]; simp
theorem split_flat (b : UInt8) : ∀ (l cur : List UInt8), (splitGo b cur l).flatten = cur ++ l.filter (· != b) := by
  intro l
  induction l with
  | nil => intro cur; simp [splitGo]
  | cons c r ih =>
    intro cur
    rw [splitGo]
    split
    · rename_i h
      subst h
      rw [List.flatten_cons, ih]; simp
    · rename_i h
      rw [ih, List.filter_cons_of_pos (by simpa using h)]; simp
theorem split_part (b : UInt8) (rest : List UInt8) : ∀ (x cur : List UInt8), b ∉ x → splitGo b cur (x ++ b :: rest) = (cur ++ x) :: splitGo b [] rest := by
  intro x
  induction x with
  | nil => intro cur _; rw [List.nil_append, splitGo, if_pos rfl, List.append_nil]
  | cons c r ih =>
    intro cur h
    rw [List.cons_append, splitGo, if_neg (fun e => h (by simp [e])), ih _ (fun e => h (List.mem_cons_of_mem _ e))]
    simp
theorem split_last (b : UInt8) : ∀ (x cur : List UInt8), b ∉ x → splitGo b cur x = [cur ++ x] := by
  intro x
  induction x with
  | nil => intro cur _; simp [splitGo]
  | cons c r ih =>
    intro cur h
    rw [splitGo, if_neg (fun e => h (by simp [e])), ih _ (fun e => h (List.mem_cons_of_mem _ e))]
    simp
theorem split_joinR (b : UInt8) : ∀ (rows : List (List UInt8)), rows ≠ [] → (∀ r ∈ rows, b ∉ r) → splitL b (joinR b rows) = rows := by
  intro rows
  induction rows with
  | nil => intro h; exact absurd rfl h
  | cons x r ih =>
    intro _ hb
    rw [joinR]
    by_cases h : r = []
    · subst h; rw [if_pos rfl, splitL, split_last b x [] (hb x (by simp))]; rfl
    · rw [if_neg h, splitL, List.append_assoc, List.singleton_append, split_part b _ x [] (hb x (by simp)), List.nil_append]
      congr 1
      exact ih h (fun y hy => hb y (List.mem_cons_of_mem _ hy))
theorem flat_row {α : Type} {m : Nat} : ∀ (rows : List (List α)), (∀ r ∈ rows, r.length = m) → ∀ i (hi : i < rows.length), (rows.flatten.drop (i * m)).take m = rows[i] := by
  intro rows
  induction rows with
  | nil => intro _ i hi; simp at hi
  | cons x r ih =>
    intro h i hi
    have hx := h x (by simp)
    cases i with
    | zero => rw [List.flatten_cons, Nat.zero_mul, List.drop_zero, ← hx, List.take_left]; rfl
    | succ i =>
      rw [List.flatten_cons, Nat.succ_mul, Nat.add_comm, ← List.drop_drop, ← hx, List.drop_left, hx]
      have := ih (fun y hy => h y (List.mem_cons_of_mem _ hy)) i (by simpa using hi)
      simpa using this
theorem flat_size {α : Type} {m : Nat} : ∀ (rows : List (List α)), (∀ r ∈ rows, r.length = m) → rows.flatten.length = rows.length * m := by
  intro rows
  induction rows with
  | nil => intro _; simp
  | cons x r ih =>
    intro h
    rw [List.flatten_cons, List.length_append, ih (fun y hy => h y (List.mem_cons_of_mem _ hy)), h x (by simp), List.length_cons, Nat.succ_mul, Nat.add_comm]
theorem joinR_size {b : UInt8} {m : Nat} : ∀ (rows : List (List UInt8)), (∀ r ∈ rows, r.length = m) → (joinR b rows).length ≤ rows.length * (m + 1) := by
  intro rows
  induction rows with
  | nil => intro _; simp [joinR]
  | cons x r ih =>
    intro h
    have hx := h x (by simp)
    have := ih (fun y hy => h y (List.mem_cons_of_mem _ hy))
    rw [joinR, List.length_cons, Nat.succ_mul]
    split
    · omega
    · simp only [List.length_append, List.length_singleton]; omega

def colorOf (b : UInt8) : Int := (b.toNat : Int) - 97
theorem letter_of {b : UInt8} (h : 0 ≤ colorOf b) : letter (colorOf b) = b := by
  apply UInt8.toNat_inj.1
  unfold letter
  unfold colorOf at h ⊢
  have := b.toNat_lt
  rw [UInt8.toNat_ofNat']
  omega
theorem color_letter {x : Int} (h : 0 ≤ x ∧ x < 6) : colorOf (letter x) = x := by
  unfold colorOf
  have := letter_nat h
  omega
/-- The text of rows of one length. -/
theorem text_rows {m : Nat} {rows : List (List UInt8)} {K : List Int} (hm : 0 < m) (hu : ∀ r ∈ rows, r.length = m) (hK : K = rows.flatten.map colorOf) (hc : ∀ x ∈ K, 0 ≤ x ∧ x < 6) :
    ∀ r, r ≤ rows.length → tx m K (r * m) = joinR 47 (rows.take r) := by
  intro r
  induction r with
  | zero => intro _; simp [tx, joinR]
  | succ r ih =>
    intro hr
    have hrl : r < rows.length := by omega
    have hlen : rows[r].length = m := hu _ (List.getElem_mem hrl)
    have hrow := flat_row rows hu r hrl
    have hget : ∀ j, (hj : j < m) → letter (K.getD (r * m + j) 0) = rows[r][j]'(by omega) := by
      intro j hj
      have e1 : rows.flatten[r * m + j]? = some (rows[r][j]'(by omega)) := by
        have : ((rows.flatten.drop (r * m)).take m)[j]? = rows[r][j]? := by rw [hrow]
        rw [List.getElem?_take, if_pos hj, List.getElem?_drop, List.getElem?_eq_getElem (show j < rows[r].length by omega)] at this
        exact this
      have e2 : K[r * m + j]? = some (colorOf (rows[r][j]'(by omega))) := by rw [hK, List.getElem?_map, e1]; rfl
      rw [List.getD_eq_getElem?_getD, e2]
      exact letter_of (hc _ (List.mem_of_getElem? e2)).1
    have hp : ∀ j, j ≤ m → px m K r j = px m K r 0 ++ rows[r].take j := by
      intro j
      induction j with
      | zero => intro _; simp
      | succ j ihj =>
        intro hj
        rw [px_step hm (by omega), ihj (by omega), hget j (by omega), List.append_assoc, List.take_succ_eq_append_getElem (by omega)]
    rw [← px_end hm, hp m (Nat.le_refl _), List.take_of_length_le (by omega), List.take_succ_eq_append_getElem hrl, joinR_snoc, px, if_pos rfl, ih (by omega)]
    by_cases h0 : 0 < r
    · rw [if_pos h0, if_neg (by
        intro e
        have := congrArg List.length e
        rw [List.length_take, List.length_nil] at this
        omega)]
    · obtain rfl : r = 0 := by omega
      simp [joinR]
/-- A list in rows. -/
theorem chunks {α : Type} (K : List α) (m : Nat) : ∀ k, ((List.range k).map fun r => (K.drop (r * m)).take m).flatten = K.take (k * m) := by
  intro k
  induction k with
  | zero => simp
  | succ k ih =>
    rw [List.range_succ, List.map_append, List.flatten_append, ih, Nat.succ_mul, List.take_add]
    simp

def readRows (s : ByteArray) : List (List UInt8) := splitL 47 s.data.toList
def readK (s : ByteArray) : List Int := (s.data.toList.filter (· != 47)).map colorOf
def readM (s : ByteArray) : Nat := ((readRows s).headD []).length
def readH (s : ByteArray) : Nat := (readRows s).length
def readOk (s : ByteArray) : Bool := decide (s.size ≤ 4000) && (readRows s).all (fun r => r.length == readM s) && goodB (readM s) (readH s) (readK s)
def readX (s : ByteArray) : List Int := if readOk s = true then readK s else []
theorem readRows_ne (s : ByteArray) : 0 < (readRows s).length := List.length_pos_iff.2 (splitGo_ne 47 s.data.toList [])
theorem readK_flat (s : ByteArray) : readK s = (readRows s).flatten.map colorOf := by
  unfold readK readRows splitL
  rw [split_flat]; rfl
theorem read_join (s : ByteArray) : joinR 47 (readRows s) = s.data.toList := by
  unfold readRows splitL
  rw [joinR_split]; rfl
/-- The model's way to tell. -/
theorem read_spec (s : ByteArray) : readOk s = (decide (s.size ≤ 72) && goodB (readM s) (readH s) (readK s) && decide (tx (readM s) (readK s) (readK s).length = s.data.toList)) := by
  rw [Bool.eq_iff_iff]
  unfold readOk
  simp only [Bool.and_eq_true, decide_eq_true_eq, List.all_eq_true, beq_iff_eq]
  constructor
  · rintro ⟨⟨_, hu⟩, hg⟩
    obtain ⟨m, k, em, ek, m1, m8, k1, k8, hl, h64, hl1, hc⟩ := good_nat hg
    obtain rfl : m = readM s := by omega
    have hm8 : readM s ≤ 8 := by omega
    have hK : (readK s).length = (readRows s).length * readM s := by rw [readK_flat, List.length_map, flat_size _ hu]
    refine ⟨⟨?_, hg⟩, ?_⟩
    · have h1 := joinR_size (b := 47) _ hu
      rw [read_join, sizeL] at h1
      have h2 : (readRows s).length ≤ 8 := by have : readH s = (readRows s).length := rfl; omega
      have h3 : (readRows s).length * (readM s + 1) ≤ 8 * 9 := Nat.mul_le_mul h2 (by omega)
      omega
    · rw [hK, text_rows (by omega) hu (readK_flat s) hc _ (Nat.le_refl _), List.take_length, read_join]
  · rintro ⟨⟨hs, hg⟩, ht⟩
    obtain ⟨m, k, em, ek, m1, m8, k1, k8, hl, h64, hl1, hc⟩ := good_nat hg
    obtain rfl : m = readM s := by omega
    refine ⟨⟨by omega, ?_⟩, hg⟩
    have hlk : (readK s).length = k * readM s := by rw [hl.out, Nat.mul_comm]
    have hrl : ∀ r, r < k → (rowL (readM s) r (readK s)).length = readM s := fun r hr => rowL_len hl.out hr
    obtain ⟨rows, hrows⟩ : ∃ rows, (List.range k).map (fun r => (rowL (readM s) r (readK s)).map letter) = rows := ⟨_, rfl⟩
    have hu : ∀ r ∈ rows, r.length = readM s := by
      intro r hr
      rw [← hrows] at hr
      obtain ⟨i, hi, rfl⟩ := List.mem_map.1 hr
      rw [List.length_map]; exact hrl i (List.mem_range.1 hi)
    have hrc : rows.length = k := by rw [← hrows]; simp
    have hmem : ∀ r, ∀ x ∈ rowL (readM s) r (readK s), x ∈ readK s := fun r x hx => List.mem_of_mem_drop (List.mem_of_mem_take hx)
    have hK : readK s = rows.flatten.map colorOf := by
      rw [← hrows, List.map_flatten, List.map_map]
      have : (List.map colorOf ∘ fun r => (rowL (readM s) r (readK s)).map letter) = fun r => ((readK s).drop (r * readM s)).take (readM s) := by
        funext r
        simp only [Function.comp, List.map_map]
        have : ∀ x ∈ rowL (readM s) r (readK s), (colorOf ∘ letter) x = x := fun x hx => color_letter (hc x (hmem r x hx))
        exact (List.map_congr_left this).trans (List.map_id' _)
      rw [this, chunks, ← hlk, List.take_length]
    have hno : ∀ r ∈ rows, (47 : UInt8) ∉ r := by
      intro r hr h47
      rw [← hrows] at hr
      obtain ⟨i, hi, rfl⟩ := List.mem_map.1 hr
      obtain ⟨x, hx, e⟩ := List.mem_map.1 h47
      have := letter_nat (hc x (hmem i x hx))
      rw [e] at this
      have e47 : ((47 : UInt8).toNat : Int) = 47 := rfl
      have := (hc x (hmem i x hx)).1
      omega
    have hrows' : readRows s = rows := by
      unfold readRows
      rw [← ht, hlk, ← hrc, text_rows (by omega) hu hK hc _ (Nat.le_refl _), List.take_length]
      exact split_joinR 47 rows (by intro e; rw [e] at hrc; simp at hrc; omega) hno
    intro r hr
    exact hu r (hrows' ▸ hr)
end Go.Proofs.Yteiaanaljimghaa
