/- The parts of a text joined again give the text. No condition. -/
import Derived.Test.YtdfijojkkmpllaaSplits
import Derived.Test.YtdfijojkkmpllaaJoinMath
namespace Go.Proofs.Ytdfijojkkmpllaa

/-- Lists joined by a byte, from the left. -/
def joinC (b : UInt8) : List (List UInt8) → List UInt8
  | [] => []
  | x :: r => if r = [] then x else x ++ [b] ++ joinC b r
theorem joinC_snoc (b : UInt8) (l : List (List UInt8)) (x : List UInt8) : joinC b (l ++ [x]) = if l = [] then x else joinC b l ++ [b] ++ x := by
  induction l with
  | nil => simp [joinC]
  | cons y ys ih =>
    rw [List.cons_append, joinC, if_neg (by simp), ih]
    by_cases h : ys = []
    · subst h; simp [joinC]
    · rw [if_neg h, if_neg (List.cons_ne_nil _ _), joinC, if_neg h]; simp
theorem joinC_split (b : UInt8) : ∀ (l cur : List UInt8), joinC b (splitGo b cur l) = cur ++ l := by
  intro l
  induction l with
  | nil => intro cur; simp [splitGo, joinC]
  | cons c r ih =>
    intro cur
    rw [splitGo]
    split
    · rename_i h
      rw [joinC, if_neg (splitGo_ne b r []), ih, h]
      simp
    · rw [ih]; simp
theorem split_not (b : UInt8) : ∀ (l cur : List UInt8), b ∉ cur → ∀ x ∈ splitGo b cur l, b ∉ x := by
  intro l
  induction l with
  | nil => intro cur h x hx; simp [splitGo] at hx; subst hx; exact h
  | cons c r ih =>
    intro cur h x hx
    rw [splitGo] at hx
    split at hx
    · rcases List.mem_cons.1 hx with rfl | hx
      · exact h
      · exact ih [] (by simp) x hx
    · rename_i hc
      exact ih (cur ++ [c]) (by simp [h]; exact fun e => hc e.symm) x hx
theorem joinL_take (b : UInt8) (ps : List ByteArray) : ∀ k, k ≤ ps.length → joinL b ps k = joinC b ((ps.take k).map (·.data.toList)) := by
  intro k
  induction k with
  | zero => intro _; rfl
  | succ k ih =>
    intro hk
    have hx : ps[k]? = some (ps[k]'(by omega)) := List.getElem?_eq_getElem (by omega)
    rw [joinL_succ, ih (by omega), part_at hx, List.take_succ_eq_append_getElem (by omega), List.map_append, List.map_cons, List.map_nil, joinC_snoc, joinPre]
    by_cases h0 : 0 < k
    · rw [if_pos h0, if_neg (by
        intro e
        have := congrArg List.length e
        rw [List.length_map, List.length_take, List.length_nil] at this
        omega)]
    · obtain rfl : k = 0 := by omega
      simp [joinC]
theorem joinL_mono (b : UInt8) (ps : List ByteArray) (k : Nat) : (joinL b ps k).length ≤ (joinL b ps (k + 1)).length := by
  rw [joinL_succ, List.length_append]
  unfold joinPre
  split
  · simp; omega
  · omega
theorem joinL_monos (b : UInt8) (ps : List ByteArray) {k n : Nat} (h : k ≤ n) : (joinL b ps k).length ≤ (joinL b ps n).length := by
  induction n with
  | zero => obtain rfl : k = 0 := by omega
            exact Nat.le_refl _
  | succ n ih =>
    by_cases e : k = n + 1
    · subst e; exact Nat.le_refl _
    · exact Nat.le_trans (ih (by omega)) (joinL_mono b ps n)
theorem joinOk_all {b : UInt8} {ps : List ByteArray} (h : ∀ x ∈ ps, b ∉ x.data.toList) (hl : (joinL b ps ps.length).length ≤ 4000) : ∀ k, k ≤ ps.length → joinOk b ps k = true := by
  intro k
  induction k with
  | zero => intro _; rfl
  | succ k ih =>
    intro hk
    have hx : ps[k]? = some (ps[k]'(by omega)) := List.getElem?_eq_getElem (by omega)
    refine joinOk_step (ih (by omega)) ?_ (Nat.le_trans (joinL_monos b ps hk) hl)
    rw [part_at hx]
    have := h _ (List.getElem_mem (by omega : k < ps.length))
    simpa [HasB] using this
/-- What was split joins to what it was. -/
theorem join_split {s sep : ByteArray} (h : s.size ≤ 4000) (h1 : sep.size = 1) : joins (splitX s sep) sep = true ∧ joined (splitX s sep) sep = s := by
  have hX := splitX_yes ⟨h, h1⟩
  have hm : (splitX s sep).map (·.data.toList) = splitL (sep[0]'(by omega)) s.data.toList := by
    rw [hX, List.map_map]
    have : ((fun x : ByteArray => x.data.toList) ∘ fun l : List UInt8 => (⟨l.toArray⟩ : ByteArray)) = id := by funext x; simp
    rw [this, List.map_id]
  have hne : 0 < (splitX s sep).length := by
    have := splitGo_ne (sep[0]'(by omega)) s.data.toList []
    rw [← List.length_map (f := fun x : ByteArray => x.data.toList), hm]
    exact List.length_pos_iff.2 this
  have hj : joinL (sep[0]'(by omega)) (splitX s sep) (splitX s sep).length = s.data.toList := by
    rw [joinL_take _ _ _ (Nat.le_refl _), List.take_length, hm, splitL, joinC_split]; rfl
  have hno : ∀ x ∈ splitX s sep, (sep[0]'(by omega)) ∉ x.data.toList := by
    intro x hx
    refine split_not (sep[0]'(by omega)) s.data.toList [] (by simp) _ ?_
    have : x.data.toList ∈ (splitX s sep).map (·.data.toList) := List.mem_map_of_mem hx
    rw [hm] at this
    exact this
  have hok := joinOk_all hno (by rw [hj, sizeL]; exact h) _ (Nat.le_refl _)
  obtain ⟨hy1, hy2⟩ := joins_yes h1 hne hok
  refine ⟨hy1, ?_⟩
  rw [hy2, hj]
end Go.Proofs.Ytdfijojkkmpllaa
