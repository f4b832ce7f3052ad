/- The walks of SplitString, the program's and the model's, over one plain function. No condition but a sign of at most 2^63 bytes. -/
import Derived.Test.YteiaanaljimghaaSplitImpl
namespace Go.Proofs.Yteiaanaljimghaa
open Go.RowKit

theorem splitGo_bd (b : UInt8) : ∀ (l cur : List UInt8), (∀ x ∈ splitGo b cur l, x.length ≤ cur.length + l.length) ∧ (splitGo b cur l).length ≤ l.length + 1 := by
  intro l
  induction l with
  | nil => intro cur; simp [splitGo]
  | cons c r ih =>
    intro cur
    rw [splitGo]
    split
    · refine ⟨fun x hx => ?_, by have := (ih []).2; simp; omega⟩
      rcases List.mem_cons.1 hx with rfl | hx
      · simp
      · have := (ih []).1 x hx; simp at this ⊢; omega
    · refine ⟨fun x hx => ?_, by have := (ih (cur ++ [c])).2; simp; omega⟩
      have := (ih (cur ++ [c])).1 x hx; simp at this ⊢; omega
/-- Whether a text is split, and into what. -/
def splitOk (s sep : ByteArray) : Bool := decide (s.size ≤ 4000 ∧ sep.size = 1)
def splitX (s sep : ByteArray) : List ByteArray := if h : s.size ≤ 4000 ∧ sep.size = 1 then (splitL (sep[0]'(by omega)) s.data.toList).map fun l => ⟨l.toArray⟩ else []
theorem splitX_yes {s sep : ByteArray} (h : s.size ≤ 4000 ∧ sep.size = 1) : splitX s sep = (splitL (sep[0]'(by omega)) s.data.toList).map fun l => ⟨l.toArray⟩ := by unfold splitX; rw [dif_pos h]
theorem splitX_no {s sep : ByteArray} (h : ¬ (s.size ≤ 4000 ∧ sep.size = 1)) : splitX s sep = [] ∧ splitOk s sep = false := ⟨by unfold splitX; rw [dif_neg h], by unfold splitOk; exact decide_eq_false h⟩
theorem split_of {s sep : ByteArray} (h : s.size ≤ 4000 ∧ sep.size = 1) {P : List ByteArray} (hP : P.map (·.data.toList) = splitL (sep[0]'(by omega)) s.data.toList) : P = splitX s sep := by
  rw [splitX_yes h, ← hP, List.map_map]
  have : ((fun l : List UInt8 => (⟨l.toArray⟩ : ByteArray)) ∘ fun x : ByteArray => x.data.toList) = id := by funext x; simp
  rw [this, List.map_id]
theorem size_arr (l : List UInt8) : (⟨l.toArray⟩ : ByteArray).size = l.length := by simp [ByteArray.size]
theorem splitX_bd (s sep : ByteArray) : (∀ x ∈ splitX s sep, x.size ≤ 4000) ∧ (splitX s sep).length ≤ 4001 := by
  by_cases h : s.size ≤ 4000 ∧ sep.size = 1
  · rw [splitX_yes h]
    have hb := splitGo_bd (sep[0]'(by omega)) s.data.toList []
    have hl := sizeL s
    refine ⟨fun x hx => ?_, by rw [List.length_map]; have := hb.2; unfold splitL; omega⟩
    obtain ⟨l, hl', rfl⟩ := List.mem_map.1 hx
    have := hb.1 l hl'
    rw [size_arr]
    simp only [List.length_nil, Nat.zero_add] at this
    omega
  · rw [(splitX_no h).1]
    exact ⟨fun x hx => by simp at hx, by simp⟩

set_option maxRecDepth 100000 in
set_option maxHeartbeats 1000000 in
theorem implSplitString_any (s sep : ByteArray) (w : World) (hs : s.size ≤ maxLen) (_hsep : sep.size ≤ maxLen) : Calls Try.prog 43 #[.string s, .string sep] w (OutF strF w (splitX s sep) (splitOk s sep)) := by
  unfold maxLen at hs
  by_cases h : s.size ≤ 4000 ∧ sep.size = 1
  · refine (implSplitString_yes s sep w h.1 h.2).mono ?_
    rintro e w' ⟨A, c, P, rfl, ho, hb, hP⟩
    obtain rfl := split_of h hP
    exact ⟨A, c, by rw [show splitOk s sep = true from decide_eq_true h]; try rfl, ho, hb⟩
  · rw [(splitX_no h).1, (splitX_no h).2]
    by_cases h1 : s.size ≤ 4000
    · have h2 : ¬ sep.size = 1 := fun e => h ⟨h1, e⟩
      have hne : ((sep.size : Int) != 1) = true := by simp; omega
      go_enter Try.func43, Try.ntmps43
      go_wp2
      go_ret2
      exact ⟨none, 0, rfl, OwnF.nil _ _ _, Below.refl _ _⟩
    · have h2 : (4000 : Int) < (s.size : Int) := by omega
      go_enter Try.func43, Try.ntmps43
      go_wp2
      go_ret2
      exact ⟨none, 0, rfl, OwnF.nil _ _ _, Below.refl _ _⟩
end Go.Proofs.Yteiaanaljimghaa
