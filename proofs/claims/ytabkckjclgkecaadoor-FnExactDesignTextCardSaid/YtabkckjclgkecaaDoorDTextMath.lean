/- A design's text. No condition. -/
import Derived.Test.YtabkckjclgkecaaDoorDesignMath
import Derived.Test.YtabkckjclgkecaaDoorTextJoin
namespace Go.Proofs.YtabkckjclgkecaaDoor
open Go.RowKit

def letB (k : Int) : ByteArray := if k = 1 then ⟨#[112]⟩ else if k = 2 then ⟨#[116]⟩ else if k = 3 then ⟨#[109]⟩ else if k = 4 then ⟨#[98]⟩ else if k = 5 then ⟨#[117]⟩ else if k = 6 then ⟨#[114]⟩ else if k = 7 then ⟨#[99]⟩ else if k = 8 then ⟨#[115]⟩ else ⟨#[120]⟩
def numsL (d : DesignR) : List Int := if d.f0 = 1 then [d.f1, d.f2, d.f3] else if d.f0 = 6 then [d.f1] else if d.f0 = 9 then [d.f1, d.f2] else []
noncomputable def numsT (d : DesignR) : ByteArray := joinTo 46 ((numsL d).map numB) (numsL d).length
noncomputable def wordT9 (d : DesignR) : ByteArray := letB d.f0 ++ numsT d
noncomputable def textT9 (xs : List DesignR) (k : Nat) : ByteArray := joinTo 32 (xs.map wordT9) k
noncomputable def dtextX (xs : List DesignR) : ByteArray := if progB xs = true then textT9 xs xs.length else ⟨#[]⟩
theorem dtext_no {xs : List DesignR} (h : progB xs = false) : dtextX xs = ⟨#[]⟩ := by unfold dtextX; rw [h]; rfl
theorem dtext_yes {xs : List DesignR} (h : progB xs = true) : dtextX xs = textT9 xs xs.length := by unfold dtextX; rw [if_pos h]
theorem design_parts {d : DesignR} (h : designB d = true) : (1 ≤ d.f0 ∧ d.f0 ≤ 9) ∧ (0 ≤ d.f1 ∧ d.f1 ≤ 8) ∧ (0 ≤ d.f2 ∧ d.f2 ≤ 8) ∧ (0 ≤ d.f3 ∧ d.f3 ≤ 8) := by
  unfold designB isSideB isColorB inB at h
  split at h
  · simp only [Bool.and_eq_true, decide_eq_true_eq] at h; omega
  · split at h
    · simp only [Bool.and_eq_true, decide_eq_true_eq] at h; omega
    · split at h
      · simp only [Bool.and_eq_true, decide_eq_true_eq] at h; omega
      · simp only [Bool.and_eq_true, decide_eq_true_eq] at h; omega
theorem numsL_bd {d : DesignR} (h : designB d = true) : (numsL d).length ≤ 3 ∧ ∀ x ∈ numsL d, 0 ≤ x ∧ x ≤ 8 := by
  obtain ⟨_, h1, h2, h3⟩ := design_parts h
  unfold numsL
  repeat' split
  all_goals
    refine ⟨by simp, fun x hx => ?_⟩
    simp at hx
    try (rcases hx with rfl | rfl | rfl <;> assumption)
    try (rcases hx with rfl | rfl <;> assumption)
    try (subst hx; assumption)
theorem nums_size {d : DesignR} (h : designB d = true) (k : Nat) : (joinTo 46 ((numsL d).map numB) k).size ≤ 8 * k := joinTo_size (m := 7) (fun t ht => by
  obtain ⟨x, hx, rfl⟩ := List.mem_map.1 ht
  have := (numsL_bd h).2 x hx
  exact numB_size _ (by omega) (by omega)) k
theorem letB_size (k : Int) : (letB k).size = 1 := by
  unfold letB
  repeat' split
  all_goals rfl
theorem word_size {d : DesignR} (h : designB d = true) : (wordT9 d).size ≤ 25 := by
  have h1 := nums_size h (numsL d).length
  have h2 := (numsL_bd h).1
  have h3 := letB_size d.f0
  unfold wordT9 numsT
  rw [ByteArray.size_append]
  omega
theorem text_size {xs : List DesignR} (h : progB xs = true) (k : Nat) : (textT9 xs k).size ≤ 26 * k := joinTo_size (m := 25) (fun t ht => by
  obtain ⟨d, hd, rfl⟩ := List.mem_map.1 ht
  obtain ⟨j, hj, rfl⟩ := List.getElem_of_mem hd
  exact word_size (prog_at h (List.getElem?_eq_getElem hj))) k
theorem textT9_succ {xs : List DesignR} {k : Nat} {d : DesignR} (h : xs[k]? = some d) : textT9 xs (k + 1) = (if k = 0 then textT9 xs k else textT9 xs k ++ ⟨#[32]⟩) ++ wordT9 d := joinTo_succ (by simp [h])
theorem empty_cat (t : ByteArray) : (⟨#[]⟩ : ByteArray) ++ t = t := by
  apply ByteArray.ext
  rw [ByteArray.data_append]
  simp
theorem cat_empty (t : ByteArray) : t ++ (⟨#[]⟩ : ByteArray) = t := by
  apply ByteArray.ext
  rw [ByteArray.data_append]
  simp
theorem numsT_1 (a b c : Int) : numsT ⟨1, a, b, c⟩ = numB a ++ ⟨#[46]⟩ ++ numB b ++ ⟨#[46]⟩ ++ numB c := by
  simp [numsT, numsL, joinTo, empty_cat]
theorem numsT_6 (a b c : Int) : numsT ⟨6, a, b, c⟩ = numB a := by
  simp [numsT, numsL, joinTo, empty_cat]
theorem numsT_9 (a b c : Int) : numsT ⟨9, a, b, c⟩ = numB a ++ ⟨#[46]⟩ ++ numB b := by
  simp [numsT, numsL, joinTo, empty_cat]
theorem numsT_0 {k : Int} (a b c : Int) (h1 : k ≠ 1) (h6 : k ≠ 6) (h9 : k ≠ 9) : numsT ⟨k, a, b, c⟩ = ⟨#[]⟩ := by
  simp [numsT, numsL, joinTo, h1, h6, h9]
end Go.Proofs.YtabkckjclgkecaaDoor
