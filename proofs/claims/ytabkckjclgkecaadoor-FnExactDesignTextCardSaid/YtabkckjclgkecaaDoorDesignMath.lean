/- Designs as data: valid ones. No condition. -/
import Derived.Test.YtabkckjclgkecaaDoorDesignData
import Derived.Test.YtabkckjclgkecaaDoorChartMath
import Derived.Test.YtabkckjclgkecaaDoorBase
namespace Go.Proofs.YtabkckjclgkecaaDoor
open Go.RowKit

def designB (s : DesignR) : Bool :=
  if s.f0 = 1 then isSideB s.f1 && isSideB s.f2 && isColorB s.f3
  else if s.f0 = 6 then isColorB s.f1 && decide (s.f2 = 0) && decide (s.f3 = 0)
  else if s.f0 = 9 then isSideB s.f1 && isSideB s.f2 && decide (s.f3 = 0)
  else inB s.f0 1 9 && decide (s.f1 = 0) && decide (s.f2 = 0) && decide (s.f3 = 0)
def progB (xs : List DesignR) : Bool := decide (xs.length ≤ 20) && xs.all designB
theorem progB_long {xs : List DesignR} (h : ¬ xs.length ≤ 20) : progB xs = false := by simp [progB]; omega
theorem progB_bad {xs : List DesignR} {k : Nat} {a : DesignR} (ha : xs[k]? = some a) (hs : designB a = false) : progB xs = false := by
  have : xs.all designB = false := by
    rw [List.all_eq_false]
    exact ⟨a, List.mem_of_getElem? ha, by simp [hs]⟩
  simp [progB, this]
theorem progTo_step {xs : List DesignR} {k : Nat} {a : DesignR} (h : (xs.take k).all designB = true) (ha : xs[k]? = some a) (hs : designB a = true) : (xs.take (k + 1)).all designB = true := by
  obtain ⟨hk, rfl⟩ := List.getElem?_eq_some_iff.1 ha
  rw [List.take_succ_eq_append_getElem hk, List.all_append, h]
  simp [hs]
theorem progB_end {xs : List DesignR} {k : Nat} (h : (xs.take k).all designB = true) (hk : xs.length ≤ k) : progB xs = decide (xs.length ≤ 20) := by
  rw [List.take_of_length_le hk] at h
  simp [progB, h]
theorem prog_at {xs : List DesignR} (h : progB xs = true) {k : Nat} {a : DesignR} (ha : xs[k]? = some a) : designB a = true := by
  simp only [progB, Bool.and_eq_true, List.all_eq_true] at h
  exact h.2 a (List.mem_of_getElem? ha)
theorem prog_len {xs : List DesignR} (h : progB xs = true) : xs.length ≤ 20 := by
  simp only [progB, Bool.and_eq_true, decide_eq_true_eq] at h
  exact h.1
end Go.Proofs.YtabkckjclgkecaaDoor
