/- The walks of ShadeDistance and FadedShade, the program's and the model's. Condition: the strings fit. -/
import Derived.Test.YtbieejgmnhhdiaaShade
namespace Go.Proofs.Ytbieejgmnhhdiaa
open Go.RowKit

theorem shadeB_parts {s : ShadeR} (h : shadeB s = true) : (1 ≤ s.f0 ∧ s.f0 ≤ 99) ∧ wordB s.f1 = true ∧ Step s.f2 ∧ Deep s.f3 ∧ (1 ≤ s.f4 ∧ s.f4 ≤ 8) := by
  simp only [shadeB, Bool.and_eq_true] at h
  obtain ⟨⟨⟨⟨a, b⟩, c⟩, d⟩, e⟩ := h
  exact ⟨inB_yes a, b, inB_yes c, inB_yes d, inB_yes e⟩
def farB (s t : ShadeR) : Bool := shadeB s && shadeB t
def farN (s t : ShadeR) : Int := if farB s t = true then distI s.f2 s.f3 t.f2 t.f3 else 0
theorem farN_yes {s t : ShadeR} (h : shadeB s = true) (h' : shadeB t = true) : farN s t = distI s.f2 s.f3 t.f2 t.f3 ∧ farB s t = true := by simp [farN, farB, h, h']
theorem farN_no {s t : ShadeR} (h : shadeB s = false ∨ shadeB t = false) : farN s t = 0 ∧ farB s t = false := by rcases h with h | h <;> simp [farN, farB, h]
theorem ret2_ib {a a' : Int} {b b' : Bool} (h : a = a') (h' : b = b') : Ending.returned (.tuple #[.int .i64 a, .bool b]) = .returned (.tuple #[.int .i64 a', .bool b']) := by rw [h, h']
end Go.Proofs.Ytbieejgmnhhdiaa
