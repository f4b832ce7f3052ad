/- The struct Shade as data: its record, how it lies in cells. No condition. -/
import Derived.Test.YtcingmfeepcpjaaDoorSeq
namespace Go.Proofs.YtcingmfeepcpjaaDoor
open Go.RowKit

structure ShadeR where
  f0 : Int
  f1 : ByteArray
  f2 : Int
  f3 : Int
  f4 : Int
def ShadeR.ok (s : ShadeR) : Prop := I64 s.f0 ∧ s.f1.size ≤ maxLen ∧ I64 s.f2 ∧ I64 s.f3 ∧ I64 s.f4
def ShadeR.zero : ShadeR := ⟨0, ⟨#[]⟩, 0, 0, 0⟩
def shadeF : Flat ShadeR := { t := 23, k := 5, enc := fun s => [.int .i64 s.f0, .string s.f1, .int .i64 s.f2, .int .i64 s.f3, .int .i64 s.f4], ok := ShadeR.ok, len := fun _ => rfl, one := fun s v h => by simp only [List.mem_cons, List.not_mem_nil, or_false] at h; rcases h with rfl | rfl | rfl | rfl | rfl <;> rfl }
theorem ShadeR_at {F : Flat ShadeR} {w : World} {B n c j : Nat} {A : Option Addr} {xs : List ShadeR} (hF : F.k = 5) (hE : ∀ s, F.enc s = [.int .i64 s.f0, .string s.f1, .int .i64 s.f2, .int .i64 s.f3, .int .i64 s.f4]) (hO : ∀ s, F.ok s = s.ok) (h : RdF F w B A n c xs) (hj : j < n) :
    ∃ b off s, A = some ⟨b, off, none⟩ ∧ b < B ∧ s.ok ∧ Hid (xs[j]? = some s) ∧ w.cell? ⟨b, off + j * 5, none⟩ = some (.int .i64 s.f0) ∧ w.cell? ⟨b, off + j * 5 + 1, none⟩ = some (.string s.f1) ∧ w.cell? ⟨b, off + j * 5 + 2, none⟩ = some (.int .i64 s.f2) ∧ w.cell? ⟨b, off + j * 5 + 3, none⟩ = some (.int .i64 s.f3) ∧ w.cell? ⟨b, off + j * 5 + 4, none⟩ = some (.int .i64 s.f4) := by
  obtain ⟨b, off, s, e, hb, ho, hx, hc⟩ := h.at hj
  rw [hF] at hc
  have hc' := hc
  unfold Hid at hc'
  rw [hE] at hc'
  exact ⟨b, off, s, e, hb, by rw [← hO]; exact ho, hx, hc' 0 _ rfl, hc' 1 _ rfl, hc' 2 _ rfl, hc' 3 _ rfl, hc' 4 _ rfl⟩
end Go.Proofs.YtcingmfeepcpjaaDoor
