/- The struct DyePart as data: its record, how it lies in cells. No condition. -/
import Derived.Test.YtjlidgeeehlkcaaSeq
namespace Go.Proofs.Ytjlidgeeehlkcaa
open Go.RowKit

structure DyePartR where
  f0 : ByteArray
  f1 : Int
def DyePartR.ok (s : DyePartR) : Prop := s.f0.size ≤ maxLen ∧ I64 s.f1
def DyePartR.zero : DyePartR := ⟨⟨#[]⟩, 0⟩
def dyePartF : Flat DyePartR := { t := 43, k := 2, enc := fun s => [.string s.f0, .int .i64 s.f1], ok := DyePartR.ok, len := fun _ => rfl, one := fun s v h => by simp only [List.mem_cons, List.not_mem_nil, or_false] at h; rcases h with rfl | rfl <;> rfl }
theorem DyePartR_at {F : Flat DyePartR} {w : World} {B n c j : Nat} {A : Option Addr} {xs : List DyePartR} (hF : F.k = 2) (hE : ∀ s, F.enc s = [.string s.f0, .int .i64 s.f1]) (hO : ∀ s, F.ok s = s.ok) (h : RdF F w B A n c xs) (hj : j < n) :
    ∃ b off s, A = some ⟨b, off, none⟩ ∧ b < B ∧ s.ok ∧ Hid (xs[j]? = some s) ∧ w.cell? ⟨b, off + j * 2, none⟩ = some (.string s.f0) ∧ w.cell? ⟨b, off + j * 2 + 1, none⟩ = some (.int .i64 s.f1) := by
  obtain ⟨b, off, s, e, hb, ho, hx, hc⟩ := h.at hj
  rw [hF] at hc
  have hc' := hc
  unfold Hid at hc'
  rw [hE] at hc'
  exact ⟨b, off, s, e, hb, by rw [← hO]; exact ho, hx, hc' 0 _ rfl, hc' 1 _ rfl⟩
end Go.Proofs.Ytjlidgeeehlkcaa
