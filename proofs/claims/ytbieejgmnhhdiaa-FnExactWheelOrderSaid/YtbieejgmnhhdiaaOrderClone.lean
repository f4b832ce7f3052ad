/- The copy of a shade card that the sort is handed. Condition: few shades, not none. -/
import Derived.Test.YtbieejgmnhhdiaaAppF
import Derived.Test.YtbieejgmnhhdiaaShadeHelp
namespace Go.Proofs.Ytbieejgmnhhdiaa
open Go.RowKit

/-- What a copy leaves whose room is not told. -/
def ClonedS (w : World) (xs : List ShadeR) (e : Ending) (w' : World) : Prop :=
  ∃ g c, e = .returned (.slice (some ⟨g, 0, none⟩) xs.length c) ∧ OwnF shadeF w' w.heap.size (.slice (some ⟨g, 0, none⟩) xs.length c) xs ∧ Below w.heap.size w w'
set_option maxRecDepth 100000 in
set_option maxHeartbeats 1000000 in
theorem cloneShades_any (b off n c B : Nat) (xs : List ShadeR) (w : World) (h : RdF shadeF w B (some ⟨b, off, none⟩) n c xs) (hB : B ≤ w.heap.size) (hn0 : 0 < n) (hn : n ≤ 1000) :
    Calls Try.prog 41 #[.slice (some ⟨b, off, none⟩) n c] w (ClonedS w xs) := by
  obtain rfl := h.len
  have hR := h.alloc hB (.cells #[] 47)
  have ho := OwnF.empty shadeF (w := w) (Nat.le_refl _)
  have hb : Below w.heap.size w (w.alloc (.cells #[] 47)) := (Below.refl _ _).alloc (Nat.le_refl _) _
  go_enter Try.func41, Try.ntmps41
  go_wp2_with fail
  rw [show Sem.run Try.prog (binOp BinOp.eql 27 (Value.slice (some ⟨b, off, none⟩) xs.length c) (Value.slice none 0 0)) w = .ok (.bool false) w from rfl]
  go_wp2_with (refine wpList_appendF shadeF rfl _ (.tmp 5) (.tmp 6) 27 (.agg #[.int .i64 0, .string ⟨#[]⟩, .int .i64 0, .int .i64 0, .int .i64 0]) 48 rfl Try.underlying27 info_Shade rfl (by decide) (by decide) w.heap.size _ [] xs b off xs.length c B rfl rfl ho hR (by simp; omega) (by simp) ?_)
  intro A1 c1 w1 ho1 hg1
  (try simp only [List.length_nil, Nat.zero_add, List.nil_append] at ho1 ⊢)
  have hb1 := hb.grown hg1 (by simp) (fun k hk => (ho.bd k hk).1)
  obtain ⟨g, rfl, _, _⟩ := ho1.some_ hn0
  go_wp2
  go_ret
  exact ⟨g, c1, rfl, ho1, hb1⟩
end Go.Proofs.Ytbieejgmnhhdiaa
