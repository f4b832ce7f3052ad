/- The walk of the law FnExactJoinStrings. No condition. -/
import Derived.Test.YtdfijojkkmpllaaJoinImpl
namespace Go.Proofs.Ytdfijojkkmpllaa.joinStrings
open Go.RowKit

theorem bulk_le {xs : List ByteArray} {x : ByteArray} (h : x ∈ xs) : x.size ≤ bulkStr xs := by
  induction xs with
  | nil => simp at h
  | cons y ys ih =>
    have e : bulkStr (y :: ys) = y.size + bulkStr ys := by simp [bulkStr]
    rcases List.mem_cons.1 h with rfl | h
    · omega
    · have := ih h; omega
set_option maxRecDepth 100000 in
set_option maxHeartbeats 4000000 in
theorem walk (w : World) (A : Option Addr) (n c : Nat) (xs : List ByteArray) (s : ByteArray) (h : RdF strF w w.heap.size A n c xs) (ms : s.size ≤ maxLen) :
    Calls Try.prog 5 #[.slice A n c, .string s] w fun e w' => e = .returned (.bool true) ∧ Below w.heap.size w w' := by
  have hlen := h.len_lt
  have hl := h.len
  have hms : s.size ≤ 9223372036854775807 := by unfold maxLen at ms; omega
  by_cases hs : s.size ≤ 1048576
  · by_cases hz : ((n + bulkStr xs : Nat) : Int) ≤ 1048576
    · have hn : n ≤ 1048576 := by omega
      have hsm : ∀ x ∈ xs, x.size ≤ 1048576 := fun x hx => by have := bulk_le hx; omega
      obtain ⟨jv, hjv⟩ : ∃ jv, joined xs s = jv := ⟨_, rfl⟩
      obtain ⟨jb, hjb⟩ : ∃ jb, joins xs s = jb := ⟨_, rfl⟩
      have hi : Hid (∀ (w : World) (A : Option Addr) (n c : Nat), RdF strF w w.heap.size A n c xs → Calls Try.prog 10 #[.slice A n c, .string s] w (Out w (.tuple #[.string jv, .bool jb]))) := Lib.hid fun w A n c h => by rw [← hjv, ← hjb]; exact implJoinStrings_any A n c _ xs s w h (Nat.le_refl _) hsm ms
      have hp : Hid (∀ (w : World) (A : Option Addr) (n c : Nat), RdF strF w w.heap.size A n c xs → Calls Try.prog 11 #[.slice A n c, .string s] w (Out w (.tuple #[.string jv, .bool jb]))) := Lib.hid fun w A n c h => by rw [← hjv, ← hjb]; exact specJoinStrings_any A n c _ xs s w h hsm ms
      have q0 : 0 ≤ ((n + bulkStr xs : Nat) : Int) := by omega
      clear hjv hjb hsm
      have HB := Below.refl w.heap.size w
      have R := h
      clear h hl
      go_enter Try.func5, Try.ntmps5
      go_wp2_with fail
      refine (szStringS_yes A n c _ xs _ _ R HB.size hz (by omega)).mono ?_
      rintro e w1 ⟨rfl, hb⟩
      replace R := R.below hb HB.size
      replace HB := HB.trans (hb.mono HB.size)
      clear hb
      go_wp2_with fail
      refine (toStringS_any A n c _ xs _ R HB.size hn).mono ?_
      rintro e w2 ⟨g1, rfl, own, hb⟩
      replace R := R.below hb HB.size
      replace HB := HB.trans (hb.mono HB.size)
      clear hb
      go_wp2_with fail
      refine (hp.out _ _ _ _ own.rd).mono ?_
      rintro e w3 ⟨rfl, hb⟩
      replace R := R.below hb HB.size
      replace HB := HB.trans (hb.mono HB.size)
      clear hb own
      go_wp2_with fail
      refine (toStringS_any A n c _ xs _ R HB.size hn).mono ?_
      rintro e w4 ⟨g2, rfl, own, hb⟩
      replace R := R.below hb HB.size
      replace HB := HB.trans (hb.mono HB.size)
      clear hb
      go_wp2_with fail
      refine (hi.out _ _ _ _ own.rd).mono ?_
      rintro e w5 ⟨rfl, hb⟩
      replace R := R.below hb HB.size
      replace own := own.all hb
      replace HB := HB.trans (hb.mono HB.size)
      clear hb
      go_wp2_with fail
      refine (toStringS_any A n c _ xs _ R HB.size hn).mono ?_
      rintro e w6 ⟨g3, rfl, own2, hb⟩
      replace own := own.all hb
      replace HB := HB.trans (hb.mono HB.size)
      clear hb
      go_wp2_with fail
      refine (eqStringS_same _ _ _ _ _ _ _ _ xs _ own.rd own2.rd).mono ?_
      rintro e w7 ⟨rfl, hb⟩
      replace HB := HB.trans (hb.mono HB.size)
      go_wp2
      go_ret
      exact ⟨rfl, HB⟩
    · go_enter Try.func5, Try.ntmps5
      go_wp2_with fail
      refine (szStringS_no A n c _ xs 1048576 _ h (Nat.le_refl _) (by omega) (by omega) (by omega)).mono ?_
      rintro e w1 ⟨rfl, hb⟩
      go_wp2
      go_ret
      exact ⟨rfl, hb⟩
  · go_enter Try.func5, Try.ntmps5
    go_wp2
    go_ret
    exact ⟨rfl, Below.refl _ _⟩
end Go.Proofs.Ytdfijojkkmpllaa.joinStrings
