/- The walks of the laws' own helpers over charts. Condition: at most 1048576 knots. -/
import Derived.Test.YteiaanaljimghaaHelp
namespace Go.Proofs.Yteiaanaljimghaa
open Go.RowKit

/-- A chart's value. -/
abbrev chartV (W H : Int) (v : Value) : Value := .agg #[.int .i64 W, .int .i64 H, v]
/-- What a copy of a chart leaves. -/
def ToChart (w : World) (W H : Int) (xs : List Int) (e : Ending) (w' : World) : Prop :=
  ∃ g, e = .returned (chartV W H (.slice (some ⟨g, 0, none⟩) xs.length xs.length)) ∧ Own w' w.heap.size (.slice (some ⟨g, 0, none⟩) xs.length xs.length) xs ∧ Below w.heap.size w w'

set_option maxRecDepth 100000 in
set_option maxHeartbeats 400000 in
theorem eqChart_same (W H : Int) (A A' : Option Addr) (n c n' c' B B' : Nat) (xs : List Int) (w : World) (h : Rd w B A n c xs) (h' : Rd w B' A' n' c' xs) (hB : B ≤ w.heap.size) (hB' : B' ≤ w.heap.size) :
    Calls Try.prog 38 #[chartV W H (.slice A n c), chartV W H (.slice A' n' c')] w fun e w' => e = .returned (.bool true) ∧ Below w.heap.size w w' := by
  go_enter Try.func38, Try.ntmps38
  go_wp2_with (go_at_call 68; refine (eqIntS_same A A' n c n' c' B B' xs _ ((h.alloc hB _).alloc (by simp; omega) _) ((h'.alloc hB' _).alloc (by simp; omega) _)).mono ?_; rintro e w1 ⟨rfl, q, rfl⟩)
  go_ret
  exact ⟨rfl, (((Below.refl _ _).alloc (Nat.le_refl _) _).alloc (by simp) _).trans ((low_drewN _ q).mono (by simp; omega))⟩

/-- What marking a chart leaves. -/
def MarkedChart (w : World) (lo : Nat) (v : Value) (k : Int) (n : Nat) (e : Ending) (w' : World) : Prop :=
  e = .returned (.int .i64 (k + n)) ∧ Own w' lo v (iota k n) ∧ w.grownBy w' v.ownBlock
set_option maxRecDepth 100000 in
set_option maxHeartbeats 400000 in
theorem markChart_any (W H : Int) (v : Value) (k : Int) (w : World) (lo : Nat) (xs : List Int) (h : Own w lo v xs) (hn : xs.length ≤ 1048576) (h0 : 0 ≤ k) (h1 : k ≤ 4294967296) :
    Calls Try.prog 39 #[chartV W H v, .int .i64 k] w (MarkedChart w lo v k xs.length) := by
  have h' := Lib.hid (h.all ((Below.refl _ _).alloc (Nat.le_refl _) (.cells #[.int .i64 W, .int .i64 H, v] 26)))
  clear h
  go_enter Try.func39, Try.ntmps39
  go_wp2_with (go_at_call 69; refine (markIntS_any v k _ lo xs h'.out hn h0 h1).mono ?_; rintro e w1 ⟨rfl, hown, hg⟩)
  go_ret
  exact ⟨rfl, hown, grown_trans (World.grownBy_alloc _ _ _) hg⟩
set_option maxRecDepth 100000 in
set_option maxHeartbeats 400000 in
theorem heldChart_any (W H : Int) (A : Option Addr) (n c B : Nat) (k : Int) (w : World) (h : Rd w B A n c (iota k n)) (hB : B ≤ w.heap.size) (hn : n ≤ 1048576) (h0 : 0 ≤ k) (h1 : k ≤ 4294967296) :
    Calls Try.prog 40 #[chartV W H (.slice A n c), .int .i64 k] w fun e w' => e = .returned (.int .i64 (k + n)) ∧ Below w.heap.size w w' := by
  go_enter Try.func40, Try.ntmps40
  go_wp2_with (go_at_call 70; refine (heldIntS_any A n c B k _ (h.alloc hB _) hn h0 h1).mono ?_; rintro e w1 ⟨rfl, rfl⟩)
  go_ret
  exact ⟨rfl, (Below.refl _ _).alloc (Nat.le_refl _) _⟩
end Go.Proofs.Yteiaanaljimghaa
