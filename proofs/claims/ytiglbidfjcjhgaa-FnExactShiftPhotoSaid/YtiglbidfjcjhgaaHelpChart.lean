/- The walks of the laws' own helpers over charts. Condition: at most 1048576 knots. -/
import Derived.Test.YtiglbidfjcjhgaaHelp
namespace Go.Proofs.Ytiglbidfjcjhgaa
open Go.RowKit

/-- A chart's value. -/
abbrev chartV (W H : Int) (v : Value) : Value := .agg #[.int .i64 W, .int .i64 H, v]
/-- What a copy of a chart leaves. -/
def ToChart (w : World) (W H : Int) (xs : List Int) (e : Ending) (w' : World) : Prop :=
  ∃ g, e = .returned (chartV W H (.slice (some ⟨g, 0, none⟩) xs.length xs.length)) ∧ Own w' w.heap.size (.slice (some ⟨g, 0, none⟩) xs.length xs.length) xs ∧ Below w.heap.size w w'

set_option maxRecDepth 100000 in
set_option maxHeartbeats 400000 in
theorem toChart_any (W H : Int) (A : Option Addr) (n c B : Nat) (xs : List Int) (w : World) (h : Rd w B A n c xs) (hB : B ≤ w.heap.size) (hn : n ≤ 1048576) :
    Calls Try.prog 13 #[chartV W H (.slice A n c)] w (ToChart w W H xs) := by
  go_enter Try.func13, Try.ntmps13
  go_wp2_with (go_at_call 41; refine (toIntS_any A n c B xs _ (((h.alloc hB _).alloc (by simp; omega) _).alloc (by simp; omega) _) (by simp; omega) hn).mono ?_; rintro e w1 ⟨g, rfl, hown, hb⟩; obtain ⟨hc, hf⟩ := bcell hb; have hz : w.heap.size + 3 ≤ w1.heap.size := by have := hb.size; simp at this; omega)
  have HB : Below w.heap.size w w1 := ((((Below.refl _ _).alloc (Nat.le_refl _) _).alloc (by simp) _).alloc (by simp; omega) _).trans (hb.mono (by simp; omega))
  refine bodyPost_ret (v := chartV W H (.slice (some ⟨g, 0, none⟩) xs.length xs.length)) (by simp [results, Try.results13, go_sem, hc]) rfl ⟨g, rfl, ?_, ?_⟩
  · exact ((((hown.setLow (by simp) _).setLow (by simp) _).setLow (by simp) _).setLow (by simp) _).mono (by simp; omega)
  · exact ((((HB.setCell (by simp; omega) _).setCell (by simp) _).setCell (by simp) _).setCell (by simp) _)
set_option maxRecDepth 100000 in
set_option maxHeartbeats 400000 in
theorem szChart_any (W H : Int) (A : Option Addr) (n c : Nat) (k : Int) (w : World) (hn : n ≤ 9223372036854775807) (h0 : 0 ≤ k) (h1 : k ≤ 9223372036854775807) :
    Calls Try.prog 11 #[chartV W H (.slice A n c), .int .i64 k] w fun e w' => e = .returned (.int .i64 (if (n : Int) ≤ k then k - n else -1)) ∧ Below w.heap.size w w' := by
  by_cases hk : (n : Int) ≤ k
  · go_enter Try.func11, Try.ntmps11
    go_wp2_with (go_at_call 38; refine (szIntS_any A n c k _ hn h0 h1).mono ?_; rintro e w1 ⟨rfl, rfl⟩)
    go_ret
    exact ⟨rfl, (Below.refl _ _).alloc (Nat.le_refl _) _⟩
  · go_enter Try.func11, Try.ntmps11
    go_wp2_with (go_at_call 38; refine (szIntS_any A n c k _ hn h0 h1).mono ?_; rintro e w1 ⟨rfl, rfl⟩)
    go_ret
    exact ⟨rfl, (Below.refl _ _).alloc (Nat.le_refl _) _⟩
theorem szChart_ok (W H : Int) (A : Option Addr) (n c : Nat) (w : World) (hn : n ≤ 1048576) :
    Calls Try.prog 11 #[chartV W H (.slice A n c), .int .i64 1048576] w fun e w' => e = .returned (.int .i64 (1048576 - n)) ∧ Below w.heap.size w w' :=
  (szChart_any W H A n c 1048576 w (by omega) (by omega) (by omega)).mono fun e w' ⟨he, hb⟩ => ⟨by rw [he, if_pos (by omega)], hb⟩
theorem szChart_big (W H : Int) (A : Option Addr) (n c : Nat) (w : World) (hn : ¬ n ≤ 1048576) (hn' : n ≤ 9223372036854775807) :
    Calls Try.prog 11 #[chartV W H (.slice A n c), .int .i64 1048576] w fun e w' => e = .returned (.int .i64 (-1)) ∧ Below w.heap.size w w' :=
  (szChart_any W H A n c 1048576 w hn' (by omega) (by omega)).mono fun e w' ⟨he, hb⟩ => ⟨by rw [he, if_neg (by omega)], hb⟩
set_option maxRecDepth 100000 in
set_option maxHeartbeats 400000 in
theorem eqChart_same (W H : Int) (A A' : Option Addr) (n c n' c' B B' : Nat) (xs : List Int) (w : World) (h : Rd w B A n c xs) (h' : Rd w B' A' n' c' xs) (hB : B ≤ w.heap.size) (hB' : B' ≤ w.heap.size) :
    Calls Try.prog 15 #[chartV W H (.slice A n c), chartV W H (.slice A' n' c')] w fun e w' => e = .returned (.bool true) ∧ Below w.heap.size w w' := by
  go_enter Try.func15, Try.ntmps15
  go_wp2_with (go_at_call 28; refine (eqIntS_same A A' n c n' c' B B' xs _ ((h.alloc hB _).alloc (by simp; omega) _) ((h'.alloc hB' _).alloc (by simp; omega) _)).mono ?_; rintro e w1 ⟨rfl, q, rfl⟩)
  go_ret
  exact ⟨rfl, (((Below.refl _ _).alloc (Nat.le_refl _) _).alloc (by simp) _).trans ((low_drewN _ q).mono (by simp; omega))⟩

/-- What marking a chart leaves. -/
def MarkedChart (w : World) (lo : Nat) (v : Value) (k : Int) (n : Nat) (e : Ending) (w' : World) : Prop :=
  e = .returned (.int .i64 (k + n)) ∧ Own w' lo v (iota k n) ∧ w.grownBy w' v.ownBlock
set_option maxRecDepth 100000 in
set_option maxHeartbeats 400000 in
theorem markChart_any (W H : Int) (v : Value) (k : Int) (w : World) (lo : Nat) (xs : List Int) (h : Own w lo v xs) (hn : xs.length ≤ 1048576) (h0 : 0 ≤ k) (h1 : k ≤ 4294967296) :
    Calls Try.prog 19 #[chartV W H v, .int .i64 k] w (MarkedChart w lo v k xs.length) := by
  have h' := Lib.hid (h.all ((Below.refl _ _).alloc (Nat.le_refl _) (.cells #[.int .i64 W, .int .i64 H, v] 28)))
  clear h
  go_enter Try.func19, Try.ntmps19
  go_wp2_with (go_at_call 29; refine (markIntS_any v k _ lo xs h'.out hn h0 h1).mono ?_; rintro e w1 ⟨rfl, hown, hg⟩)
  go_ret
  exact ⟨rfl, hown, grown_trans (World.grownBy_alloc _ _ _) hg⟩
set_option maxRecDepth 100000 in
set_option maxHeartbeats 400000 in
theorem heldChart_any (W H : Int) (A : Option Addr) (n c B : Nat) (k : Int) (w : World) (h : Rd w B A n c (iota k n)) (hB : B ≤ w.heap.size) (hn : n ≤ 1048576) (h0 : 0 ≤ k) (h1 : k ≤ 4294967296) :
    Calls Try.prog 35 #[chartV W H (.slice A n c), .int .i64 k] w fun e w' => e = .returned (.int .i64 (k + n)) ∧ Below w.heap.size w w' := by
  go_enter Try.func35, Try.ntmps35
  go_wp2_with (go_at_call 30; refine (heldIntS_any A n c B k _ (h.alloc hB _) hn h0 h1).mono ?_; rintro e w1 ⟨rfl, rfl⟩)
  go_ret
  exact ⟨rfl, (Below.refl _ _).alloc (Nat.le_refl _) _⟩
end Go.Proofs.Ytiglbidfjcjhgaa
