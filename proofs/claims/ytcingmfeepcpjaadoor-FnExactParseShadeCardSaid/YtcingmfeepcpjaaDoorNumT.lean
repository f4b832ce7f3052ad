/- The walks of the model's l1In and l1Num: l1In tells whether a number lies within bounds; l1Num is the decimal numeral of every number of at most six digits. -/
import Derived.Test.YtcingmfeepcpjaaDoorRows
import Derived.Test.YtcingmfeepcpjaaDoorNumMathT
import Derived.WalkKit
import Derived.WalkSpells
import Derived.WalkLawsBesides
import Derived.Lib.Hide
import Derived.Deep.QuietTactic
import Derived.BigQuiet
import Derived.IntWalk
namespace Go.Proofs.YtcingmfeepcpjaaDoor
open Go.RowKit

theorem quietSame {P : Program} {f : FuncId} {args : Array Value} {w : World} {n : Nat} {v : Value}
    (h : Calls P f args (w.drewN n) fun e w' => e = .returned v ∧ w.drewN n = w') : Calls P f args (w.drewN n) fun e w'' => e = .returned v ∧ ∃ m, w'' = w.drewN m :=
  h.mono fun _ _ ⟨he, hm⟩ => ⟨he, n, hm.symm⟩

theorem ret_str {a b : ByteArray} (h : a = b) : Ending.returned (.string a) = .returned (.string b) := by rw [h]
theorem ret_boolT {a b : Bool} (h : a = b) : Ending.returned (.bool a) = .returned (.bool b) := by rw [h]

def decB (u : Nat) : ByteArray := ⟨(Lib.decDigits u).toArray⟩
theorem decB_small (u : Nat) (h : u < 10) : (ByteArray.mk #[48, 49, 50, 51, 52, 53, 54, 55, 56, 57]).extract u (u + 1) = decB u := by
  have : u = 0 ∨ u = 1 ∨ u = 2 ∨ u = 3 ∨ u = 4 ∨ u = 5 ∨ u = 6 ∨ u = 7 ∨ u = 8 ∨ u = 9 := by omega
  unfold decB
  rcases this with rfl | rfl | rfl | rfl | rfl | rfl | rfl | rfl | rfl | rfl <;> (rw [Lib.decDigits, dif_pos (by omega)]; rfl)
theorem decB_step (u : Nat) (h : ¬ u < 10) : decB (u / 10) ++ (ByteArray.mk #[48, 49, 50, 51, 52, 53, 54, 55, 56, 57]).extract (u % 10) (u % 10 + 1) = decB u := by
  rw [decB_small (u % 10) (by omega)]
  unfold decB
  apply ByteArray.ext
  rw [ByteArray.data_append]
  apply Array.toList_inj.1
  rw [Array.toList_append]
  show Lib.decDigits (u / 10) ++ Lib.decDigits (u % 10) = Lib.decDigits u
  rw [Lib.decDigits_one (show u % 10 < 10 by omega), Lib.decDigits.eq_1 u, dif_neg h]
theorem decB_size (u : Nat) : (decB u).size = (Lib.decDigits u).length := by simp [decB, ByteArray.size]

set_option maxRecDepth 100000 in
set_option maxHeartbeats 400000 in
theorem l1In_dec (x a b : Int) (w : World) :
    Calls Tryd.prog 15 #[.int .i64 x, .int .i64 a, .int .i64 b] w fun e w' => e = .returned (.bool (decide (a ≤ x ∧ x ≤ b))) ∧ w = w' := by
  by_cases h1 : a ≤ x
  · by_cases h2 : x ≤ b
    · go_enter Tryd.func15, Tryd.ntmps15
      go_wp2
      go_ret
      exact ⟨ret_boolT (decide_eq_true (by omega)).symm, rfl⟩
    · go_enter Tryd.func15, Tryd.ntmps15
      go_wp2
      go_ret
      exact ⟨ret_boolT (decide_eq_false (by omega)).symm, rfl⟩
  · go_enter Tryd.func15, Tryd.ntmps15
    go_wp2
    go_ret
    exact ⟨ret_boolT (by rw [decide_eq_false (show ¬ a ≤ x by omega)]; rfl), rfl⟩

set_option maxRecDepth 100000 in
set_option maxHeartbeats 400000 in
theorem l1Num_pos (u : Nat) : ∀ (w : World), u < 10000000 →
    Calls Tryd.prog 16 #[.int .i64 u] w fun e w' => e = .returned (.string (decB u)) ∧ ∃ n, w' = w.drewN n := by
  induction u using Nat.strongRecOn with
  | ind u ih =>
    intro w hu
    by_cases h : u < 10
    · go_enter Tryd.func16, Tryd.ntmps16
      go_wp2_with fail
      go_ret
      refine ⟨?_, 0, rfl⟩
      have := decB_small u h
      simp_all
    · have ih' := ih (u / 10) (by omega)
      clear ih
      have hsz : (decB (u / 10)).size ≤ 7 := by
        rw [decB_size]; exact Nat.le_trans (Lib_dec_len7 (u / 10) (by omega)) (by omega)
      have hb := ih' w (by omega)
      have e1 : IntKind.i64.wrap ((u : Int) / 10) = ((u / 10 : Nat) : Int) := by rw [IntWalk.i64_in _ (by omega)]; omega
      have e2 : IntKind.i64.wrap ((u : Int).tmod 10) = ((u % 10 : Nat) : Int) := by rw [Int.tmod_eq_emod_of_nonneg (by omega), IntWalk.i64_in _ (by omega)]; omega
      have e3 : IntKind.i64.wrap (((u % 10 : Nat) : Int) + 1) = ((u % 10 + 1 : Nat) : Int) := by rw [IntWalk.i64_in _ (by omega)]; omega
      have e4 : IntKind.i64.wrap ((u : Int) % 10) = ((u % 10 : Nat) : Int) := by rw [IntWalk.i64_in _ (by omega)]; omega
      go_enter Tryd.func16, Tryd.ntmps16
      go_wp2_with fail
      go_quiet ((go_at_call 16; exact Calls.quiet_of (ih' _ (by omega))))
      clear e1 e2 e3 e4 hb
      go_wp2_with fail
      go_ret
      exact ⟨by rw [show (u : Nat) = u from rfl]; exact ret_str (decB_step u h), by first | assumption | exact ⟨_, rfl⟩ | (simp only [World.drewN_drewN]; exact ⟨_, rfl⟩)⟩

set_option maxRecDepth 100000 in
set_option maxHeartbeats 400000 in
/-- l1Num at every number of at most six digits. -/
theorem l1Num_any (n : Int) (h0 : -999999 ≤ n) (h1 : n ≤ 999999) (w : World) :
    Calls Tryd.prog 16 #[.int .i64 n] w fun e w' => e = .returned (.string (numB n)) ∧ ∃ n, w' = w.drewN n := by
  by_cases h : n < 0
  · obtain ⟨u, rfl⟩ : ∃ u : Nat, n = -(u : Int) := ⟨n.natAbs, by omega⟩
    have hsz : (decB u).size ≤ 7 := by
      rw [decB_size]; exact Nat.le_trans (Lib_dec_len7 u (by omega)) (by omega)
    go_enter Tryd.func16, Tryd.ntmps16
    go_wp2_with (go_at_call 16; refine (l1Num_pos u _ (by omega)).mono ?_; rintro e w' ⟨rfl, k, rfl⟩)
    go_ret
    exact ⟨ret_str (by unfold decB numB; rw [Lib.itoa_neg u (by omega)]; apply ByteArray.ext; apply Array.toList_inj.1; rw [ByteArray.data_append, Array.toList_append]; rfl), _, rfl⟩
  · obtain ⟨u, rfl⟩ : ∃ u : Nat, n = (u : Int) := ⟨n.natAbs, by omega⟩
    refine (l1Num_pos u w (by omega)).mono fun e w' ⟨he, hw⟩ => ⟨?_, hw⟩
    rw [he]; exact ret_str (by unfold decB numB; rw [Lib.itoa_nonneg])
end Go.Proofs.YtcingmfeepcpjaaDoor
