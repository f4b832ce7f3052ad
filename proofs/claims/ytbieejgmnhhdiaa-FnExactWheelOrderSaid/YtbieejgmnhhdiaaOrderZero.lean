/- The copy and the sort of an empty shade card. Condition: no shade. -/
import Derived.Test.YtbieejgmnhhdiaaOrderClone
import Derived.Test.YtbieejgmnhhdiaaShelf
namespace Go.Proofs.Ytbieejgmnhhdiaa
open Go.RowKit

/-- What a copy of nothing leaves. -/
def Cloned0 (w : World) (e : Ending) (w' : World) : Prop :=
  ∃ A c, e = .returned (.slice A 0 c) ∧ OwnF shadeF w' w.heap.size (.slice A 0 c) [] ∧ Below w.heap.size w w'
set_option maxRecDepth 100000 in
set_option maxHeartbeats 1000000 in
theorem clone0_any (A : Option Addr) (c B : Nat) (w : World) (h : RdF shadeF w B A 0 c []) (hB : B ≤ w.heap.size) :
    Calls Try.prog 41 #[.slice A 0 c] w (Cloned0 w) := by
  have hR := h.alloc hB (.cells #[] 47)
  have ho := OwnF.empty shadeF (w := w) (Nat.le_refl _)
  have hb : Below w.heap.size w (w.alloc (.cells #[] 47)) := (Below.refl _ _).alloc (Nat.le_refl _) _
  cases A with
  | none =>
    obtain ⟨_, rfl⟩ := h.nil rfl
    go_enter Try.func41, Try.ntmps41
    go_wp2_with fail
    rw [show Sem.run Try.prog (binOp BinOp.eql 27 (Value.slice none 0 0) (Value.slice none 0 0)) w = .ok (.bool true) w from rfl]
    go_wp2
    go_ret
    exact ⟨none, 0, rfl, OwnF.nil _ _ _, Below.refl _ _⟩
  | some a =>
    go_enter Try.func41, Try.ntmps41
    go_wp2_with fail
    rw [show Sem.run Try.prog (binOp BinOp.eql 27 (Value.slice (some a) 0 c) (Value.slice none 0 0)) w = .ok (.bool false) w from rfl]
    go_wp2
    go_ret
    exact ⟨_, 0, rfl, ho, hb⟩
theorem ins0_any (A : Option Addr) (c : Nat) (F : Value) (w : World) :
    Calls Try.prog 59 #[.slice A 0 c, .int .i64 0, .int .i64 0, F] w fun e w' => e = .returned (.tuple #[]) ∧ w = w' := by
  go_enter Try.func59, Try.ntmps59
  go_wp2
  go_loopw [8] (fun i wr => i = .int .i64 1 ∧ w = wr) (fun _ _ => 0)
  case atStart => exact ⟨rfl, rfl⟩
  case round =>
    obtain ⟨rfl, rfl⟩ := hrel
    go_wp2
    (first | go_end0 | (simp only [Exit.inBlock, Exit.then]; refine bodyPost_ret (results_none rfl _ _ _) rfl ?_) | refine bodyPost_ret (results_none rfl _ _ _) rfl ?_)
    exact ⟨rfl, rfl⟩
theorem pdq0_any (A : Option Addr) (c : Nat) (F : Value) (l : Int) (w : World) :
    Calls Try.prog 52 #[.slice A 0 c, .int .i64 0, .int .i64 0, .int .i64 l, F] w fun e w' => e = .returned (.tuple #[]) ∧ w = w' := by
  go_enter Try.func52, Try.ntmps52
  go_wp2
  go_loopw [1, 2] (fun a b wr => a = .int .i64 0 ∧ b = .int .i64 0 ∧ w = wr) (fun _ _ _ => 0)
  case atStart => exact ⟨rfl, rfl, rfl⟩
  case round =>
    obtain ⟨rfl, rfl, rfl⟩ := hrel
    go_wp2_with fail
    refine (ins0_any A c F _).mono ?_
    rintro e w' ⟨rfl, rfl⟩
    go_wp2
    (first | go_end0 | (simp only [Exit.inBlock, Exit.then]; refine bodyPost_ret (results_none rfl _ _ _) rfl ?_) | refine bodyPost_ret (results_none rfl _ _ _) rfl ?_)
    exact ⟨rfl, rfl⟩
theorem sort0_any (A : Option Addr) (c : Nat) (F : Value) (w : World) :
    Calls Try.prog 42 #[.slice A 0 c, F] w fun e w' => e = .returned (.tuple #[]) ∧ w = w' := by
  go_enter Try.func42, Try.ntmps42
  go_wp2_with fail
  refine (Try.bits_Len 0 _ (by omega) (by omega)).mono ?_
  rintro e w' ⟨rfl, rfl⟩
  go_wp2_with fail
  refine (pdq0_any A c F _ _).mono ?_
  rintro e w' ⟨rfl, rfl⟩
  go_wp2
  (first | go_end0 | (simp only [Exit.inBlock, Exit.then]; refine bodyPost_ret (results_none rfl _ _ _) rfl ?_) | refine bodyPost_ret (results_none rfl _ _ _) rfl ?_)
  exact ⟨rfl, rfl⟩
end Go.Proofs.Ytbieejgmnhhdiaa
