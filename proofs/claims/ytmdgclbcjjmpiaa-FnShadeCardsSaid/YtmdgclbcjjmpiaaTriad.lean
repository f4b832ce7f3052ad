/- The walk of the program's TriadsOf. No condition. -/
import Derived.Test.YtmdgclbcjjmpiaaTriadMath
import Derived.Test.YtmdgclbcjjmpiaaCard
import Derived.Test.YtmdgclbcjjmpiaaPush2
namespace Go.Proofs.Ytmdgclbcjjmpiaa
open Go.RowKit

theorem thirdB_in (wi : Int) (s t : ShadeR) : inB (gapI s.f2 t.f2) (8 - wi) (8 + wi) = thirdB wi s t := rfl
set_option maxRecDepth 100000 in
set_option maxHeartbeats 1000000 in
theorem isThird_any (s t : ShadeR) (wi : Int) (w : World) (hs : Fine s) (ht : Fine t) (hw : 0 ≤ wi ∧ wi ≤ 4) :
    Calls Try.prog 39 #[.agg #[.int .i64 s.f0, .string s.f1, .int .i64 s.f2, .int .i64 s.f3, .int .i64 s.f4], .agg #[.int .i64 t.f0, .string t.f1, .int .i64 t.f2, .int .i64 t.f3, .int .i64 t.f4], .int .i64 wi] w (Out w (.bool (thirdB wi s t))) := by
  obtain ⟨w0, w1⟩ := hw
  have hs1 : Step s.f2 := hs.1
  have ht1 : Step t.f2 := ht.1
  have e1 : IntKind.i64.wrap (8 - wi) = 8 - wi := IntWalk.i64_in _ (by omega)
  have e2 : IntKind.i64.wrap (8 + wi) = 8 + wi := IntWalk.i64_in _ (by omega)
  go_enter Try.func39, Try.ntmps39
  go_wp2_with (first | (go_at_call 46; (with_reducible refine (gapOf_any _ _ _ hs1 ht1).mono ?_); rintro e w' ⟨rfl, rfl⟩) | (go_at_call 33; (with_reducible refine (isBetween_any _ _ _ _).mono ?_); rintro e w' ⟨rfl, rfl⟩))
  go_ret
  exact ⟨ret_bool (thirdB_in wi s t), by repeat (first | assumption | exact Below.refl _ _ | refine belowN ?_ _ | refine belowD ?_ | (refine Below.setCell ?_ (by first | (simp; done) | (simp; omega) | omega) _) | (refine Below.alloc ?_ (by first | (simp; done) | (simp; omega) | omega) _))⟩
/-- A slice's rest. -/
theorem wpList_rest {ops : Array Oper} {rest : List Oper} {o : Oper} {a : Act} {w : World} {Q : Exit → Act → World → Prop} (hgd : o.guard = none) (x lo : Operand)
    (ho : o.op = .slice 24 x (some lo) none none) (A : Option Addr) (B n c q : Nat) (xs : List ShadeR) (i : Int) (hx : a.eval x = .slice A n c) (hl : a.eval lo = .int .i64 i) (hi : i = (q : Int)) (hq : q ≤ n) (hn : 0 < n) (h : RdF shadeF w B A n c xs)
    (hk : ∀ A', RdF shadeF w B A' (n - q) (c - q) (xs.drop q) → wpList Try.prog ops Q rest (a.put o.dst (.slice A' (n - q) (c - q))) w) : wpList Try.prog ops Q (o :: rest) a w := by
  subst hi
  obtain ⟨b, off, rfl, _⟩ := h.cells hn
  refine wpList_plain hgd fun K hK => ?_
  have hcap := h.cap
  have hc := h.cut hq
  have hr : (Instr.sliceAt 24 (.slice (some ⟨b, off, none⟩) n c) (some (.int .i64 q)) none none).run Try.prog w = .ok (.slice (some ⟨b, if c = q then off else off + q * 5, none⟩) (n - q) (c - q)) w := by
    rw [run_sliceAt_slice _ _ _ _ _ _ Try.underlying24, run_slice_l _ _ _ _ _ Try.underlying24 _ _ (by omega) (by omega)]
    simp [go_sem]
    split <;> rfl
  unfold Oper.wp execOp
  simp only [ho, Option.map_some, Option.map_none, hx, hl, Sem.run_bind, Sem.run_pure, hr, Result.andThen_ok]
  exact hK _ _ (hk _ hc)
end Go.Proofs.Ytmdgclbcjjmpiaa
