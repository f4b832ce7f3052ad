/- Two places as values, compared. No condition. -/
import Derived.Test.YtgkflgfjbaobcaaPlaceMath
import Derived.ChangeKeysEq
namespace Go.Proofs.Ytgkflgfjbaobcaa
open Go.RowKit
theorem pairEq (a b c d : Int) (w : World) : Sem.run Try.prog (Op.equalIn 10000 53 (Value.agg #[.int .i64 a, .int .i64 b]) (Value.agg #[.int .i64 c, .int .i64 d])) w = .ok (a == c && b == d) w := by
  obtain ⟨i0, hi, hz0, hz1, hz2⟩ := info_parts info_int
  have hc : Try.prog.cellsOf 3 = 1 := by kernel_rfl
  have hk : Try.prog.plainKey 3 = true := by kernel_rfl
  have hu := Try.underlying3
  rw [show (10000 : Nat) = 9999 + 1 from rfl, run_equalIn_array w 9999 _ _ Try.underlying53 hi, hc]
  have p0 : ∀ (x y : Int) (w : World), (part 3 #[.int .i64 x, .int .i64 y] 0).run Try.prog w = .ok (.int .i64 x) w := fun x y w => run_part_plain w hk rfl
  have p1 : ∀ (x y : Int) (w : World), (part 3 #[.int .i64 x, .int .i64 y] 1).run Try.prog w = .ok (.int .i64 y) w := fun x y w => run_part_plain w hk rfl
  have q : ∀ (x y : Int) (w : World), (Op.equalIn 9999 3 (.int .i64 x) (.int .i64 y)).run Try.prog w = .ok (x == y) w := fun x y w => run_equalIn_int w 9998 _ _ _ x y hu
  rw [show List.range 2 = [0, 1] from rfl]
  simp only [Op.eqItems, Sem.run_bind, p0, q, Result.andThen_ok, Nat.zero_mul, Nat.one_mul]
  cases h1 : (a == c) <;> cases h2 : (b == d) <;> simp [p1, q, h2]
end Go.Proofs.Ytgkflgfjbaobcaa
