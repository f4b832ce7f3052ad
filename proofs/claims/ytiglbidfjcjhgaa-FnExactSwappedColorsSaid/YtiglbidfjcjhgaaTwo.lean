/- Words for laws over two charts: the second one's size. No condition. -/
import Derived.Test.YtiglbidfjcjhgaaHelpChart
namespace Go.Proofs.Ytiglbidfjcjhgaa
open Go.RowKit

theorem szChart_rest (W H : Int) (A : Option Addr) (n c : Nat) (k : Int) (w : World) (hn : (n : Int) ≤ k) (hk : k ≤ 9223372036854775807) :
    Calls Try.prog 11 #[chartV W H (.slice A n c), .int .i64 k] w fun e w' => e = .returned (.int .i64 (k - n)) ∧ Below w.heap.size w w' :=
  (szChart_any W H A n c k w (by omega) (by omega) hk).mono fun e w' ⟨he, hb⟩ => ⟨by rw [he, if_pos hn], hb⟩
theorem szChart_over (W H : Int) (A : Option Addr) (n c : Nat) (k : Int) (w : World) (hn : ¬ (n : Int) ≤ k) (h0 : 0 ≤ k) (hk : k ≤ 9223372036854775807) (hlt : n ≤ 9223372036854775807) :
    Calls Try.prog 11 #[chartV W H (.slice A n c), .int .i64 k] w fun e w' => e = .returned (.int .i64 (-1)) ∧ Below w.heap.size w w' :=
  (szChart_any W H A n c k w hlt h0 hk).mono fun e w' ⟨he, hb⟩ => ⟨by rw [he, if_neg hn], hb⟩
section
variable {w w' : World} {p q B lo : Nat} {t : TypeId} {a b c a' b' c' v : Value} {cs : Array Value} {xs : List Int}
theorem Blk.put3t (h : Blk w p t #[a, b, c]) : Blk (((w.setCell ⟨p, 0, none⟩ a').setCell ⟨p, 1, none⟩ b').setCell ⟨p, 2, none⟩ c') p t #[a', b', c'] := by
  have := ((h.set_ 0 a').set_ 1 b').set_ 2 c'
  simpa using this
end
end Go.Proofs.Ytiglbidfjcjhgaa
