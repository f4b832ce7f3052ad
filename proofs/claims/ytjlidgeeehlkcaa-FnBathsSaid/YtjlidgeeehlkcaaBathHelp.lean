/- The walks of the laws' own helpers over baths, and how a bath comes in. Condition: at most 1048576 stuffs. -/
import Derived.Test.YtjlidgeeehlkcaaHelp
import Derived.Test.YtjlidgeeehlkcaaKit
import Derived.Test.YtjlidgeeehlkcaaOpen
import Derived.OpenShut
import Derived.Lib.SmallJoins
namespace Go.Proofs.Ytjlidgeeehlkcaa
open Go.RowKit Go.ChangeShapes Go.WideShapes Go.ChangeAt

/-- A bath's value. -/
abbrev bathV (L T Y : Int) (v : Value) : Value := .agg #[.int .i64 L, .int .i64 T, .int .i64 Y, v]
/-- What a copy of a bath leaves. -/
def ToBath (w : World) (L T Y : Int) (xs : List Int) (e : Ending) (w' : World) : Prop :=
  ∃ g, e = .returned (bathV L T Y (.slice (some ⟨g, 0, none⟩) xs.length xs.length)) ∧ Own w' w.heap.size (.slice (some ⟨g, 0, none⟩) xs.length xs.length) xs ∧ Below w.heap.size w w'
/-- What a function leaves that answers a bath of its own and a yes or no. -/
def OutBath (w : World) (L T Y : Int) (ys : List Int) (b : Bool) (e : Ending) (w' : World) : Prop :=
  ∃ A c, e = .returned (.tuple #[bathV L T Y (.slice A ys.length c), .bool b]) ∧ Own w' w.heap.size (.slice A ys.length c) ys ∧ Below w.heap.size w w'
theorem Blk.put4t {w : World} {p : Nat} {t : TypeId} {a b c d a' b' c' d' : Value} (h : Blk w p t #[a, b, c, d]) : Blk ((((w.setCell ⟨p, 0, none⟩ a').setCell ⟨p, 1, none⟩ b').setCell ⟨p, 2, none⟩ c').setCell ⟨p, 3, none⟩ d') p t #[a', b', c', d'] := by
  have := (((h.set_ 0 a').set_ 1 b').set_ 2 c').set_ 3 d'
  simpa using this
/-- A bath is stored to its place in the result. -/
theorem fin4 {w0 w : World} {p lo B : Nat} {v a b c d : Value} {ys : List Int} (h : Own w lo v ys) (hp : v.ownBlock ≠ some p) (hb : Below B w0 w) (hB : B ≤ p) :
    Own ((((w.setCell ⟨p, 0, none⟩ a).setCell ⟨p, 1, none⟩ b).setCell ⟨p, 2, none⟩ c).setCell ⟨p, 3, none⟩ d) lo v ys ∧ Below B w0 ((((w.setCell ⟨p, 0, none⟩ a).setCell ⟨p, 1, none⟩ b).setCell ⟨p, 2, none⟩ c).setCell ⟨p, 3, none⟩ d) :=
  ⟨(((h.far (a := ⟨p, 0, none⟩) hp a).far (a := ⟨p, 1, none⟩) hp b).far (a := ⟨p, 2, none⟩) hp c).far (a := ⟨p, 3, none⟩) hp d, (((hb.setCell (p := ⟨p, 0, none⟩) hB a).setCell (p := ⟨p, 1, none⟩) hB b).setCell (p := ⟨p, 2, none⟩) hB c).setCell (p := ⟨p, 3, none⟩) hB d⟩

/-- What marking a bath leaves. -/
def MarkedBath (w : World) (lo : Nat) (v : Value) (k : Int) (n : Nat) (e : Ending) (w' : World) : Prop :=
  e = .returned (.int .i64 (k + n)) ∧ Own w' lo v (iota k n) ∧ w.grownBy w' v.ownBlock
end Go.Proofs.Ytjlidgeeehlkcaa
