/- The library's table of powers as a fact that calls keep. -/
import Derived.Test.YtabkckjclgkecaaDoorNumS
import Derived.Test.YtabkckjclgkecaaDoorShelf
import Derived.Lib.LaidTab
import Derived.Lib.Hide
import Derived.Stop.LaidErr
namespace Go.Proofs.YtabkckjclgkecaaDoor
open Go.RowKit

structure Tab (w : World) : Prop where
  tab : Lib.TabIs Tryd.prog w "internal/strconv.uint64pow10" .u64 Lib.pow10Tab
  lt : 1 < w.heap.size
theorem gPow : Tryd.prog.globalNamed "internal/strconv.uint64pow10" = some 1 := by kernel_rfl
theorem Tab.below {w w' : World} (h : Tab w) {B : Nat} (hb : Below B w w') (hB : B = w.heap.size) : Tab w' :=
  ⟨var?_below hb gPow (by rw [hB]; exact h.lt) h.tab, Nat.lt_of_lt_of_le h.lt hb.size⟩
theorem below_drewN (w : World) (n : Nat) : Below w.heap.size w (w.drewN n) := ⟨rfl, rfl, rfl, Nat.le_refl _, fun _ _ => rfl⟩
theorem Tab.drewN {w : World} (h : Tab w) (n : Nat) : Tab (w.drewN n) := h.below (below_drewN w n) rfl
theorem below_grow (w : World) (k : Nat) (os : Array Obj) : Below w.heap.size w (Sort.grow (w.drewN k) os) := by
  refine ⟨rfl, rfl, rfl, by simp [Sort.grow], fun i hi => ?_⟩
  show (w.heap ++ os)[i]? = w.heap[i]?
  rw [Array.getElem?_append_left hi]

theorem gPowType : (Tryd.prog.globals[1]?).map (·.type) = some 69 := by kernel_rfl
theorem cellsPow : Tryd.prog.cellsOf 69 = 20 := by kernel_rfl
theorem cellsU64 : Tryd.prog.cellsOf 62 = 1 := by kernel_rfl
theorem tab_lt {P : Program} {W : World} {n : String} {g : Nat} {cs : Array Value} (hg : P.globalNamed n = some g) (h : W.var? P n = some cs) : g < W.heap.size := by
  unfold World.var? at h
  simp only [hg, Option.bind_some] at h
  by_cases hl : g < W.heap.size
  · exact hl
  · rw [Array.getElem?_eq_none (by omega)] at h; cases h
/-- The table, where it stands at the head of what a row lists. -/
theorem tab_of {r : List (String × DataW Unit)} {W : World} (h : laidMet Tryd.prog (("internal/strconv.uint64pow10", Rows.laid_internal_strconv_uint64pow10) :: r) W) : Tab W :=
  have t := Lib.tabIs_of_head (zs := Lib.pow10Tab) gPow gPowType Tryd.underlying69 Tryd.underlying62 cellsU64 cellsPow h
  ⟨t, tab_lt gPow t⟩
end Go.Proofs.YtabkckjclgkecaaDoor
