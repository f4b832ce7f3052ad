/- The walks of FormatInt, the program's and the model's, and of FnExactFormatInt. -/
import Derived.Test.YtcingmfeepcpjaaDoorNumT
import Derived.Test.YtcingmfeepcpjaaDoorShelf
import Derived.Lib.LaidTab
import Derived.Lib.Hide
import Derived.Stop.LaidErr
namespace Go.Proofs.YtcingmfeepcpjaaDoor
open Go.RowKit

/-- What FormatInt answers. -/
def fmtE (n : Int) : Ending := if -999999 ≤ n ∧ n ≤ 999999 then .returned (.tuple #[.string (numB n), .bool true]) else .returned (.tuple #[.string ⟨#[]⟩, .bool false])
structure Tab (w : World) : Prop where
  tab : Lib.TabIs Tryd.prog w "internal/strconv.uint64pow10" .u64 Lib.pow10Tab
  lt : 3 < w.heap.size
theorem gPow : Tryd.prog.globalNamed "internal/strconv.uint64pow10" = some 3 := by kernel_rfl
theorem Tab.below {w w' : World} (h : Tab w) {B : Nat} (hb : Below B w w') (hB : B = w.heap.size) : Tab w' :=
  ⟨var?_below hb gPow (by rw [hB]; exact h.lt) h.tab, Nat.lt_of_lt_of_le h.lt hb.size⟩
theorem below_drewN (w : World) (n : Nat) : Below w.heap.size w (w.drewN n) := ⟨rfl, rfl, rfl, Nat.le_refl _, fun _ _ => rfl⟩
theorem Tab.drewN {w : World} (h : Tab w) (n : Nat) : Tab (w.drewN n) := h.below (below_drewN w n) rfl
theorem below_grow (w : World) (k : Nat) (os : Array Obj) : Below w.heap.size w (Sort.grow (w.drewN k) os) := by
  refine ⟨rfl, rfl, rfl, by simp [Sort.grow], fun i hi => ?_⟩
  show (w.heap ++ os)[i]? = w.heap[i]?
  rw [Array.getElem?_append_left hi]

set_option maxRecDepth 100000 in
set_option maxHeartbeats 400000 in
theorem implFormat_any (n : Int) (w : World) (ht : Tab w) :
    Calls Tryd.prog 22 #[.int .i64 n] w fun e w' => e = fmtE n ∧ Below w.heap.size w w' := by
  by_cases h : -999999 ≤ n ∧ n ≤ 999999
  · have hE := Lib.hid (show fmtE n = _ from if_pos h)
    obtain ⟨h0, h1⟩ := h
    have HT := Lib.hid ht
    clear ht
    go_enter Tryd.func22, Tryd.ntmps22
    go_wp2_with (go_at_call 24; refine (Tryd.strconv_Itoa _ (by omega) (by omega) _ HT.out.tab).mono ?_; rintro e w' ⟨rfl, k, os, rfl⟩)
    go_ret2
    exact ⟨hE.out.symm, below_grow _ _ _⟩
  · have hE := Lib.hid (show fmtE n = _ from if_neg h)
    by_cases h0 : n < -999999
    · clear h
      go_enter Tryd.func22, Tryd.ntmps22
      go_wp2_with fail
      go_ret2
      exact ⟨hE.out.symm, Below.refl _ _⟩
    · have h1 : 999999 < n := by omega
      clear h
      go_enter Tryd.func22, Tryd.ntmps22
      go_wp2_with fail
      go_ret2
      exact ⟨hE.out.symm, Below.refl _ _⟩

theorem gPowType : (Tryd.prog.globals[3]?).map (·.type) = some 80 := by kernel_rfl
theorem cellsPow : Tryd.prog.cellsOf 80 = 20 := by kernel_rfl
theorem cellsU64 : Tryd.prog.cellsOf 64 = 1 := by kernel_rfl
theorem tab_lt {P : Program} {W : World} {n : String} {g : Nat} {cs : Array Value} (hg : P.globalNamed n = some g) (h : W.var? P n = some cs) : g < W.heap.size := by
  unfold World.var? at h
  simp only [hg, Option.bind_some] at h
  by_cases hl : g < W.heap.size
  · exact hl
  · rw [Array.getElem?_eq_none (by omega)] at h; cases h
/-- The table, where it stands at the head of what a row lists. -/
theorem tab_of {r : List (String × DataW Unit)} {W : World} (h : laidMet Tryd.prog (("internal/strconv.uint64pow10", Rows.laid_internal_strconv_uint64pow10) :: r) W) : Tab W :=
  have t := Lib.tabIs_of_head (zs := Lib.pow10Tab) gPow gPowType Tryd.underlying80 Tryd.underlying64 cellsU64 cellsPow h
  ⟨t, tab_lt gPow t⟩
end Go.Proofs.YtcingmfeepcpjaaDoor
