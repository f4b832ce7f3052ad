/- The walk of the law FnExactDesignText. No condition. -/
import Derived.Test.YtabkckjclgkecaaDoorDTextI
import Derived.Test.YtabkckjclgkecaaDoorDTextS
import Derived.Test.YtabkckjclgkecaaDoorDesignHelp
namespace Go.Proofs.YtabkckjclgkecaaDoor.designText
open Go.RowKit

theorem env {W : World} (h : laidMetH Tryd.prog Rows.fnExactDesignTextRow.laid W) (_ : W.ShapedOpen Tryd.prog) : Tab W :=
  tab_of (laidMet.tail (laidMet.tail h))

set_option maxRecDepth 100000 in
set_option maxHeartbeats 2000000 in
theorem core (w : World) (ht : Tab w) (A0 : Option Addr) (n0 c0 : Nat) (xs0 : List DesignR) (h0 : RdF designL w w.heap.size A0 n0 c0 xs0) (hs : (n0) ≤ 1048576) (r0 : ByteArray) (r1 : Bool)  (hspec : Hid (∀ (w : World) (A0 : Option Addr) (c0 : Nat), RdF designF w w.heap.size A0 xs0.length c0 xs0 → Calls Tryd.prog 5 #[.slice A0 xs0.length c0] w (Out w (.tuple #[.string r0, .bool r1])))) (himpl : Hid (∀ (w : World) (A0 : Option Addr) (c0 : Nat), RdF designF w w.heap.size A0 xs0.length c0 xs0 → Tab w → Calls Tryd.prog 7 #[.slice A0 xs0.length c0] w (Out w (.tuple #[.string r0, .bool r1])))) :
    Calls Tryd.prog 3 #[.slice A0 n0 c0] w fun e w' => e = .returned (.bool true) ∧ Below w.heap.size w w' := by
  have q0 : 0 ≤ ((n0 : Nat) : Int) := by omega
  have l0 := h0.len; subst l0
  have HB : Below w.heap.size w w := Below.refl _ _
  have R0 := h0
  clear h0
  go_enter Tryd.func3, Tryd.ntmps3
  go_wp2_with fail
  refine (szDesignS_yes A0 xs0.length c0 _ _ (by omega) (by omega)).mono ?_
  rintro e w1 ⟨rfl, hb⟩
  replace R0 := R0.below hb HB.size
  replace HB := HB.trans (hb.mono HB.size)
  clear hb
  go_wp2_with fail
  refine (toDesignS_any A0 xs0.length c0 _ xs0 _ R0 HB.size (by omega)).mono ?_
  rintro e w2 ⟨g2, rfl, own, hb⟩
  replace R0 := R0.below hb HB.size
  replace own := own.mono HB.size
  replace HB := HB.trans (hb.mono HB.size)
  clear hb
  have O2 := own; clear own
  go_wp2_with fail
  refine (hspec.out _ _ _ O2.rd).mono ?_
  rintro e w3 ⟨rfl, hb⟩
  replace R0 := R0.below hb HB.size
  replace O2 := O2.all hb
  replace HB := HB.trans (hb.mono HB.size)
  clear hb
  clear O2
  go_wp2_with fail
  refine (toDesignS_any A0 xs0.length c0 _ xs0 _ R0 HB.size (by omega)).mono ?_
  rintro e w4 ⟨g4, rfl, own, hb⟩
  replace R0 := R0.below hb HB.size
  replace own := own.mono HB.size
  replace HB := HB.trans (hb.mono HB.size)
  clear hb
  have O4 := own; clear own
  go_wp2_with fail
  refine (himpl.out _ _ _ O4.rd (ht.below HB rfl)).mono ?_
  rintro e w5 ⟨rfl, hb⟩
  replace R0 := R0.below hb HB.size
  replace O4 := O4.all hb
  replace HB := HB.trans (hb.mono HB.size)
  clear hb
  go_wp2_with fail
  refine (toDesignS_any A0 xs0.length c0 _ xs0 _ R0 HB.size (by omega)).mono ?_
  rintro e w6 ⟨g6, rfl, own, hb⟩
  replace R0 := R0.below hb HB.size
  replace O4 := O4.all hb
  replace own := own.mono HB.size
  replace HB := HB.trans (hb.mono HB.size)
  clear hb
  have O6 := own; clear own
  go_wp2_with fail
  refine (eqDesignS_same _ _ _ _ _ _ _ _ xs0 _ O4.rd O6.rd (Nat.le_refl _) (Nat.le_refl _)).mono ?_
  rintro e w7 ⟨rfl, hb⟩
  replace R0 := R0.below hb HB.size
  replace O4 := O4.all hb
  replace O6 := O6.all hb
  replace HB := HB.trans (hb.mono HB.size)
  clear hb
  clear O6
  go_wp2_with fail
  go_ret
  exact ⟨rfl, HB⟩

set_option maxRecDepth 100000 in
set_option maxHeartbeats 2000000 in
theorem big (w : World) (A0 : Option Addr) (n0 c0 : Nat) (xs0 : List DesignR) (h0 : RdF designL w w.heap.size A0 n0 c0 xs0) (hs : ¬ (n0) ≤ 1048576) : Calls Tryd.prog 3 #[.slice A0 n0 c0] w fun e w' => e = .returned (.bool true) ∧ Below w.heap.size w w' := by
  have len0 := h0.len_lt
  have l0 := h0.len; subst l0
  have q0 : 0 ≤ ((xs0.length : Nat) : Int) := by omega
  have HB : Below w.heap.size w w := Below.refl _ _
  have R0 := h0
  go_enter Tryd.func3, Tryd.ntmps3
  go_wp2_with fail
  refine (szDesignS_no A0 xs0.length c0 _ _ (by omega) (by omega) (by omega) (by omega)).mono ?_
  rintro e w1 ⟨rfl, hb⟩
  replace R0 := R0.below hb HB.size
  replace HB := HB.trans (hb.mono HB.size)
  clear hb
  go_wp2_with fail
  go_ret
  exact ⟨rfl, HB⟩
theorem walk (w : World) (ht : Tab w) (A0 : Option Addr) (n0 c0 : Nat) (xs0 : List DesignR) (h0 : RdF designL w w.heap.size A0 n0 c0 xs0) : Calls Tryd.prog 3 #[.slice A0 n0 c0] w fun e w' => e = .returned (.bool true) ∧ Below w.heap.size w w' := by
  have l0 := h0.len
  by_cases hs : (n0) ≤ 1048576
  · exact core w ht A0 n0 c0 xs0 h0 hs _ _  (Lib.hid (fun w A0 c0 h0 => specDesignText_any A0 _ c0 _ xs0 w h0 (Nat.le_refl _))) (Lib.hid (fun w A0 c0 h0 ht => implDesignText_any A0 _ c0 _ xs0 w h0 (Nat.le_refl _) ht))
  · exact big w A0 n0 c0 xs0 h0 hs
end Go.Proofs.YtabkckjclgkecaaDoor.designText
