/- The walk of the law FnExactShadeText. Condition: the library's table stands as its text says. -/
import Derived.Test.YtffhaimolooehaaDoorShadeText
import Derived.Test.YtffhaimolooehaaDoorShadeHelp
namespace Go.Proofs.YtffhaimolooehaaDoor.shadeText
open Go.RowKit

theorem env {W : World} (h : laidMetH Tryd.prog Rows.fnExactShadeTextRow.laid W) (_ : W.ShapedOpen Tryd.prog) : Tab W :=
  tab_of (laidMet.tail (laidMet.tail h))
set_option maxRecDepth 100000 in
set_option maxHeartbeats 2000000 in
theorem walk (w : World) (ht : Tab w) (s : ShadeR) (o : s.ok) : Calls Tryd.prog 3 #[.agg #[.int .i64 s.f0, .string s.f1, .int .i64 s.f2, .int .i64 s.f3, .int .i64 s.f4]] w fun e w' => e = .returned (.bool true) ∧ Below w.heap.size w w' := by
  have hm := o.2.1
  have HB := (Below.refl w.heap.size w).alloc (Nat.le_refl _) (.cells #[.int .i64 s.f0, .string s.f1, .int .i64 s.f2, .int .i64 s.f3, .int .i64 s.f4] 23)
  have y := Blk.new w #[.int .i64 s.f0, .string s.f1, .int .i64 s.f2, .int .i64 s.f3, .int .i64 s.f4] 23
  have HT := ht.below HB rfl
  have e0 := y.cell 0
  have e1 := y.cell 1
  have e2 := y.cell 2
  have e3 := y.cell 3
  have e4 := y.cell 4
  by_cases hs : s.f1.size ≤ 1048576
  · obtain ⟨V, hV⟩ : ∃ V, shadeV s = V := ⟨_, rfl⟩
    obtain ⟨d, hd⟩ : ∃ d, shadeB s = d := ⟨_, rfl⟩
    have hi : Hid (∀ w : World, Tab w → Calls Tryd.prog 8 #[.agg #[.int .i64 s.f0, .string s.f1, .int .i64 s.f2, .int .i64 s.f3, .int .i64 s.f4]] w (Out w (.tuple #[.string V, .bool d]))) := Lib.hid fun w ht => (by have := implShadeText_any s w hm ht; rw [hV, hd] at this; exact this)
    have hp : Hid (∀ w : World, Calls Tryd.prog 6 #[.agg #[.int .i64 s.f0, .string s.f1, .int .i64 s.f2, .int .i64 s.f3, .int .i64 s.f4]] w (Out w (.tuple #[.string V, .bool d]))) := Lib.hid fun w => (by have := specShadeText_any s w hm; rw [hV, hd] at this; exact this)
    clear hV hd
    go_enter Tryd.func3, Tryd.ntmps3
    go_wp2_with fail
    refine (szShade_yes s 1048576 _ (by omega) (by omega)).mono ?_
    rintro e w1 ⟨rfl, hb⟩
    clear e0 e1 e2 e3 e4
    replace y := y.all hb
    replace HT := HT.below hb rfl
    replace HB := HB.trans (hb.mono HB.size)
    clear hb
    have e0 := y.cell 0
    have e1 := y.cell 1
    have e2 := y.cell 2
    have e3 := y.cell 3
    have e4 := y.cell 4
    go_wp2_with fail
    refine (toShade_any s _).mono ?_
    rintro e w1 ⟨rfl, hb⟩
    clear e0 e1 e2 e3 e4
    replace y := y.all hb
    replace HT := HT.below hb rfl
    replace HB := HB.trans (hb.mono HB.size)
    clear hb
    have e0 := y.cell 0
    have e1 := y.cell 1
    have e2 := y.cell 2
    have e3 := y.cell 3
    have e4 := y.cell 4
    go_wp2_with fail
    refine (hp.out _).mono ?_
    rintro e w1 ⟨rfl, hb⟩
    clear e0 e1 e2 e3 e4
    replace y := y.all hb
    replace HT := HT.below hb rfl
    replace HB := HB.trans (hb.mono HB.size)
    clear hb
    have e0 := y.cell 0
    have e1 := y.cell 1
    have e2 := y.cell 2
    have e3 := y.cell 3
    have e4 := y.cell 4
    go_wp2_with fail
    refine (toShade_any s _).mono ?_
    rintro e w1 ⟨rfl, hb⟩
    clear e0 e1 e2 e3 e4
    replace y := y.all hb
    replace HT := HT.below hb rfl
    replace HB := HB.trans (hb.mono HB.size)
    clear hb
    have e0 := y.cell 0
    have e1 := y.cell 1
    have e2 := y.cell 2
    have e3 := y.cell 3
    have e4 := y.cell 4
    go_wp2_with fail
    refine (hi.out _ HT).mono ?_
    rintro e w1 ⟨rfl, hb⟩
    replace HB := HB.trans (hb.mono HB.size)
    go_wp2
    go_ret
    exact ⟨rfl, HB⟩
  · go_enter Tryd.func3, Tryd.ntmps3
    go_wp2_with fail
    refine (szShade_no s 1048576 _ o (by omega) (by omega) (by omega)).mono ?_
    rintro e w1 ⟨rfl, hb⟩
    replace HB := HB.trans (hb.mono HB.size)
    go_wp2
    go_ret
    exact ⟨rfl, HB⟩
end Go.Proofs.YtffhaimolooehaaDoor.shadeText
