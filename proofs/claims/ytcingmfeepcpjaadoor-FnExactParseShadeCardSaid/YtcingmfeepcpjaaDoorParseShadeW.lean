/- The walk of the law FnExactParseShade. Condition: what the library's variables hold. -/
import Derived.Test.YtcingmfeepcpjaaDoorShadeParseS
import Derived.Test.YtcingmfeepcpjaaDoorShadeHelp
namespace Go.Proofs.YtcingmfeepcpjaaDoor.parseShade
open Go.RowKit

theorem envP {W : World} (h : laidMetH Tryd.prog Rows.fnExactParseShadeRow.laid W) (_ : W.ShapedOpen Tryd.prog) : EnvP W := by
  have h3 := laidMet.tail (laidMet.tail h)
  have h4 := laidMet.tail h3
  obtain ⟨a0, s0, hv0, -, -, -⟩ := laid_sentinel h4 gER (ti := 43) (tp := 76) (te := 78) (ts := 9) (by kernel_rfl) Tryd.underlying43 rowErr Tryd.underlying76 Tryd.underlying78 rfl rfl Tryd.underlying9 (by kernel_rfl) (by kernel_rfl)
  obtain ⟨a1, s1, hv1, -, -, -⟩ := laid_sentinel (laidMet.tail h4) gES (ti := 43) (tp := 76) (te := 78) (ts := 9) (by kernel_rfl) Tryd.underlying43 rowErr Tryd.underlying76 Tryd.underlying78 rfl rfl Tryd.underlying9 (by kernel_rfl) (by kernel_rfl)
  exact ⟨tab_of h3, ⟨_, _, hv1⟩, ⟨_, _, hv0⟩⟩
theorem env {W : World} (h : laidMetH Tryd.prog Rows.fnExactParseShadeRow.laid W) (hs : W.ShapedOpen Tryd.prog) : EnvQ W := ⟨envP h hs, hs⟩
set_option maxRecDepth 100000 in
set_option maxHeartbeats 1000000 in
theorem walk (s : ByteArray) (hs0 : s.size ≤ maxLen) (w : World) (hE : EnvQ w) : Calls Tryd.prog 3 #[.string s] w fun e w' => e = .returned (.bool true) ∧ Below w.heap.size w w' := by
  unfold maxLen at hs0
  have HE := Lib.hid hE
  clear hE
  have HB := Below.refl w.heap.size w
  by_cases hs : s.size ≤ 1048576
  rotate_left
  · go_enter Tryd.func3, Tryd.ntmps3
    go_wp2_with fail
    go_ret
    exact ⟨rfl, HB⟩
  obtain ⟨x, b, hx⟩ : ∃ x b, readSh s.data.toList = (x, b) := ⟨_, _, rfl⟩
  have HI := Lib.hid (fun (w : World) (h : EnvQ w) => implParseShade_any s w hs h x b hx)
  have HS := Lib.hid (fun (w : World) => specParseShade_any s w hs x b hx)
  clear hx
  go_enter Tryd.func3, Tryd.ntmps3
  go_wp2_with fail
  refine (HS.out _).mono ?_
  rintro e w1 ⟨rfl, hb⟩
  replace HB := HB.trans (hb.mono HB.size)
  clear hb
  have y1 := Blk.new w1 #[.int .i64 x.f0, .string x.f1, .int .i64 x.f2, .int .i64 x.f3, .int .i64 x.f4] 23
  replace HB := HB.alloc HB.size (.cells #[.int .i64 x.f0, .string x.f1, .int .i64 x.f2, .int .i64 x.f3, .int .i64 x.f4] 23)
  go_wp2_with fail
  refine (HI.out _ (HE.out.below HB)).mono ?_
  rintro e w2 ⟨rfl, hb⟩
  replace y1 := y1.all hb
  replace HB := HB.trans (hb.mono HB.size)
  clear hb
  replace y1 := y1.alloc (.cells #[.int .i64 x.f0, .string x.f1, .int .i64 x.f2, .int .i64 x.f3, .int .i64 x.f4] 23)
  have y2 := Blk.new w2 #[.int .i64 x.f0, .string x.f1, .int .i64 x.f2, .int .i64 x.f3, .int .i64 x.f4] 23
  replace HB := HB.alloc HB.size (.cells #[.int .i64 x.f0, .string x.f1, .int .i64 x.f2, .int .i64 x.f3, .int .i64 x.f4] 23)
  have ey10 := y1.cell 0
  have ey11 := y1.cell 1
  have ey12 := y1.cell 2
  have ey13 := y1.cell 3
  have ey14 := y1.cell 4
  have ey20 := y2.cell 0
  have ey21 := y2.cell 1
  have ey22 := y2.cell 2
  have ey23 := y2.cell 3
  have ey24 := y2.cell 4
  go_wp2_with fail
  refine (eqShade_same x _).mono ?_
  rintro e w3 ⟨rfl, hb⟩
  (try replace HB := HB.trans (hb.mono HB.size))
  go_wp2
  go_ret
  exact ⟨rfl, by first | exact HB | (subst hb; exact HB)⟩
end Go.Proofs.YtcingmfeepcpjaaDoor.parseShade
