/- The draws of the law FnSheets out of a code. Condition: a code of at most 65536 bytes. -/
import Derived.Test.YtnpojmaipndpmaaDraws14b
namespace Go.Proofs.Ytnpojmaipndpmaa
open Go.RowKit

/-- What a draw of sheets out of a code leaves. -/
def GaveSheets (w : World) (e : Ending) (w' : World) : Prop := ∃ (A : Option Addr) (c : Nat) (xs : List WorkSheetR), e = .returned (.slice A xs.length c) ∧ xs.length ≤ 14 ∧ OwnF workSheetF w' w.heap.size (.slice A xs.length c) xs ∧ Below w.heap.size w w'
/-- .. and a number. -/
def GaveSheets1 (w : World) (e : Ending) (w' : World) : Prop := ∃ (A : Option Addr) (c : Nat) (xs : List WorkSheetR) (v : Int), e = .returned (.tuple #[.slice A xs.length c, .int .i64 v]) ∧ xs.length ≤ 14 ∧ I64 v ∧ OwnF workSheetF w' w.heap.size (.slice A xs.length c) xs ∧ Below w.heap.size w w'
set_option maxRecDepth 100000 in
set_option maxHeartbeats 4000000 in
theorem drawAreSheets_any (A : Option Addr) (n c B : Nat) (w : World) (h : RdB w B A n c) (hB : B ≤ w.heap.size) (hn : n ≤ 65536) : Calls Try.prog 17 #[.slice A n c] w (GaveSheets w) := by
  go_enter Try.func17, Try.ntmps17
  have hc0 := cur_new5 h hB hn
  have HB : Below w.heap.size w (w.alloc (.cells #[.slice A n c, .int .i64 0, .int .u64 0] 50)) := (Below.refl _ _).alloc (Nat.le_refl _) _
  have hlo : w.heap.size < (w.alloc (.cells #[.slice A n c, .int .i64 0, .int .u64 0] 50)).heap.size := by simp
  clear h
  go_wp2_with fail
  refine (workSheets_any w.heap.size 0 _ hc0 (by omega)).mono ?_
  rintro e w1 ⟨A1, c1, xs, rfl, hxl, ho, hc1, hg1⟩
  have hbd := fun z hz => (ho.bd z hz).1
  replace HB := HB.trans (grown_below hg1 (Nat.le_refl _) HB.size)
  go_wp2
  go_ret
  exact ⟨A1, c1, xs, rfl, hxl, ho.mono (Nat.le_of_lt hlo), HB⟩
set_option maxRecDepth 100000 in
set_option maxHeartbeats 400000 in
theorem drawCarefulWeavers_any (A : Option Addr) (n c B : Nat) (w : World) (h : RdB w B A n c) (hB : B ≤ w.heap.size) (hn : n ≤ 65536) : Calls Try.prog 5 #[.slice A n c] w (GaveSheets w) := by
  go_enter Try.func5, Try.ntmps5
  go_wp2_with fail
  refine (drawAreSheets_any A n c B w h hB hn).mono ?_
  rintro e w1 ⟨A1, c1, xs, rfl, hxl, ho, hb⟩
  go_wp2
  go_ret
  exact ⟨A1, c1, xs, rfl, hxl, ho, hb⟩
set_option maxRecDepth 100000 in
set_option maxHeartbeats 400000 in
theorem drawMissedBonus_any (A : Option Addr) (n c B : Nat) (w : World) (h : RdB w B A n c) (hB : B ≤ w.heap.size) (hn : n ≤ 65536) : Calls Try.prog 14 #[.slice A n c] w (GaveSheets w) := by
  go_enter Try.func14, Try.ntmps14
  go_wp2_with fail
  refine (drawAreSheets_any A n c B w h hB hn).mono ?_
  rintro e w1 ⟨A1, c1, xs, rfl, hxl, ho, hb⟩
  go_wp2
  go_ret
  exact ⟨A1, c1, xs, rfl, hxl, ho, hb⟩
set_option maxRecDepth 100000 in
set_option maxHeartbeats 4000000 in
theorem drawBestDayOf_any (A : Option Addr) (n c B : Nat) (w : World) (h : RdB w B A n c) (hB : B ≤ w.heap.size) (hn : n ≤ 65536) : Calls Try.prog 11 #[.slice A n c] w (GaveSheets1 w) := by
  go_enter Try.func11, Try.ntmps11
  have hc0 := cur_new5 h hB hn
  have HB : Below w.heap.size w (w.alloc (.cells #[.slice A n c, .int .i64 0, .int .u64 0] 50)) := (Below.refl _ _).alloc (Nat.le_refl _) _
  have hlo : w.heap.size < (w.alloc (.cells #[.slice A n c, .int .i64 0, .int .u64 0] 50)).heap.size := by simp
  clear h
  go_wp2_with fail
  refine (workSheets_any w.heap.size 0 _ hc0 (by omega)).mono ?_
  rintro e w1 ⟨A1, c1, xs, rfl, hxl, ho, hc1, hg1⟩
  have hbd := fun z hz => (ho.bd z hz).1
  replace HB := HB.trans (grown_below hg1 (Nat.le_refl _) HB.size)
  have hz1 := HB.size
  clear hg1 hc0
  go_wp2_with fail
  refine (among5 w.heap.size 10000 w1.heap.size 6 [1, 1, 2, 3, 50, 0] w1 rfl rfl hc1 (by omega) (by decide) (by decide) (i64_lit (by decide))).mono ?_
  rintro e w2 ⟨v, rfl, hv, hc2, hg2⟩
  have Iv := i64_lit (l := [1, 1, 2, 3, 50, 0]) (by decide) v hv
  have ho2 := ho.mark hg2 (fun z z' hz hz' => by cases hz; have := hbd z' hz'; omega)
  have HB2 := HB.trans (grown_below hg2 (Nat.le_refl _) HB.size)
  clear hv ho hc1 hg2 HB hc2
  go_wp2
  go_ret2
  exact ⟨A1, c1, xs, v, rfl, hxl, Iv, ho2.mono (Nat.le_of_lt hlo), HB2⟩
end Go.Proofs.Ytnpojmaipndpmaa
