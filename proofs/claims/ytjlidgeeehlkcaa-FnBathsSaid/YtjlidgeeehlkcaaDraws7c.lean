/- The draws of chapter 7's law on baths. Condition: a code of at most 65536 bytes. -/
import Derived.Test.YtjlidgeeehlkcaaDraws7b
namespace Go.Proofs.Ytjlidgeeehlkcaa
open Go.RowKit

set_option maxRecDepth 100000 in
set_option maxHeartbeats 2000000 in
theorem yarn7_any (p k : Nat) (w : World) (h : Cur w p k) (hk : k + 4 ≤ 4294967296) : Calls Try.prog 39 #[.pointer (some ⟨p, 0, none⟩)] w (Drew w p (k + 4) I64) := by
  have hpw := h.lt
  have hal := (Below.refl w.heap.size w).alloc (Nat.le_refl _) (.cells #[.int .i64 0, .int .i64 1, .int .i64 999, .int .i64 1000, .int .i64 3500, .int .i64 50000, .int .i64 (-1), .int .i64 50001] 3)
  have hL := Blk.new w #[.int .i64 0, .int .i64 1, .int .i64 999, .int .i64 1000, .int .i64 3500, .int .i64 50000, .int .i64 (-1), .int .i64 50001] 3
  have hc0 := h.all hal
  have HG := below_grown (row := some p) hal
  clear h hal
  go_enter Try.func39, Try.ntmps39
  go_wp2_with fail
  refine (pick_any p k 24 _ hc0 (by omega) (by omega) (by omega)).mono ?_
  rintro e w1 ⟨x, rfl, ⟨x0, x1⟩, hc1, hg1⟩
  replace hL := hL.mark hg1 (fun z hz => by cases hz; omega)
  replace HG := grown_trans HG hg1
  obtain ⟨m, hm⟩ : ∃ m : Nat, x / 11 = (m : Int) := ⟨(x / 11).toNat, by omega⟩
  have ht : Int.tdiv x 11 = (m : Int) := by rw [Int.tdiv_eq_ediv_of_nonneg x0, hm]
  have hmb : m ≤ 2 := by omega
  have he : IntKind.i64.wrap (6 + (m : Int)) = ((6 + m : Nat) : Int) := by rw [IntWalk.i64_in _ (by omega)]; omega
  clear hm hc0 hg1
  go_wp2_with fail
  refine (among_head p (k + 2) w.heap.size 8 _ _ [0, 1, 999, 1000, 3500, 50000, -1, 50001] _ hc1 (by omega) (rd5 (xs := [0, 1, 999, 1000, 3500, 50000, -1, 50001]) hL (i64_lit (by decide)) (by decide)) (by omega) (by omega) (by omega) (by omega)).mono ?_
  rintro e w2 ⟨y, rfl, hy, hc2, hg2⟩
  replace hy := i64_lit (l := [0, 1, 999, 1000, 3500, 50000, -1, 50001]) (by decide) y hy
  replace HG := grown_trans HG hg2
  clear hc1 hg2 hL ht he
  go_wp2
  go_ret
  exact ⟨y, rfl, hy, hc2, HG⟩
theorem cur_new7 {w : World} {B n c : Nat} {A : Option Addr} (h : RdB w B A n c) (hB : B ≤ w.heap.size) (hn : n ≤ 65536) : Cur ((w.alloc (.cells #[.int .i64 0, .int .i64 0, .int .i64 0, .slice none 0 0] 27)).alloc (.cells #[.slice A n c, .int .i64 0, .int .u64 0] 56)) (w.heap.size + 1) 0 := by
  have := cur_new5 (h.alloc hB (.cells #[.int .i64 0, .int .i64 0, .int .i64 0, .slice none 0 0] 27)) (show B ≤ (w.alloc (.cells #[.int .i64 0, .int .i64 0, .int .i64 0, .slice none 0 0] 27)).heap.size by simp; omega) hn
  rwa [show (w.alloc (.cells #[.int .i64 0, .int .i64 0, .int .i64 0, .slice none 0 0] 27)).heap.size = w.heap.size + 1 by simp] at this
/-- What a draw of a recipe and a bath leaves. -/
def GaveBath (w : World) (e : Ending) (w' : World) : Prop := ∃ (A : Option Addr) (c : Nat) (xs : List DyePartR) (L T Y : Int) (A' : Option Addr) (c' : Nat) (ys : List Int), e = .returned (.tuple #[.slice A xs.length c, bathV L T Y (.slice A' ys.length c')]) ∧ (xs.length ≤ 8 ∧ ys.length ≤ 9 ∧ I64 L ∧ I64 T ∧ I64 Y) ∧ OwnF dyePartF w' w.heap.size (.slice A xs.length c) xs ∧ Own w' w.heap.size (.slice A' ys.length c') ys ∧ Below w.heap.size w w'
/-- .. and a stuff and grams. -/
def GaveAdd (w : World) (e : Ending) (w' : World) : Prop := ∃ (A : Option Addr) (c : Nat) (xs : List DyePartR) (L T Y : Int) (A' : Option Addr) (c' : Nat) (ys : List Int) (s : ByteArray) (v : Int), e = .returned (.tuple #[.slice A xs.length c, bathV L T Y (.slice A' ys.length c'), .string s, .int .i64 v]) ∧ (xs.length ≤ 8 ∧ ys.length ≤ 9 ∧ I64 L ∧ I64 T ∧ I64 Y ∧ s.size ≤ maxLen ∧ I64 v) ∧ OwnF dyePartF w' w.heap.size (.slice A xs.length c) xs ∧ Own w' w.heap.size (.slice A' ys.length c') ys ∧ Below w.heap.size w w'
theorem finB {w w' : World} {lo1 lo2 R : Nat} {v1 v2 a b c d : Value} {xs : List DyePartR} {ys : List Int} (h1 : OwnF dyePartF w' lo1 v1 xs) (h2 : Own w' lo2 v2 ys) (hb : Below w.heap.size w w') (hR : w.heap.size ≤ R) (h3 : R < lo1) (h4 : R < lo2) :
    OwnF dyePartF ((((w'.setCell ⟨R, 0, none⟩ a).setCell ⟨R, 1, none⟩ b).setCell ⟨R, 2, none⟩ c).setCell ⟨R, 3, none⟩ d) w.heap.size v1 xs ∧ Own ((((w'.setCell ⟨R, 0, none⟩ a).setCell ⟨R, 1, none⟩ b).setCell ⟨R, 2, none⟩ c).setCell ⟨R, 3, none⟩ d) w.heap.size v2 ys ∧ Below w.heap.size w ((((w'.setCell ⟨R, 0, none⟩ a).setCell ⟨R, 1, none⟩ b).setCell ⟨R, 2, none⟩ c).setCell ⟨R, 3, none⟩ d) :=
  ⟨((((h1.setLow (p := ⟨R, 0, none⟩) h3 a).setLow (p := ⟨R, 1, none⟩) h3 b).setLow (p := ⟨R, 2, none⟩) h3 c).setLow (p := ⟨R, 3, none⟩) h3 d).mono (by omega), ((((h2.setLow (p := ⟨R, 0, none⟩) h4 a).setLow (p := ⟨R, 1, none⟩) h4 b).setLow (p := ⟨R, 2, none⟩) h4 c).setLow (p := ⟨R, 3, none⟩) h4 d).mono (by omega),
   (((hb.setCell (p := ⟨R, 0, none⟩) hR a).setCell (p := ⟨R, 1, none⟩) hR b).setCell (p := ⟨R, 2, none⟩) hR c).setCell (p := ⟨R, 3, none⟩) hR d⟩
set_option maxRecDepth 100000 in
set_option maxHeartbeats 8000000 in
theorem drawIsBath_any (A : Option Addr) (n c B : Nat) (w : World) (h : RdB w B A n c) (hB : B ≤ w.heap.size) (hn : n ≤ 65536) : Calls Try.prog 20 #[.slice A n c] w (GaveBath w) := by
  go_enter Try.func20, Try.ntmps20
  have hc0 := cur_new7 h hB hn
  have r4 := (Blk.new w #[.int .i64 0, .int .i64 0, .int .i64 0, .slice none 0 0] 27).alloc (.cells #[.slice A n c, .int .i64 0, .int .u64 0] 56)
  have HB : Below w.heap.size w ((w.alloc (.cells #[.int .i64 0, .int .i64 0, .int .i64 0, .slice none 0 0] 27)).alloc (.cells #[.slice A n c, .int .i64 0, .int .u64 0] 56)) := ((Below.refl _ _).alloc (Nat.le_refl _) _).alloc (by simp) _
  have hlo : w.heap.size + 1 < ((w.alloc (.cells #[.int .i64 0, .int .i64 0, .int .i64 0, .slice none 0 0] 27)).alloc (.cells #[.slice A n c, .int .i64 0, .int .u64 0] 56)).heap.size := by simp
  clear h
  go_wp2_with fail
  refine (recipe_any (w.heap.size + 1) 0 _ hc0 (by omega)).mono ?_
  rintro e w1 ⟨A1, c1, xs, rfl, hxl, ho, hc1, hg1⟩
  have hbd := fun z hz => (ho.bd z hz).1
  replace r4 := r4.mark hg1 (fun z hz => by cases hz; omega)
  replace HB := HB.trans (grown_below hg1 (Nat.le_succ _) HB.size)
  have hz1 := hg1.size
  clear hg1 hc0
  go_wp2_with fail
  refine (bath_any (w.heap.size + 1) (0 + 1000) xs.length c1 A1 _ hc1 (by omega) hxl).mono ?_
  rintro e w2 ⟨L, TT, Y, A2, c2, ys, rfl, ⟨hyl, hL, hT, hY⟩, ho2, hc2, hg2⟩
  replace ho := ho.mark hg2 (fun z z' hz hz' => by cases hz; have := hbd z' hz'; omega)
  replace r4 := r4.mark hg2 (fun z hz => by cases hz; omega)
  replace HB := HB.trans (grown_below hg2 (Nat.le_succ _) HB.size)
  have hz2 := hg2.size
  clear hg2 hc1
  have v0 := r4.cell 0
  have f0 := r4.frozen 0
  have v1 := r4.cell 1
  have f1 := r4.frozen 1
  have v2 := r4.cell 2
  have f2 := r4.frozen 2
  have v3 := r4.cell 3
  have f3 := r4.frozen 3
  have F := Lib.hid (finB (a := .int .i64 L) (b := .int .i64 TT) (c := .int .i64 Y) (d := .slice A2 ys.length c2) ho ho2 HB (Nat.le_refl _) (by omega) (by omega))
  go_wp2
  refine bodyPost_ret (v := .tuple #[.slice A1 xs.length c1, bathV L TT Y (.slice A2 ys.length c2)]) (by first | (simp [results, Try.results20, go_sem, v0, v1, v2, v3]; done) | simp [results, Try.results20, go_sem, *]) rfl ⟨A1, c1, xs, L, TT, Y, A2, c2, ys, rfl, ⟨hxl, hyl, hL, hT, hY⟩, F.out.1, F.out.2.1, F.out.2.2⟩
set_option maxRecDepth 100000 in
set_option maxHeartbeats 8000000 in
theorem drawDyeYarn_any (A : Option Addr) (n c B : Nat) (w : World) (h : RdB w B A n c) (hB : B ≤ w.heap.size) (hn : n ≤ 65536) : Calls Try.prog 5 #[.slice A n c] w (GaveBath w) := by
  have r4 := Blk.new w #[.int .i64 0, .int .i64 0, .int .i64 0, .slice none 0 0] 27
  have HB : Below w.heap.size w (w.alloc (.cells #[.int .i64 0, .int .i64 0, .int .i64 0, .slice none 0 0] 27)) := (Below.refl _ _).alloc (Nat.le_refl _) _
  have hR := h.alloc hB (.cells #[.int .i64 0, .int .i64 0, .int .i64 0, .slice none 0 0] 27)
  have hlo : w.heap.size < (w.alloc (.cells #[.int .i64 0, .int .i64 0, .int .i64 0, .slice none 0 0] 27)).heap.size := by simp
  clear h
  go_enter Try.func5, Try.ntmps5
  go_wp2_with fail
  refine (drawIsBath_any A n c B _ hR (by simp; omega) hn).mono ?_
  rintro e w1 ⟨A1, c1, xs, L, TT, Y, A2, c2, ys, rfl, ⟨hxl, hyl, hL, hT, hY⟩, ho, ho2, hb⟩
  replace r4 := r4.all hb
  replace HB := HB.trans (hb.mono HB.size)
  clear hb
  have v0 := r4.cell 0
  have f0 := r4.frozen 0
  have v1 := r4.cell 1
  have f1 := r4.frozen 1
  have v2 := r4.cell 2
  have f2 := r4.frozen 2
  have v3 := r4.cell 3
  have f3 := r4.frozen 3
  have F := Lib.hid (finB (a := .int .i64 L) (b := .int .i64 TT) (c := .int .i64 Y) (d := .slice A2 ys.length c2) ho ho2 HB (Nat.le_refl _) (hlo) (hlo))
  go_wp2
  refine bodyPost_ret (v := .tuple #[.slice A1 xs.length c1, bathV L TT Y (.slice A2 ys.length c2)]) (by first | (simp [results, Try.results5, go_sem, v0, v1, v2, v3]; done) | simp [results, Try.results5, go_sem, *]) rfl ⟨A1, c1, xs, L, TT, Y, A2, c2, ys, rfl, ⟨hxl, hyl, hL, hT, hY⟩, F.out.1, F.out.2.1, F.out.2.2⟩
end Go.Proofs.Ytjlidgeeehlkcaa
