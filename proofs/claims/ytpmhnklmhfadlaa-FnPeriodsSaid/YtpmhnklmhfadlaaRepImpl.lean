/- The walks of the program's checkedChart, isCopyCount, RepeatMotif. No condition. -/
import Derived.Test.YtpmhnklmhfadlaaSideMath
import Derived.Test.YtpmhnklmhfadlaaRepeat
import Derived.Test.YtpmhnklmhfadlaaBase
namespace Go.Proofs.Ytpmhnklmhfadlaa
open Go.RowKit

theorem isCopyCount_any (n : Int) (w : World) : Calls Try.prog 38 #[.int .i64 n] w fun e w' => e = .returned (.bool (isSideB n)) ∧ w = w' := by
  go_enter Try.func38, Try.ntmps38
  go_wp2_with (go_at_call 66; (with_reducible refine (isBetween_any _ _ _ _).mono ?_); rintro e w' ⟨rfl, rfl⟩)
  go_ret
  exact ⟨ret_bool (inB_side n), by first | rfl | trivial⟩
set_option maxRecDepth 100000 in
set_option maxHeartbeats 1000000 in
/-- A chart is handed on where it is valid. -/
theorem checkedChart_any (W H : Int) (A : Option Addr) (n c lo : Nat) (xs : List Int) (w : World) (ho : Own w lo (.slice A n c) xs) (hn : xs.length = n) (d : Bool) (hd : goodB W H xs = d) (ys : List Int) (hy : (if d = true then xs else []) = ys) :
    Calls Try.prog 41 #[chartV W H (.slice A n c)] w fun e w' => ∃ A' c', e = .returned (.tuple #[chartV (orZero d W) (orZero d H) (.slice A' ys.length c'), .bool d]) ∧ Own w' lo (.slice A' ys.length c') ys ∧ Below w.heap.size w w' := by
  subst hn
  have HY := Lib.hid hy
  clear hy
  have hb0 := Lib.hid (((Below.refl w.heap.size w).alloc (Nat.le_refl _) (.cells #[.int .i64 W, .int .i64 H, .slice A xs.length c] 26)).alloc (by simp) (.cells #[.int .i64 0, .int .i64 0, .slice none 0 0] 26))
  have r0 := (Blk.new (w.alloc (.cells #[.int .i64 W, .int .i64 H, .slice A xs.length c] 26)) #[.int .i64 0, .int .i64 0, .slice none 0 0] 26)
  have x0 := (Blk.new w #[.int .i64 W, .int .i64 H, .slice A xs.length c] 26).alloc (.cells #[.int .i64 0, .int .i64 0, .slice none 0 0] 26)
  have o0 := (ho.alloc (.cells #[.int .i64 W, .int .i64 H, .slice A xs.length c] 26)).alloc (.cells #[.int .i64 0, .int .i64 0, .slice none 0 0] 26)
  have HD := Lib.hid hd
  clear ho hd
  go_enter Try.func41, Try.ntmps41
  go_wp2_with fail
  refine (implIsChart_any W H A _ c _ xs _ o0.rd (Nat.le_refl _)).mono ?_
  rintro e w1 ⟨rfl, hb⟩
  have r1 := (r0.all hb).at_ (q := w.heap.size + 1) (by simp)
  have x1 := x0.all hb
  have o1 := o0.all hb
  have HB := Lib.hid (hb0.out.trans (hb.mono (by simp; omega)))
  have e0 := x1.cell 0
  have e1 := x1.cell 1
  have e2 := x1.cell 2
  have g0 := r1.cell 0
  have g1 := r1.cell 1
  have g2 := r1.cell 2
  have z0 := r1.frozen 0
  have z1 := r1.frozen 1
  have z2 := r1.frozen 2
  have hzz := r1.lt
  clear hb x0 r0 o0 hb0
  rw [HD.out]
  cases d with
  | true =>
    obtain rfl : xs = ys := HY.out
    go_wp2
    have F := fin3 (p := w.heap.size + 1) (a := .int .i64 W) (b := .int .i64 H) (c := .slice A xs.length c) o1 (row_ne' o1.1 r1 (by decide)) HB.out (by omega)
    exact bodyPost_ret (v := .tuple #[chartV W H (.slice A xs.length c), .bool true]) (by simp [results, Try.results41, go_sem, g0, g1, g2]) rfl ⟨A, c, rfl, F.1, F.2⟩
  | false =>
    obtain rfl : [] = ys := HY.out
    go_wp2
    have F := fin3 (p := w.heap.size + 1) (a := .int .i64 0) (b := .int .i64 0) (c := .slice none 0 0) (Own.nil w1 lo) (by simp [Value.ownBlock]) HB.out (by omega)
    exact bodyPost_ret (v := .tuple #[chartV 0 0 (.slice none 0 0), .bool false]) (by simp [results, Try.results41, go_sem, g0, g1, g2]) rfl ⟨none, 0, rfl, F.1, F.2⟩
def repOk (W H : Int) (xs : List Int) (a d : Int) : Bool := goodB W H xs && isSideB a && isSideB d
/-- .. and the chart is not too great. -/
def repAll (W H : Int) (xs : List Int) (a d : Int) : Bool := repOk W H xs a d && isSideB (a * W) && isSideB (d * H)
def repX (W H : Int) (xs : List Int) (a d : Int) : List Int := if repAll W H xs a d = true then repL W.toNat H.toNat xs a.toNat d.toNat else []
theorem tile_le {m k a d : Nat} {f : Nat → Nat → Nat → Nat → Int} (h1 : a * m ≤ 8) (h2 : d * k ≤ 8) : (tileL m k a d f).length ≤ 64 := by
  rw [tileL_len]
  exact Nat.mul_le_mul h2 h1
theorem nat_side {W a : Int} (h : isSideB (a * W) = true) (h1 : 0 ≤ a) (h2 : 0 ≤ W) : a.toNat * W.toNat ≤ 8 := by
  have := isSideB_yes h
  have e : ((a.toNat * W.toNat : Nat) : Int) = a * W := by rw [Int.natCast_mul, Int.toNat_of_nonneg h1, Int.toNat_of_nonneg h2]
  omega
theorem repX_len (W H : Int) (xs : List Int) (a d : Int) : (repX W H xs a d).length ≤ 1048576 := by
  unfold repX
  split
  · rename_i h
    simp only [repAll, repOk, Bool.and_eq_true] at h
    obtain ⟨⟨⟨⟨hg, ha⟩, hd⟩, h1⟩, h2⟩ := h
    have hW := goodB_yes hg
    have := isSideB_yes ha
    have := isSideB_yes hd
    have := tile_le (f := repF W.toNat xs) (nat_side h1 (by omega) (by omega)) (nat_side h2 (by omega) (by omega))
    unfold repL
    omega
  · simp
theorem rep_no {W H : Int} {xs : List Int} {a d : Int} (h : ¬ repOk W H xs a d = true) : goodB W H xs = false ∨ (goodB W H xs = true ∧ isSideB a = false) ∨ (goodB W H xs = true ∧ isSideB a = true ∧ isSideB d = false) := by
  unfold repOk at h
  revert h
  generalize goodB W H xs = x
  generalize isSideB a = y
  generalize isSideB d = z
  cases x <;> cases y <;> cases z <;> simp
theorem rep_yes {W H : Int} {xs : List Int} {a d : Int} (h : repOk W H xs a d = true) : goodB W H xs = true ∧ isSideB a = true ∧ isSideB d = true := by simpa [repOk, and_assoc] using h
theorem isSideB_nat {n : Int} (h : isSideB n = true) : ∃ a : Nat, n = a ∧ 1 ≤ a ∧ a ≤ 8 := by
  have := isSideB_yes h
  exact ⟨n.toNat, by omega, by omega, by omega⟩
theorem SeenR.one {w : World} {B m kk b off c : Nat} {xs : List Int} (h : Rd w B (some ⟨b, off, none⟩) xs.length c xs) : ∀ a, SeenR w B (repT [⟨(m : Int), (kk : Int), some ⟨b, off, none⟩, xs.length, c⟩] a) (picsF m kk a fun _ => xs) := by
  intro a
  refine ⟨by rw [repT_len, picsF_len]; simp, fun j x q hx hq => ?_⟩
  have hj : j < a := by have := (List.getElem?_eq_some_iff.1 hq).1; rwa [picsF_len] at this
  rw [picsF_at hj] at hq
  rw [repT_at a j (by simpa using hj)] at hx
  simp only [List.length_singleton, Nat.mod_one, List.getElem?_cons_zero, Option.some.injEq] at hx hq
  subst hx; subst hq
  exact ⟨rfl, rfl, rfl, h⟩
theorem elt_color {m i j : Nat} {xs : List Int} (h : ∀ x ∈ xs, 0 ≤ x ∧ x < 6) : isColorB (elt m xs i j) = true := by
  unfold elt isColorB
  rw [List.getD_eq_getElem?_getD, decide_eq_true_eq]
  cases e : xs[i * m + j]? with
  | none => exact ⟨by simp, by simp⟩
  | some x => exact h x (List.mem_of_getElem? e)
theorem good_grid {h k : Nat} {f : Nat → Nat → Int} (hf : ∀ i j, isColorB (f i j) = true) : goodB (k : Int) (h : Int) (gridL h k f) = (isSideB k && isSideB h) := by
  have h1 : (gridL h k f).all isColorB = true := by
    rw [List.all_eq_true]
    intro x hx
    unfold gridL at hx
    obtain ⟨q, _, rfl⟩ := List.mem_map.1 hx
    exact hf _ _
  unfold goodB
  rw [h1, gridL_len, decide_eq_true (by rw [Int.natCast_mul, Int.mul_comm])]
  simp
theorem all_sub {xs ys : List Int} {p : Int → Bool} (h : xs.all p = true) (hs : ∀ y ∈ ys, y ∈ xs) : ys.all p = true := by
  rw [List.all_eq_true] at h ⊢
  exact fun y hy => h y (hs y hy)
theorem far3 {w : World} {p b o : Nat} {v a1 a2 a3 : Value} (h : w.cell? ⟨b, o, none⟩ = some v) (hp : p ≠ b) : (((w.setCell ⟨p, 0, none⟩ a1).setCell ⟨p, 1, none⟩ a2).setCell ⟨p, 2, none⟩ a3).cell? ⟨b, o, none⟩ = some v := by
  rw [World.cell?_setCell_far _ _ _ _ hp, World.cell?_setCell_far _ _ _ _ hp, World.cell?_setCell_far _ _ _ _ hp, h]
set_option maxRecDepth 100000 in
set_option maxHeartbeats 4000000 in
theorem implRepeatMotif_any (W H : Int) (A : Option Addr) (n c B : Nat) (xs : List Int) (a d : Int) (w : World) (hR : Rd w B A n c xs) (hB : B ≤ w.heap.size) :
    Calls Try.prog 13 #[chartV W H (.slice A n c), .int .i64 a, .int .i64 d] w (OutChart w (orZero (repAll W H xs a d) (a * W)) (orZero (repAll W H xs a d) (d * H)) (repX W H xs a d) (repAll W H xs a d)) := by
  have hb0 := Lib.hid (((Below.refl w.heap.size w).alloc (Nat.le_refl _) (.cells #[.int .i64 W, .int .i64 H, .slice A n c] 26)).alloc (by simp) (.cells #[.int .i64 0, .int .i64 0, .slice none 0 0] 26))
  have h' := Lib.hid ((hR.alloc hB (.cells #[.int .i64 W, .int .i64 H, .slice A n c] 26)).alloc (by simp; omega) (.cells #[.int .i64 0, .int .i64 0, .slice none 0 0] 26))
  have r0 := (Blk.new (w.alloc (.cells #[.int .i64 W, .int .i64 H, .slice A n c] 26)) #[.int .i64 0, .int .i64 0, .slice none 0 0] 26)
  have x0 := (Blk.new w #[.int .i64 W, .int .i64 H, .slice A n c] 26).alloc (.cells #[.int .i64 0, .int .i64 0, .slice none 0 0] 26)
  by_cases h : repOk W H xs a d = true
  · obtain ⟨hg, ha, hd⟩ := rep_yes h
    have hall : repAll W H xs a d = (isSideB (a * W) && isSideB (d * H)) := by unfold repAll; rw [h]; simp
    have hX : repX W H xs a d = if (isSideB (a * W) && isSideB (d * H)) = true then repL W.toNat H.toNat xs a.toNat d.toNat else [] := by unfold repX; rw [hall]
    obtain ⟨ok, hok⟩ : ∃ ok, Hid (repAll W H xs a d = ok) := ⟨_, rfl⟩
    obtain ⟨ys, hys⟩ : ∃ ys, Hid (repX W H xs a d = ys) := ⟨_, rfl⟩
    have HALL := Lib.hid (hall.symm.trans hok.out)
    have HX := Lib.hid (hX.symm.trans hys.out)
    rw [hok.out, hys.out]
    clear hX hall h hok hys
    obtain ⟨m, k, rfl, rfl, m1, m8, k1, k8, hl, h64, hl1, hcol⟩ := good_nat hg
    obtain ⟨a, rfl, a1, a8⟩ := isSideB_nat ha
    obtain ⟨d, rfl, d1, d8⟩ := isSideB_nat hd
    simp only [Int.toNat_natCast] at HX
    obtain rfl := hR.len
    obtain ⟨b, off, rfl, _, _⟩ := hR.cells (by omega)
    clear hR
    go_enter Try.func13, Try.ntmps13
    go_wp2_with fail
    refine (implIsChart_any m k _ _ c B xs _ h'.out (by simp; omega)).mono ?_
    rintro e w1 ⟨rfl, hb⟩
    have r1 := (r0.all hb).at_ (q := w.heap.size + 1) (by simp)
    have x1 := x0.all hb
    have R1 := h'.out.all hb (by simp; omega)
    have HB := Lib.hid (hb0.out.trans (hb.mono (by simp; omega)))
    have hsz := r1.lt
    have e0 := x1.cell 0
    have e1 := x1.cell 1
    have e2 := x1.cell 2
    clear hb r0 x0 h' hb0
    rw [hg]
    go_wp2_with (go_at_call 38; (with_reducible refine (isCopyCount_any _ _).mono ?_); rintro e w' ⟨rfl, rfl⟩)
    have hlit : RdF chartsF (w1.alloc (.cells #[.int .i64 (m : Int), .int .i64 (k : Int), .slice (some ⟨b, off, none⟩) xs.length c] 26)) (w1.heap.size + 1) (some ⟨w1.heap.size, 0, none⟩) 1 1 [⟨(m : Int), (k : Int), some ⟨b, off, none⟩, xs.length, c⟩] := RdF.lit (F := chartsF) (a := ⟨(m : Int), (k : Int), some ⟨b, off, none⟩, xs.length, c⟩) rfl trivial
    refine (repeatC_any w1.heap.size 0 1 (w1.heap.size + 1) a [⟨(m : Int), (k : Int), some ⟨b, off, none⟩, xs.length, c⟩] _ hlit (by simp) (Nat.le_refl _) a1 (by simp; omega)).mono ?_
    rintro e w2 ⟨g, rfl, own, hb⟩
    have hb' := Lib.hid (((Below.refl w1.heap.size w1).alloc (Nat.le_refl _) (.cells #[.int .i64 (m : Int), .int .i64 (k : Int), .slice (some ⟨b, off, none⟩) xs.length c] 26)).trans (hb.mono (by simp)))
    have r2 := r1.all hb'.out
    have R2 := R1.all hb'.out (by omega)
    have HB2 := Lib.hid (HB.out.trans (hb'.out.mono (by omega)))
    have hz2 : w1.heap.size ≤ w2.heap.size := hb'.out.size
    have hrl : (repT [(⟨(m : Int), (k : Int), some ⟨b, off, none⟩, xs.length, c⟩ : ChR)] a).length = a := by rw [repT_len]; simp
    clear hb hb' e0 e1 e2 hlit x1 r1 R1 HB
    rw [hrl] at own ⊢
    go_wp2_with fail
    have hp := picsF_ok (F := fun _ => xs) m1 m8 k1 k8 (a := a) (fun _ _ => hl.out)
    refine (sideBySide_any _ (picsF m k a fun _ => xs) _ a a _ k w2 own.rd (Nat.le_refl _) (SeenR.one (R2.more (by omega)) a) a1 a8 k1 k8 hp).mono ?_
    rintro e w3 ⟨A3, c3, rfl, own3, hb3⟩
    have hwd : widP (picsF m k a fun _ => xs) (picsF m k a fun _ => xs).length = a * m := by rw [picsF_len, widP_pics (Nat.le_refl _)]
    have r3 := r2.all hb3
    have HB3 := Lib.hid (HB2.out.trans (hb3.mono (by omega)))
    have hz3 : w2.heap.size ≤ w3.heap.size := hb3.size
    have hR := Lib.hid (rep_tile (d := d) m1 a1 hl.out)
    have h512 := sideTo_le hp (Nat.le_refl k) k8 (by rw [picsF_len]; exact a8)
    have hs1 : 1 ≤ (sideTo (picsF m k a fun _ => xs) k).length := by
      rw [sideTo_len hp (Nat.le_refl _), hwd]
      have h1 : 1 * 1 ≤ a * m := Nat.mul_le_mul a1 m1
      exact Nat.mul_le_mul k1 h1
    rw [hwd]
    clear own hb3 r2 R2 HB2 hp hrl hwd
    generalize sideTo (picsF m k a fun _ => xs) k = zs at *
    obtain ⟨g3, rfl, _, _⟩ := own3.some_ hs1
    go_wp2_with fail
    have y := Blk.new w3 #[.int .i64 ((a : Int) * (m : Int)), .int .i64 (k : Int), .slice (some ⟨g3, 0, none⟩) zs.length c3] 26
    have r4 := r3.alloc (.cells #[.int .i64 ((a : Int) * (m : Int)), .int .i64 (k : Int), .slice (some ⟨g3, 0, none⟩) zs.length c3] 26)
    have own4 := own3.alloc (.cells #[.int .i64 ((a : Int) * (m : Int)), .int .i64 (k : Int), .slice (some ⟨g3, 0, none⟩) zs.length c3] 26)
    have HB4 := Lib.hid (HB3.out.alloc (by omega) (.cells #[.int .i64 ((a : Int) * (m : Int)), .int .i64 (k : Int), .slice (some ⟨g3, 0, none⟩) zs.length c3] 26))
    clear r3 own3 HB3
    have hw3 : w.heap.size + 1 < w3.heap.size := by omega
    generalize w3.alloc (.cells #[.int .i64 ((a : Int) * (m : Int)), .int .i64 (k : Int), .slice (some ⟨g3, 0, none⟩) zs.length c3] 26) = wv at *
    have ya0 := y.cell 0
    have ya1 := y.cell 1
    have ya2 := y.cell 2
    have hzy := y.lt
    have hz4 : w.heap.size ≤ wv.heap.size := by omega
    have hkd : (k : Int) * (d : Int) ≤ 64 := by
      have := Nat.mul_le_mul k8 d8
      rw [← Int.natCast_mul]; omega
    have hkd0 : (0 : Int) ≤ (k : Int) * (d : Int) := by rw [← Int.natCast_mul]; omega
    have hwk : IntKind.i64.wrap ((k : Int) * (d : Int)) = (k : Int) * (d : Int) := IntWalk.i64_in _ (by omega)
    have HG := Lib.hid (show goodB ((a : Int) * (m : Int)) ((k : Int) * (d : Int)) (repT zs d) = ok by
      rw [← HALL.out, hR.out, Int.mul_comm (k : Int) (d : Int), ← Int.natCast_mul, ← Int.natCast_mul]
      exact good_grid (h := d * k) (k := a * m) (f := fun i j => elt m xs (i % k) (j % m)) fun i j => elt_color hcol)
    have HY := Lib.hid (show (if ok = true then repT zs d else []) = ys by rw [← HX.out, HALL.out, hR.out])
    have h4k : d * zs.length ≤ 4096 := by
      have := Nat.mul_le_mul d8 h512
      omega
    have Rz := own4.rd.toF.drew
    have hne3 : w.heap.size + 1 ≠ w3.heap.size := by omega
    have hzd : wv.heap.size ≤ wv.drew.heap.size := Nat.le_refl _
    clear y
    go_region_held3 (fun w' => w'.cell? ⟨w3.heap.size, 0, none⟩ = some (.int .i64 ((a : Int) * (m : Int))) ∧ w'.cell? ⟨w3.heap.size, 1, none⟩ = some (.int .i64 (k : Int)) ∧ w'.cell? ⟨w3.heap.size, 2, none⟩ = some (.slice (some ⟨g3, 0, none⟩) zs.length c3)) (first | exact ⟨ya0, ya1, ya2⟩ | exact ⟨far3 ya0 hne3, far3 ya1 hne3, far3 ya2 hne3⟩ | go_keep) (first | (go_at_call 42; (with_reducible refine (repeatI_any g3 0 c3 wv.heap.size d zs _ Rz hzd hs1 d1 h4k).mono ?_); rintro e w5 ⟨g5, rfl, own5, hb5⟩; (try replace hb5 := below_drew' hb5); have own5' := own5.toI.mono (show w.heap.size ≤ _ from hz4); have r5 := r4.all hb5; have HB5 := Lib.hid (HB4.out.trans (hb5.mono hz4)); have hz5 : w.heap.size ≤ w5.heap.size := Nat.le_trans hz4 hb5.size; replace ya0 := cells_of hb5 ya0 hzy; replace ya1 := cells_of hb5 ya1 hzy; replace ya2 := cells_of hb5 ya2 hzy; have hzy5 : w3.heap.size < w5.heap.size := Nat.lt_of_lt_of_le hzy hb5.size; clear hb5 own5) | (go_at_call 41; (with_reducible refine (checkedChart_any ((a : Int) * (m : Int)) ((k : Int) * (d : Int)) _ _ _ w.heap.size (repT zs d) _ own5' rfl ok HG.out ys HY.out).mono ?_); rintro e w6 ⟨A6, c6, rfl, own6, hb6⟩; have r6 := r5.all hb6; have HB6 := Lib.hid (HB5.out.trans (hb6.mono hz5)); replace ya0 := cells_of hb6 ya0 hzy5; replace ya1 := cells_of hb6 ya1 hzy5; replace ya2 := cells_of hb6 ya2 hzy5; have g0 := r6.cell 0; have g1 := r6.cell 1; have g2 := r6.cell 2; have z0 := r6.frozen 0; have z1 := r6.frozen 1; have z2 := r6.frozen 2; have hz6 := r6.lt; clear hb6))
    have F := fin3 (p := w.heap.size + 1) (a := .int .i64 (orZero ok ((a : Int) * (m : Int)))) (b := .int .i64 (orZero ok ((k : Int) * (d : Int)))) (c := .slice A6 ys.length c6) own6 (row_ne' own6.1 r6 (by decide)) HB6.out (by omega)
    go_wp2
    exact bodyPost_ret (v := .tuple #[chartV (orZero ok ((a : Int) * (m : Int))) (orZero ok ((k : Int) * (d : Int))) (.slice A6 ys.length c6), .bool ok]) (by simp [results, Try.results13, go_sem, g0, g1, g2]) rfl ⟨A6, c6, by rw [Int.mul_comm (d : Int)], F.1, F.2⟩
  · have hno : repAll W H xs a d = false := by unfold repAll; rw [not_false h]; rfl
    have hX : repX W H xs a d = [] := by unfold repX; rw [hno]; rfl
    rw [hX, hno]
    rcases rep_no h with hg | ⟨hg, ha⟩ | ⟨hg, ha, hd⟩
    all_goals
      go_enter Try.func13, Try.ntmps13
      go_wp2_with fail
      refine (implIsChart_any W H A n c B xs _ h'.out (by simp; omega)).mono ?_
      rintro e w1 ⟨rfl, hb⟩
      have r1 := (r0.all hb).at_ (q := w.heap.size + 1) (by simp)
      have HB := Lib.hid (hb0.out.trans (hb.mono (by simp; omega)))
      have g0 := r1.cell 0
      have g1 := r1.cell 1
      have g2 := r1.cell 2
      have z0 := r1.frozen 0
      have z1 := r1.frozen 1
      have z2 := r1.frozen 2
      clear hb r0
      rw [hg]
      go_wp2_with (go_at_call 38; (with_reducible refine (isCopyCount_any _ _).mono ?_); rintro e w' ⟨rfl, rfl⟩)
      (try rw [ha])
      (try go_wp2_with (go_at_call 38; (with_reducible refine (isCopyCount_any _ _).mono ?_); rintro e w' ⟨rfl, rfl⟩))
      (try rw [hd])
      (try go_wp2_with fail)
      have F := fin3 (p := w.heap.size + 1) (a := .int .i64 0) (b := .int .i64 0) (c := .slice none 0 0) (Own.nil w1 w.heap.size) (by simp [Value.ownBlock]) HB.out (by omega)
      exact bodyPost_ret (v := .tuple #[chartV 0 0 (.slice none 0 0), .bool false]) (by simp [results, Try.results13, go_sem, g0, g1, g2]) rfl ⟨none, 0, rfl, F.1, F.2⟩
end Go.Proofs.Ytpmhnklmhfadlaa
