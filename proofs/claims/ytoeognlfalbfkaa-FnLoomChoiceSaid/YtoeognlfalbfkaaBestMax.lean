/- The walk of the library MaxFunc at looms. Condition: one to eight looms. -/
import Derived.Test.YtoeognlfalbfkaaBestE
namespace Go.Proofs.Ytoeognlfalbfkaa
open Go.RowKit

set_option maxRecDepth 100000 in
set_option maxHeartbeats 4000000 in
theorem maxWide_any (b off n c B : Nat) (xs : List LoomR) (w : World) (h : RdF loomF w B (some ⟨b, off, none⟩) n c xs) (hB : B ≤ w.heap.size) (hn0 : 0 < n) (hn8 : n ≤ 8) (r : LoomR) (hr : bestO true xs = some r) :
    Calls Try.prog 53 #[.slice (some ⟨b, off, none⟩) n c, .func (.func 49) #[] #[]] w (Out w (.agg #[.int .i64 r.f0, .int .i64 r.f1, .int .i64 r.f2, .int .i64 r.f3, .int .i64 r.f4])) := by
  have hcap := h.cap
  have hmx := h.max
  obtain rfl := h.len
  have HR := Lib.hid hr
  clear hr
  have y4 := Blk.new w #[.int .i64 0, .int .i64 0, .int .i64 0, .int .i64 0, .int .i64 0] 37
  have HB0 : Below w.heap.size w (w.alloc (.cells #[.int .i64 0, .int .i64 0, .int .i64 0, .int .i64 0, .int .i64 0] 37)) := (Below.refl _ _).alloc (Nat.le_refl _) _
  obtain ⟨_, _, a0, e0, hbB, ha0, HX0, hc0, hc1, hc2, hc3, hc4⟩ := LoomR_at (F := loomF) rfl (fun _ => rfl) (fun _ => rfl) (h.alloc hB (.cells #[.int .i64 0, .int .i64 0, .int .i64 0, .int .i64 0, .int .i64 0] 37)) hn0
  cases e0
  simp only [Nat.zero_mul, Nat.add_zero] at hc0 hc1 hc2 hc3 hc4
  have y5 := Blk.new (w.alloc (.cells #[.int .i64 0, .int .i64 0, .int .i64 0, .int .i64 0, .int .i64 0] 37)) #[.int .i64 a0.f0, .int .i64 a0.f1, .int .i64 a0.f2, .int .i64 a0.f3, .int .i64 a0.f4] 37
  rw [show (w.alloc (.cells #[.int .i64 0, .int .i64 0, .int .i64 0, .int .i64 0, .int .i64 0] 37)).heap.size = w.heap.size + 1 by simp] at y5
  replace y4 := y4.alloc (.cells #[.int .i64 a0.f0, .int .i64 a0.f1, .int .i64 a0.f2, .int .i64 a0.f3, .int .i64 a0.f4] 37)
  replace HB0 := HB0.alloc (by simp) (.cells #[.int .i64 a0.f0, .int .i64 a0.f1, .int .i64 a0.f2, .int .i64 a0.f3, .int .i64 a0.f4] 37)
  have H1 := Lib.hid (show bestO true (xs.take 1) = some a0 by rw [show xs.take 1 = [] ++ [a0] by rw [take_more HX0.out]; rfl]; exact best_first rfl)
  go_enter Try.func53, Try.ntmps53
  go_wp2
  clear hc0 hc1 hc2 hc3 hc4
  generalize (w.alloc (.cells #[.int .i64 0, .int .i64 0, .int .i64 0, .int .i64 0, .int .i64 0] 37)).alloc (.cells #[.int .i64 a0.f0, .int .i64 a0.f1, .int .i64 a0.f2, .int .i64 a0.f3, .int .i64 a0.f4] 37) = w0 at *
  go_loopw [6] (fun i wr => ∃ (k : Nat) (m : LoomR), 1 ≤ k ∧ k ≤ xs.length ∧ i = .int .i64 k ∧ Hid (bestO true (xs.take k) = some m) ∧ Hid (Below w.heap.size w wr) ∧ Blk wr w.heap.size 37 #[.int .i64 0, .int .i64 0, .int .i64 0, .int .i64 0, .int .i64 0] ∧ Blk wr (w.heap.size + 1) 37 #[.int .i64 m.f0, .int .i64 m.f1, .int .i64 m.f2, .int .i64 m.f3, .int .i64 m.f4]) (fun i _ => xs.length - (intOf i).toNat)
  case atStart => exact ⟨1, a0, Nat.le_refl _, hn0, rfl, H1, HB0, y4, y5⟩
  case round =>
    obtain ⟨k, m, hk1, hk, rfl, HM, HB, x4, x5⟩ := hrel
    have hzr := HB.out.size
    by_cases hlt : k < xs.length
    · obtain ⟨_, _, a, e0, hbB, ha, HX, hx0, hx1, hx2, hx3, hx4⟩ := LoomR_at (F := loomF) rfl (fun _ => rfl) (fun _ => rfl) (h.below HB.out hB) hlt
      cases e0
      have hbz : b < wr.heap.size := by omega
      have hz5 := x5.lt
      have hk0 : (0 : Int) ≤ (k : Int) := by omega
      have hkn : (k : Int) < (xs.length : Int) := by omega
      obtain ⟨q, hq⟩ : ∃ q, Lib.compareInt a.f1 m.f1 = q := ⟨_, rfl⟩
      obtain ⟨P5, hP5⟩ : ∃ P5, w.heap.size + 1 = P5 := ⟨_, rfl⟩
      have hz6 : b < P5 := by omega
      have hz7 : w.heap.size < P5 := by omega
      rw [hP5] at x5 hz5 ⊢
      clear hP5
      have e50 := x5.cell 0
      have e51 := x5.cell 1
      have e52 := x5.cell 2
      have e53 := x5.cell 3
      have e54 := x5.cell 4
      by_cases hbt : 0 < q
      · have HN := Lib.hid (show bestO true (xs.take (k + 1)) = some a by
          rw [take_more HX.out]
          exact best_turn HM.out (by
            have h5 : m.f1 < a.f1 := by unfold Lib.compareInt at hq; split at hq <;> (try split at hq) <;> omega
            simp [better, h5]))
        have hbt' : decide (0 < q) = true := decide_eq_true hbt
        clear hbt
        go_wp2
        refine wp_region_noPanic ?_
        refine wp_region_held_drew (S := (fun w' => w'.cell? ⟨b, off + k * 5, none⟩ = some (.int .i64 a.f0) ∧ w'.cell? ⟨b, off + k * 5 + 1, none⟩ = some (.int .i64 a.f1) ∧ w'.cell? ⟨b, off + k * 5 + 2, none⟩ = some (.int .i64 a.f2) ∧ w'.cell? ⟨b, off + k * 5 + 3, none⟩ = some (.int .i64 a.f3) ∧ w'.cell? ⟨b, off + k * 5 + 4, none⟩ = some (.int .i64 a.f4) ∧ w'.cell? ⟨P5, 0, none⟩ = some (.int .i64 m.f0) ∧ w'.cell? ⟨P5, 1, none⟩ = some (.int .i64 m.f1) ∧ w'.cell? ⟨P5, 2, none⟩ = some (.int .i64 m.f2) ∧ w'.cell? ⟨P5, 3, none⟩ = some (.int .i64 m.f3) ∧ w'.cell? ⟨P5, 4, none⟩ = some (.int .i64 m.f4))) (by kernel_rfl) (by exact ⟨hx0, hx1, hx2, hx3, hx4, x5.cell 0, x5.cell 1, x5.cell 2, x5.cell 3, x5.cell 4⟩) (fun hHeld => ?_)
        refine wpAnyH_take (i := 0) (v := ?_) rfl (by kernel_rfl) (by kernel_rfl) (by kernel_rfl) (fun _ _ _ h => h) (Or.inl ⟨by rfl, ?_⟩) (by assumption) ?_
        rotate_left
        · intro w hSw; (try dsimp only at hSw); go_simp; (try with_reducible rfl)
        (try simp only [Act.put, List.getElem_toArray, List.getElem_cons_zero, List.setIfInBounds_toArray, List.set_cons_zero, List.set_cons_succ])
        refine wpAnyH_take (i := 1) (v := ?_) rfl (by kernel_rfl) (by kernel_rfl) (by kernel_rfl) (fun _ _ _ h => h) (Or.inl ⟨by rfl, ?_⟩) (by assumption) ?_
        rotate_left
        · intro w hSw; (try dsimp only at hSw); go_simp; (try with_reducible rfl)
        (try simp only [Act.put, List.getElem_toArray, List.getElem_cons_zero, List.getElem_cons_succ, List.setIfInBounds_toArray, List.set_cons_zero, List.set_cons_succ])
        refine wpAnyH_take (i := 2) (v := ?_) rfl (by kernel_rfl) (by kernel_rfl) (by kernel_rfl) (fun _ _ _ h => h) (Or.inl ⟨by rfl, ?_⟩) (by assumption) ?_
        rotate_left
        · intro w hSw; (try dsimp only at hSw); go_simp; (try with_reducible rfl)
        (try simp only [Act.put, List.getElem_toArray, List.getElem_cons_zero, List.getElem_cons_succ, List.setIfInBounds_toArray, List.set_cons_zero, List.set_cons_succ])
        refine wpAnyH_take (i := 3) (v := ?_) rfl (by kernel_rfl) (by kernel_rfl) (by kernel_rfl) (fun _ _ _ h => h) (Or.inl ⟨by rfl, ?_⟩) (by assumption) ?_
        rotate_left
        · intro w hSw; (try dsimp only at hSw); go_simp; (try with_reducible rfl)
        (try simp only [Act.put, List.getElem_toArray, List.getElem_cons_zero, List.getElem_cons_succ, List.setIfInBounds_toArray, List.set_cons_zero, List.set_cons_succ])
        refine wpAnyH_take (i := 4) (v := ?_) rfl (by kernel_rfl) (by kernel_rfl) (by kernel_rfl) (fun _ _ _ h => h) (Or.inl ⟨by rfl, ?_⟩) (by assumption) ?_
        rotate_left
        · intro w hSw; (try dsimp only at hSw); go_simp; (try with_reducible rfl)
        (try simp only [Act.put, List.getElem_toArray, List.getElem_cons_zero, List.getElem_cons_succ, List.setIfInBounds_toArray, List.set_cons_zero, List.set_cons_succ])
        refine wpAnyH_take (i := 5) (v := ?_) rfl (by kernel_rfl) (by kernel_rfl) (by kernel_rfl) (fun _ _ _ h => h) (Or.inl ⟨by rfl, ?_⟩) (by assumption) ?_
        rotate_left
        · intro w hSw; (try dsimp only at hSw); go_simp; (try with_reducible rfl)
        (try simp only [Act.put, List.getElem_toArray, List.getElem_cons_zero, List.getElem_cons_succ, List.setIfInBounds_toArray, List.set_cons_zero, List.set_cons_succ])
        refine wpAnyH_ready (rs := [6]) (by kernel_rfl) (by simp) ?_
        refine AllReadyH.cons rfl (fun K hK => ?_) AllReadyH.nil
        go_simp
        ((with_reducible refine (compareWide_any a m q _ hq).mono ?_); rintro e w5 ⟨rfl, hb5⟩; (try replace hb5 := below_drew' hb5); replace x5 := x5.all hb5; replace x4 := x4.all hb5; replace HB := Lib.hid (HB.out.trans (hb5.mono HB.out.size)); replace hx0 := cells_of hb5 hx0 hbz; replace hx1 := cells_of hb5 hx1 hbz; replace hx2 := cells_of hb5 hx2 hbz; replace hx3 := cells_of hb5 hx3 hbz; replace hx4 := cells_of hb5 hx4 hbz; replace hbz := Nat.lt_of_lt_of_le hbz hb5.size; clear hb5; go_simp)
        refine hK.out _ _ (by exact ⟨hx0, hx1, hx2, hx3, hx4, x5.cell 0, x5.cell 1, x5.cell 2, x5.cell 3, x5.cell 4⟩) (fun hHeld => ?_)
        clear hK K
        (try simp only [Act.put, List.getElem_toArray, List.getElem_cons_zero, List.getElem_cons_succ, List.setIfInBounds_toArray, List.set_cons_zero, List.set_cons_succ])
        refine wpAnyH_take (i := 7) (v := ?_) rfl (by kernel_rfl) (by kernel_rfl) (by kernel_rfl) (fun _ _ _ h => h) (Or.inl ⟨by rfl, ?_⟩) (by assumption) ?_
        rotate_left
        · intro w hSw; (try dsimp only at hSw); go_simp; (try with_reducible rfl)
        (try simp only [Act.put, List.getElem_toArray, List.getElem_cons_zero, List.getElem_cons_succ, List.setIfInBounds_toArray, List.set_cons_zero, List.set_cons_succ])
        refine wpAnyH_done (by kernel_rfl) ?_ _
        refine NoPanic.normal ?_
        clear e50 e51 e52 e53 e54
        have e50 := x5.cell 0
        have e51 := x5.cell 1
        have e52 := x5.cell 2
        have e53 := x5.cell 3
        have e54 := x5.cell 4
        have f50 := x5.frozen 0
        have f51 := x5.frozen 1
        have f52 := x5.frozen 2
        have f53 := x5.frozen 3
        have f54 := x5.frozen 4
        have hzo := HB.out.size
        have hbo := HB.out
        go_wp2
        go_roundw
        case rel =>
          refine ⟨k + 1, a, by omega, by omega, by go_num, HN, Lib.hid (by repeat (first | assumption | exact Below.refl _ _ | refine belowN ?_ _ | refine belowD ?_ | (refine Below.setCell ?_ (by first | (simp; done) | (simp; omega) | omega) _) | (refine Below.alloc ?_ (by first | (simp; done) | (simp; omega) | omega) _))), ?_, ?_⟩
          · exact ((((x4.far (a := ⟨P5, 0, none⟩) (show w.heap.size ≠ P5 by omega) _).far (a := ⟨P5, 1, none⟩) (show w.heap.size ≠ P5 by omega) _).far (a := ⟨P5, 2, none⟩) (show w.heap.size ≠ P5 by omega) _).far (a := ⟨P5, 3, none⟩) (show w.heap.size ≠ P5 by omega) _).far (a := ⟨P5, 4, none⟩) (show w.heap.size ≠ P5 by omega) _
          · exact ((((x5.set_ 0 (.int .i64 a.f0)).set_ 1 (.int .i64 a.f1)).set_ 2 (.int .i64 a.f2)).set_ 3 (.int .i64 a.f3)).set_ 4 (.int .i64 a.f4)
        case measure => simp [intOf]; omega
      · have HN := Lib.hid (show bestO true (xs.take (k + 1)) = some m by
          rw [take_more HX.out]
          exact best_stay HM.out (by
            have h5 : ¬ m.f1 < a.f1 := by unfold Lib.compareInt at hq; split at hq <;> (try split at hq) <;> omega
            simp [better, h5]))
        have hbt' : decide (0 < q) = false := decide_eq_false hbt
        clear hbt
        go_wp2
        refine wp_region_noPanic ?_
        refine wp_region_held_drew (S := (fun w' => w'.cell? ⟨b, off + k * 5, none⟩ = some (.int .i64 a.f0) ∧ w'.cell? ⟨b, off + k * 5 + 1, none⟩ = some (.int .i64 a.f1) ∧ w'.cell? ⟨b, off + k * 5 + 2, none⟩ = some (.int .i64 a.f2) ∧ w'.cell? ⟨b, off + k * 5 + 3, none⟩ = some (.int .i64 a.f3) ∧ w'.cell? ⟨b, off + k * 5 + 4, none⟩ = some (.int .i64 a.f4) ∧ w'.cell? ⟨P5, 0, none⟩ = some (.int .i64 m.f0) ∧ w'.cell? ⟨P5, 1, none⟩ = some (.int .i64 m.f1) ∧ w'.cell? ⟨P5, 2, none⟩ = some (.int .i64 m.f2) ∧ w'.cell? ⟨P5, 3, none⟩ = some (.int .i64 m.f3) ∧ w'.cell? ⟨P5, 4, none⟩ = some (.int .i64 m.f4))) (by kernel_rfl) (by exact ⟨hx0, hx1, hx2, hx3, hx4, x5.cell 0, x5.cell 1, x5.cell 2, x5.cell 3, x5.cell 4⟩) (fun hHeld => ?_)
        refine wpAnyH_take (i := 0) (v := ?_) rfl (by kernel_rfl) (by kernel_rfl) (by kernel_rfl) (fun _ _ _ h => h) (Or.inl ⟨by rfl, ?_⟩) (by assumption) ?_
        rotate_left
        · intro w hSw; (try dsimp only at hSw); go_simp; (try with_reducible rfl)
        (try simp only [Act.put, List.getElem_toArray, List.getElem_cons_zero, List.setIfInBounds_toArray, List.set_cons_zero, List.set_cons_succ])
        refine wpAnyH_take (i := 1) (v := ?_) rfl (by kernel_rfl) (by kernel_rfl) (by kernel_rfl) (fun _ _ _ h => h) (Or.inl ⟨by rfl, ?_⟩) (by assumption) ?_
        rotate_left
        · intro w hSw; (try dsimp only at hSw); go_simp; (try with_reducible rfl)
        (try simp only [Act.put, List.getElem_toArray, List.getElem_cons_zero, List.getElem_cons_succ, List.setIfInBounds_toArray, List.set_cons_zero, List.set_cons_succ])
        refine wpAnyH_take (i := 2) (v := ?_) rfl (by kernel_rfl) (by kernel_rfl) (by kernel_rfl) (fun _ _ _ h => h) (Or.inl ⟨by rfl, ?_⟩) (by assumption) ?_
        rotate_left
        · intro w hSw; (try dsimp only at hSw); go_simp; (try with_reducible rfl)
        (try simp only [Act.put, List.getElem_toArray, List.getElem_cons_zero, List.getElem_cons_succ, List.setIfInBounds_toArray, List.set_cons_zero, List.set_cons_succ])
        refine wpAnyH_take (i := 3) (v := ?_) rfl (by kernel_rfl) (by kernel_rfl) (by kernel_rfl) (fun _ _ _ h => h) (Or.inl ⟨by rfl, ?_⟩) (by assumption) ?_
        rotate_left
        · intro w hSw; (try dsimp only at hSw); go_simp; (try with_reducible rfl)
        (try simp only [Act.put, List.getElem_toArray, List.getElem_cons_zero, List.getElem_cons_succ, List.setIfInBounds_toArray, List.set_cons_zero, List.set_cons_succ])
        refine wpAnyH_take (i := 4) (v := ?_) rfl (by kernel_rfl) (by kernel_rfl) (by kernel_rfl) (fun _ _ _ h => h) (Or.inl ⟨by rfl, ?_⟩) (by assumption) ?_
        rotate_left
        · intro w hSw; (try dsimp only at hSw); go_simp; (try with_reducible rfl)
        (try simp only [Act.put, List.getElem_toArray, List.getElem_cons_zero, List.getElem_cons_succ, List.setIfInBounds_toArray, List.set_cons_zero, List.set_cons_succ])
        refine wpAnyH_take (i := 5) (v := ?_) rfl (by kernel_rfl) (by kernel_rfl) (by kernel_rfl) (fun _ _ _ h => h) (Or.inl ⟨by rfl, ?_⟩) (by assumption) ?_
        rotate_left
        · intro w hSw; (try dsimp only at hSw); go_simp; (try with_reducible rfl)
        (try simp only [Act.put, List.getElem_toArray, List.getElem_cons_zero, List.getElem_cons_succ, List.setIfInBounds_toArray, List.set_cons_zero, List.set_cons_succ])
        refine wpAnyH_ready (rs := [6]) (by kernel_rfl) (by simp) ?_
        refine AllReadyH.cons rfl (fun K hK => ?_) AllReadyH.nil
        go_simp
        ((with_reducible refine (compareWide_any a m q _ hq).mono ?_); rintro e w5 ⟨rfl, hb5⟩; (try replace hb5 := below_drew' hb5); replace x5 := x5.all hb5; replace x4 := x4.all hb5; replace HB := Lib.hid (HB.out.trans (hb5.mono HB.out.size)); replace hx0 := cells_of hb5 hx0 hbz; replace hx1 := cells_of hb5 hx1 hbz; replace hx2 := cells_of hb5 hx2 hbz; replace hx3 := cells_of hb5 hx3 hbz; replace hx4 := cells_of hb5 hx4 hbz; replace hbz := Nat.lt_of_lt_of_le hbz hb5.size; clear hb5; go_simp)
        refine hK.out _ _ (by exact ⟨hx0, hx1, hx2, hx3, hx4, x5.cell 0, x5.cell 1, x5.cell 2, x5.cell 3, x5.cell 4⟩) (fun hHeld => ?_)
        clear hK K
        (try simp only [Act.put, List.getElem_toArray, List.getElem_cons_zero, List.getElem_cons_succ, List.setIfInBounds_toArray, List.set_cons_zero, List.set_cons_succ])
        refine wpAnyH_take (i := 7) (v := ?_) rfl (by kernel_rfl) (by kernel_rfl) (by kernel_rfl) (fun _ _ _ h => h) (Or.inl ⟨by rfl, ?_⟩) (by assumption) ?_
        rotate_left
        · intro w hSw; (try dsimp only at hSw); go_simp; (try with_reducible rfl)
        (try simp only [Act.put, List.getElem_toArray, List.getElem_cons_zero, List.getElem_cons_succ, List.setIfInBounds_toArray, List.set_cons_zero, List.set_cons_succ])
        refine wpAnyH_done (by kernel_rfl) ?_ _
        refine NoPanic.normal ?_
        go_wp2
        go_roundw
        case rel => exact ⟨k + 1, m, by omega, by omega, by go_num, HN, HB, x4, x5⟩
        case measure => simp [intOf]; omega
    · obtain rfl : m = r := by
        have h1 := HM.out
        rw [List.take_of_length_le (by omega), HR.out] at h1
        cases h1
        rfl
      have e40 := x4.cell 0
      have f40 := x4.frozen 0
      have e50 := x5.cell 0
      have e41 := x4.cell 1
      have f41 := x4.frozen 1
      have e51 := x5.cell 1
      have e42 := x4.cell 2
      have f42 := x4.frozen 2
      have e52 := x5.cell 2
      have e43 := x4.cell 3
      have f43 := x4.frozen 3
      have e53 := x5.cell 3
      have e44 := x4.cell 4
      have f44 := x4.frozen 4
      have e54 := x5.cell 4
      have hbo := HB.out
      go_wp2
      refine bodyPost_ret (v := .agg #[.int .i64 m.f0, .int .i64 m.f1, .int .i64 m.f2, .int .i64 m.f3, .int .i64 m.f4]) (by simp [results, Try.results53, go_sem, *]) rfl ⟨rfl, by repeat (first | assumption | exact Below.refl _ _ | refine belowN ?_ _ | refine belowD ?_ | (refine Below.setCell ?_ (by first | (simp; done) | (simp; omega) | omega) _) | (refine Below.alloc ?_ (by first | (simp; done) | (simp; omega) | omega) _))⟩
end Go.Proofs.Ytoeognlfalbfkaa
