/- The sheet with the most right knots: as data, the closure that compares, and the walk of the library's MaxFunc over sheets. Condition: one sheet at least, few and valid ones. -/
import Derived.Test.YtnpojmaipndpmaaWages
import Derived.RegionTactic
import Derived.BigRegion
namespace Go.Proofs.Ytnpojmaipndpmaa
open Go.RowKit

def betterS (a m : WorkSheetR) : Bool := decide (m.f2 - m.f3 < a.f2 - a.f3)
def stepS (o : Option WorkSheetR) (a : WorkSheetR) : Option WorkSheetR := match o with | none => some a | some m => if betterS a m = true then some a else some m
/-- The best of a list: the first one that none is better than. -/
def bestS (xs : List WorkSheetR) : Option WorkSheetR := xs.foldl stepS none
section
variable {xs : List WorkSheetR} {k : Nat} {a m : WorkSheetR}
theorem take_more {xs : List WorkSheetR} {k : Nat} {a : WorkSheetR} (h : xs[k]? = some a) : xs.take (k + 1) = xs.take k ++ [a] := by
  obtain ⟨hk, rfl⟩ := List.getElem?_eq_some_iff.1 h
  exact List.take_succ_eq_append_getElem hk
theorem best_snoc (l : List WorkSheetR) (a : WorkSheetR) : bestS (l ++ [a]) = stepS (bestS l) a := by unfold bestS; rw [List.foldl_append]; rfl
theorem best_first (h : bestS xs = none) : bestS (xs ++ [a]) = some a := by rw [best_snoc, h]; rfl
theorem best_turn (h : bestS xs = some m) (hb : betterS a m = true) : bestS (xs ++ [a]) = some a := by rw [best_snoc, h]; exact if_pos hb
theorem best_stay (h : bestS xs = some m) (hb : betterS a m = false) : bestS (xs ++ [a]) = some m := by rw [best_snoc, h]; exact if_neg (by rw [hb]; decide)
theorem bestS_in : ∀ (xs : List WorkSheetR) (o : Option WorkSheetR) (m : WorkSheetR), xs.foldl stepS o = some m → m ∈ xs ∨ o = some m := by
  intro xs
  induction xs with
  | nil => intro o m h; exact Or.inr h
  | cons x xs ih =>
    intro o m h
    rcases ih _ _ h with h1 | h1
    · exact Or.inl (List.mem_cons_of_mem _ h1)
    · unfold stepS at h1
      cases o with
      | none => cases h1; exact Or.inl List.mem_cons_self
      | some p =>
        simp only at h1
        split at h1
        · cases h1; exact Or.inl List.mem_cons_self
        · exact Or.inr h1
theorem bestS_mem (h : bestS xs = some m) : m ∈ xs := by
  rcases bestS_in _ _ _ h with h1 | h1
  · exact h1
  · cases h1
theorem bestS_some : ∀ (xs : List WorkSheetR) (o : Option WorkSheetR), (xs ≠ [] ∨ o ≠ none) → ∃ m, xs.foldl stepS o = some m := by
  intro xs
  induction xs with
  | nil =>
    intro o h
    cases o with
    | none => rcases h with h | h <;> exact absurd rfl h
    | some m => exact ⟨m, rfl⟩
  | cons x xs ih =>
    intro o _
    refine ih _ (Or.inr ?_)
    unfold stepS
    cases o with
    | none => simp
    | some m => simp only; split <;> simp
end
set_option maxRecDepth 100000 in
set_option maxHeartbeats 4000000 in
theorem bestClo_any (s t : WorkSheetR) (q : Int) (w : World) (hs : Knotty s) (ht : Knotty t) (hq : Lib.compareInt (s.f2 - s.f3) (t.f2 - t.f3) = q) :
    Calls Try.prog 32 #[.agg #[.int .i64 s.f0, .int .i64 s.f1, .int .i64 s.f2, .int .i64 s.f3, .int .i64 s.f4], .agg #[.int .i64 t.f0, .int .i64 t.f1, .int .i64 t.f2, .int .i64 t.f3, .int .i64 t.f4]] w (Out w (.int .i64 q)) := by
  obtain ⟨u, hu⟩ : ∃ u, s.f2 - s.f3 = u := ⟨_, rfl⟩
  obtain ⟨v, hv⟩ : ∃ v, t.f2 - t.f3 = v := ⟨_, rfl⟩
  rw [hu, hv] at hq
  have K1 := Lib.hid (fun w => right_eq s u w hs hu)
  have K2 := Lib.hid (fun w => right_eq t v w ht hv)
  have K3 := Lib.hid (fun w => cmp_eq u v q w hq)
  clear hs ht hu hv hq
  have y0 := (Blk.new w #[.int .i64 s.f0, .int .i64 s.f1, .int .i64 s.f2, .int .i64 s.f3, .int .i64 s.f4] 33).alloc (.cells #[.int .i64 t.f0, .int .i64 t.f1, .int .i64 t.f2, .int .i64 t.f3, .int .i64 t.f4] 33)
  have y1 := Blk.new (w.alloc (.cells #[.int .i64 s.f0, .int .i64 s.f1, .int .i64 s.f2, .int .i64 s.f3, .int .i64 s.f4] 33)) #[.int .i64 t.f0, .int .i64 t.f1, .int .i64 t.f2, .int .i64 t.f3, .int .i64 t.f4] 33
  rw [show (w.alloc (.cells #[.int .i64 s.f0, .int .i64 s.f1, .int .i64 s.f2, .int .i64 s.f3, .int .i64 s.f4] 33)).heap.size = w.heap.size + 1 by simp] at y1
  have HB := Lib.hid (show Below w.heap.size w ((w.alloc (.cells #[.int .i64 s.f0, .int .i64 s.f1, .int .i64 s.f2, .int .i64 s.f3, .int .i64 s.f4] 33)).alloc (.cells #[.int .i64 t.f0, .int .i64 t.f1, .int .i64 t.f2, .int .i64 t.f3, .int .i64 t.f4] 33)) by repeat (first | assumption | exact Below.refl _ _ | refine belowN ?_ _ | refine belowD ?_ | (refine Below.setCell ?_ (by first | (simp; done) | (simp; omega) | omega) _) | (refine Below.alloc ?_ (by first | (simp; done) | (simp; omega) | omega) _)))
  go_enter Try.func32, Try.ntmps32
  go_wp2
  generalize (w.alloc (.cells #[.int .i64 s.f0, .int .i64 s.f1, .int .i64 s.f2, .int .i64 s.f3, .int .i64 s.f4] 33)).alloc (.cells #[.int .i64 t.f0, .int .i64 t.f1, .int .i64 t.f2, .int .i64 t.f3, .int .i64 t.f4] 33) = w2 at *
  obtain ⟨Q0, hQ0⟩ : ∃ Q0, w.heap.size = Q0 := ⟨_, rfl⟩
  obtain ⟨Q1, hQ1⟩ : ∃ Q1, Q0 + 1 = Q1 := ⟨_, rfl⟩
  rw [hQ0] at y0 y1 ⊢
  rw [hQ1] at y1 ⊢
  clear hQ1
  go_region_held3 (fun w' => w'.cell? ⟨Q0, 0, none⟩ = some (.int .i64 s.f0) ∧ w'.cell? ⟨Q0, 1, none⟩ = some (.int .i64 s.f1) ∧ w'.cell? ⟨Q0, 2, none⟩ = some (.int .i64 s.f2) ∧ w'.cell? ⟨Q0, 3, none⟩ = some (.int .i64 s.f3) ∧ w'.cell? ⟨Q0, 4, none⟩ = some (.int .i64 s.f4) ∧ w'.cell? ⟨Q1, 0, none⟩ = some (.int .i64 t.f0) ∧ w'.cell? ⟨Q1, 1, none⟩ = some (.int .i64 t.f1) ∧ w'.cell? ⟨Q1, 2, none⟩ = some (.int .i64 t.f2) ∧ w'.cell? ⟨Q1, 3, none⟩ = some (.int .i64 t.f3) ∧ w'.cell? ⟨Q1, 4, none⟩ = some (.int .i64 t.f4)) (first | exact ⟨y0.cell 0, y0.cell 1, y0.cell 2, y0.cell 3, y0.cell 4, y1.cell 0, y1.cell 1, y1.cell 2, y1.cell 3, y1.cell 4⟩ | go_keep) (first | (go_at_call 33; (with_reducible refine (K1.out _).mono ?_); rintro e w5 ⟨rfl, hb5⟩; (try replace hb5 := below_drew' hb5); replace y0 := y0.all hb5; replace y1 := y1.all hb5; replace HB := Lib.hid (HB.out.trans (hb5.mono HB.out.size))) | (go_at_call 33; (with_reducible refine (K2.out _).mono ?_); rintro e w5 ⟨rfl, hb5⟩; (try replace hb5 := below_drew' hb5); replace y0 := y0.all hb5; replace y1 := y1.all hb5; replace HB := Lib.hid (HB.out.trans (hb5.mono HB.out.size))) | (go_at_call 23; (with_reducible refine (K3.out _).mono ?_); rintro e w5 ⟨rfl, rfl⟩))
  all_goals
    go_wp2
    go_ret
    exact ⟨rfl, by subst hQ0; have hbo := HB.out; repeat (first | assumption | exact Below.refl _ _ | refine belowN ?_ _ | refine belowD ?_ | (refine Below.setCell ?_ (by first | (simp; done) | (simp; omega) | omega) _) | (refine Below.alloc ?_ (by first | (simp; done) | (simp; omega) | omega) _))⟩
set_option maxRecDepth 100000 in
set_option maxHeartbeats 4000000 in
theorem maxRight_any (b off n c B : Nat) (xs : List WorkSheetR) (w : World) (h : RdF workSheetF w B (some ⟨b, off, none⟩) n c xs) (hB : B ≤ w.heap.size) (hn0 : 0 < n) (hn8 : n ≤ 1000) (hS : AllS xs) (r : WorkSheetR) (hr : bestS xs = some r) :
    Calls Try.prog 31 #[.slice (some ⟨b, off, none⟩) n c, .func (.func 32) #[] #[]] w (Out w (.agg #[.int .i64 r.f0, .int .i64 r.f1, .int .i64 r.f2, .int .i64 r.f3, .int .i64 r.f4])) := by
  have hcap := h.cap
  have hmx := h.max
  obtain rfl := h.len
  have HR := Lib.hid hr
  have HS := Lib.hid hS
  clear hr hS
  have y4 := Blk.new w #[.int .i64 0, .int .i64 0, .int .i64 0, .int .i64 0, .int .i64 0] 33
  have HB0 : Below w.heap.size w (w.alloc (.cells #[.int .i64 0, .int .i64 0, .int .i64 0, .int .i64 0, .int .i64 0] 33)) := (Below.refl _ _).alloc (Nat.le_refl _) _
  obtain ⟨_, _, a0, e0, hbB, ha0, HX0, hc0, hc1, hc2, hc3, hc4⟩ := WorkSheetR_at (F := workSheetF) rfl (fun _ => rfl) (fun _ => rfl) (h.alloc hB (.cells #[.int .i64 0, .int .i64 0, .int .i64 0, .int .i64 0, .int .i64 0] 33)) hn0
  cases e0
  simp only [Nat.zero_mul, Nat.add_zero] at hc0 hc1 hc2 hc3 hc4
  have y5 := Blk.new (w.alloc (.cells #[.int .i64 0, .int .i64 0, .int .i64 0, .int .i64 0, .int .i64 0] 33)) #[.int .i64 a0.f0, .int .i64 a0.f1, .int .i64 a0.f2, .int .i64 a0.f3, .int .i64 a0.f4] 33
  rw [show (w.alloc (.cells #[.int .i64 0, .int .i64 0, .int .i64 0, .int .i64 0, .int .i64 0] 33)).heap.size = w.heap.size + 1 by simp] at y5
  replace y4 := y4.alloc (.cells #[.int .i64 a0.f0, .int .i64 a0.f1, .int .i64 a0.f2, .int .i64 a0.f3, .int .i64 a0.f4] 33)
  replace HB0 := HB0.alloc (by simp) (.cells #[.int .i64 a0.f0, .int .i64 a0.f1, .int .i64 a0.f2, .int .i64 a0.f3, .int .i64 a0.f4] 33)
  have H1 := Lib.hid (show bestS (xs.take 1) = some a0 by rw [show xs.take 1 = [] ++ [a0] by rw [take_more HX0.out]; rfl]; exact best_first rfl)
  go_enter Try.func31, Try.ntmps31
  go_wp2
  clear hc0 hc1 hc2 hc3 hc4
  generalize (w.alloc (.cells #[.int .i64 0, .int .i64 0, .int .i64 0, .int .i64 0, .int .i64 0] 33)).alloc (.cells #[.int .i64 a0.f0, .int .i64 a0.f1, .int .i64 a0.f2, .int .i64 a0.f3, .int .i64 a0.f4] 33) = w0 at *
  go_loopw [6] (fun i wr => ∃ (k : Nat) (m : WorkSheetR), 1 ≤ k ∧ k ≤ xs.length ∧ i = .int .i64 k ∧ Hid (bestS (xs.take k) = some m) ∧ Hid (Below w.heap.size w wr) ∧ Blk wr w.heap.size 33 #[.int .i64 0, .int .i64 0, .int .i64 0, .int .i64 0, .int .i64 0] ∧ Blk wr (w.heap.size + 1) 33 #[.int .i64 m.f0, .int .i64 m.f1, .int .i64 m.f2, .int .i64 m.f3, .int .i64 m.f4]) (fun i _ => xs.length - (intOf i).toNat)
  case atStart => exact ⟨1, a0, Nat.le_refl _, hn0, rfl, H1, HB0, y4, y5⟩
  case round =>
    obtain ⟨k, m, hk1, hk, rfl, HM, HB, x4, x5⟩ := hrel
    have hzr := HB.out.size
    by_cases hlt : k < xs.length
    · obtain ⟨_, _, a, e0, hbB, ha, HX, hx0, hx1, hx2, hx3, hx4⟩ := WorkSheetR_at (F := workSheetF) rfl (fun _ => rfl) (fun _ => rfl) (h.below HB.out hB) hlt
      cases e0
      have hka := sheet_knotty (allS_at HS.out HX.out)
      have hkm := sheet_knotty (HS.out m (List.mem_of_mem_take (bestS_mem HM.out)))
      have hbz : b < wr.heap.size := by omega
      have hz5 := x5.lt
      have hk0 : (0 : Int) ≤ (k : Int) := by omega
      have hkn : (k : Int) < (xs.length : Int) := by omega
      obtain ⟨q, hq⟩ : ∃ q, Lib.compareInt (a.f2 - a.f3) (m.f2 - m.f3) = q := ⟨_, rfl⟩
      obtain ⟨P5, hP5⟩ : ∃ P5, w.heap.size + 1 = P5 := ⟨_, rfl⟩
      have hz6 : b < P5 := by omega
      have hz7 : w.heap.size < P5 := by omega
      rw [hP5] at x5 hz5 ⊢
      clear hP5
      have e50 := x5.cell 0
      have e51 := x5.cell 1
      have e52 := x5.cell 2
      have e53 := x5.cell 3
      have e54 := x5.cell 4
      by_cases hbt : 0 < q
      · have HN := Lib.hid (show bestS (xs.take (k + 1)) = some a by
          rw [take_more HX.out]
          exact best_turn HM.out (by
            have h5 : m.f2 - m.f3 < a.f2 - a.f3 := by unfold Lib.compareInt at hq; split at hq <;> (try split at hq) <;> omega
            simp [betterS, h5]))
        have hbt' : decide (0 < q) = true := decide_eq_true hbt
        clear hbt
        go_wp2
        refine wp_region_noPanic ?_
        refine wp_region_held_drew (S := (fun w' => w'.cell? ⟨b, off + k * 5, none⟩ = some (.int .i64 a.f0) ∧ w'.cell? ⟨b, off + k * 5 + 1, none⟩ = some (.int .i64 a.f1) ∧ w'.cell? ⟨b, off + k * 5 + 2, none⟩ = some (.int .i64 a.f2) ∧ w'.cell? ⟨b, off + k * 5 + 3, none⟩ = some (.int .i64 a.f3) ∧ w'.cell? ⟨b, off + k * 5 + 4, none⟩ = some (.int .i64 a.f4) ∧ w'.cell? ⟨P5, 0, none⟩ = some (.int .i64 m.f0) ∧ w'.cell? ⟨P5, 1, none⟩ = some (.int .i64 m.f1) ∧ w'.cell? ⟨P5, 2, none⟩ = some (.int .i64 m.f2) ∧ w'.cell? ⟨P5, 3, none⟩ = some (.int .i64 m.f3) ∧ w'.cell? ⟨P5, 4, none⟩ = some (.int .i64 m.f4))) (by kernel_rfl) (by exact ⟨hx0, hx1, hx2, hx3, hx4, x5.cell 0, x5.cell 1, x5.cell 2, x5.cell 3, x5.cell 4⟩) (fun hHeld => ?_)
        refine wpAnyH_take (i := 0) (v := ?_) rfl (by kernel_rfl) (by kernel_rfl) (by kernel_rfl) (fun _ _ _ h => h) (Or.inl ⟨by rfl, ?_⟩) (by assumption) ?_
        rotate_left
        · intro w hSw; (try dsimp only at hSw); go_simp; (try with_reducible rfl)
        (try simp only [Act.put, List.getElem_toArray, List.getElem_cons_zero, List.setIfInBounds_toArray, List.set_cons_zero, List.set_cons_succ])
        refine wpAnyH_take (i := 1) (v := ?_) rfl (by kernel_rfl) (by kernel_rfl) (by kernel_rfl) (fun _ _ _ h => h) (Or.inl ⟨by rfl, ?_⟩) (by assumption) ?_
        rotate_left
        · intro w hSw; (try dsimp only at hSw); go_simp; (try with_reducible rfl)
        (try simp only [Act.put, List.getElem_toArray, List.getElem_cons_zero, List.getElem_cons_succ, List.setIfInBounds_toArray, List.set_cons_zero, List.set_cons_succ])
        refine wpAnyH_take (i := 2) (v := ?_) rfl (by kernel_rfl) (by kernel_rfl) (by kernel_rfl) (fun _ _ _ h => h) (Or.inl ⟨by rfl, ?_⟩) (by assumption) ?_
        rotate_left
        · intro w hSw; (try dsimp only at hSw); go_simp; (try with_reducible rfl)
        (try simp only [Act.put, List.getElem_toArray, List.getElem_cons_zero, List.getElem_cons_succ, List.setIfInBounds_toArray, List.set_cons_zero, List.set_cons_succ])
        refine wpAnyH_take (i := 3) (v := ?_) rfl (by kernel_rfl) (by kernel_rfl) (by kernel_rfl) (fun _ _ _ h => h) (Or.inl ⟨by rfl, ?_⟩) (by assumption) ?_
        rotate_left
        · intro w hSw; (try dsimp only at hSw); go_simp; (try with_reducible rfl)
        (try simp only [Act.put, List.getElem_toArray, List.getElem_cons_zero, List.getElem_cons_succ, List.setIfInBounds_toArray, List.set_cons_zero, List.set_cons_succ])
        refine wpAnyH_take (i := 4) (v := ?_) rfl (by kernel_rfl) (by kernel_rfl) (by kernel_rfl) (fun _ _ _ h => h) (Or.inl ⟨by rfl, ?_⟩) (by assumption) ?_
        rotate_left
        · intro w hSw; (try dsimp only at hSw); go_simp; (try with_reducible rfl)
        (try simp only [Act.put, List.getElem_toArray, List.getElem_cons_zero, List.getElem_cons_succ, List.setIfInBounds_toArray, List.set_cons_zero, List.set_cons_succ])
        refine wpAnyH_take (i := 5) (v := ?_) rfl (by kernel_rfl) (by kernel_rfl) (by kernel_rfl) (fun _ _ _ h => h) (Or.inl ⟨by rfl, ?_⟩) (by assumption) ?_
        rotate_left
        · intro w hSw; (try dsimp only at hSw); go_simp; (try with_reducible rfl)
        (try simp only [Act.put, List.getElem_toArray, List.getElem_cons_zero, List.getElem_cons_succ, List.setIfInBounds_toArray, List.set_cons_zero, List.set_cons_succ])
        refine wpAnyH_ready (rs := [6]) (by kernel_rfl) (by simp) ?_
        refine AllReadyH.cons rfl (fun K hK => ?_) AllReadyH.nil
        go_simp
        ((with_reducible refine (bestClo_any a m q _ hka hkm hq).mono ?_); rintro e w5 ⟨rfl, hb5⟩; (try replace hb5 := below_drew' hb5); replace x5 := x5.all hb5; replace x4 := x4.all hb5; replace HB := Lib.hid (HB.out.trans (hb5.mono HB.out.size)); replace hx0 := cells_of hb5 hx0 hbz; replace hx1 := cells_of hb5 hx1 hbz; replace hx2 := cells_of hb5 hx2 hbz; replace hx3 := cells_of hb5 hx3 hbz; replace hx4 := cells_of hb5 hx4 hbz; replace hbz := Nat.lt_of_lt_of_le hbz hb5.size; clear hb5; go_simp)
        refine hK.out _ _ (by exact ⟨hx0, hx1, hx2, hx3, hx4, x5.cell 0, x5.cell 1, x5.cell 2, x5.cell 3, x5.cell 4⟩) (fun hHeld => ?_)
        clear hK K
        (try simp only [Act.put, List.getElem_toArray, List.getElem_cons_zero, List.getElem_cons_succ, List.setIfInBounds_toArray, List.set_cons_zero, List.set_cons_succ])
        refine wpAnyH_take (i := 7) (v := ?_) rfl (by kernel_rfl) (by kernel_rfl) (by kernel_rfl) (fun _ _ _ h => h) (Or.inl ⟨by rfl, ?_⟩) (by assumption) ?_
        rotate_left
        · intro w hSw; (try dsimp only at hSw); go_simp; (try with_reducible rfl)
        (try simp only [Act.put, List.getElem_toArray, List.getElem_cons_zero, List.getElem_cons_succ, List.setIfInBounds_toArray, List.set_cons_zero, List.set_cons_succ])
        refine wpAnyH_done (by kernel_rfl) ?_ _
        refine NoPanic.normal ?_
        clear e50 e51 e52 e53 e54
        have e50 := x5.cell 0
        have e51 := x5.cell 1
        have e52 := x5.cell 2
        have e53 := x5.cell 3
        have e54 := x5.cell 4
        have f50 := x5.frozen 0
        have f51 := x5.frozen 1
        have f52 := x5.frozen 2
        have f53 := x5.frozen 3
        have f54 := x5.frozen 4
        have hzo := HB.out.size
        have hbo := HB.out
        go_wp2
        go_roundw
        case rel =>
          refine ⟨k + 1, a, by omega, by omega, by go_num, HN, Lib.hid (by repeat (first | assumption | exact Below.refl _ _ | refine belowN ?_ _ | refine belowD ?_ | (refine Below.setCell ?_ (by first | (simp; done) | (simp; omega) | omega) _) | (refine Below.alloc ?_ (by first | (simp; done) | (simp; omega) | omega) _))), ?_, ?_⟩
          · exact ((((x4.far (a := ⟨P5, 0, none⟩) (show w.heap.size ≠ P5 by omega) _).far (a := ⟨P5, 1, none⟩) (show w.heap.size ≠ P5 by omega) _).far (a := ⟨P5, 2, none⟩) (show w.heap.size ≠ P5 by omega) _).far (a := ⟨P5, 3, none⟩) (show w.heap.size ≠ P5 by omega) _).far (a := ⟨P5, 4, none⟩) (show w.heap.size ≠ P5 by omega) _
          · exact ((((x5.set_ 0 (.int .i64 a.f0)).set_ 1 (.int .i64 a.f1)).set_ 2 (.int .i64 a.f2)).set_ 3 (.int .i64 a.f3)).set_ 4 (.int .i64 a.f4)
        case measure => simp [intOf]; omega
      · have HN := Lib.hid (show bestS (xs.take (k + 1)) = some m by
          rw [take_more HX.out]
          exact best_stay HM.out (by
            have h5 : ¬ m.f2 - m.f3 < a.f2 - a.f3 := by unfold Lib.compareInt at hq; split at hq <;> (try split at hq) <;> omega
            simp [betterS, h5]))
        have hbt' : decide (0 < q) = false := decide_eq_false hbt
        clear hbt
        go_wp2
        refine wp_region_noPanic ?_
        refine wp_region_held_drew (S := (fun w' => w'.cell? ⟨b, off + k * 5, none⟩ = some (.int .i64 a.f0) ∧ w'.cell? ⟨b, off + k * 5 + 1, none⟩ = some (.int .i64 a.f1) ∧ w'.cell? ⟨b, off + k * 5 + 2, none⟩ = some (.int .i64 a.f2) ∧ w'.cell? ⟨b, off + k * 5 + 3, none⟩ = some (.int .i64 a.f3) ∧ w'.cell? ⟨b, off + k * 5 + 4, none⟩ = some (.int .i64 a.f4) ∧ w'.cell? ⟨P5, 0, none⟩ = some (.int .i64 m.f0) ∧ w'.cell? ⟨P5, 1, none⟩ = some (.int .i64 m.f1) ∧ w'.cell? ⟨P5, 2, none⟩ = some (.int .i64 m.f2) ∧ w'.cell? ⟨P5, 3, none⟩ = some (.int .i64 m.f3) ∧ w'.cell? ⟨P5, 4, none⟩ = some (.int .i64 m.f4))) (by kernel_rfl) (by exact ⟨hx0, hx1, hx2, hx3, hx4, x5.cell 0, x5.cell 1, x5.cell 2, x5.cell 3, x5.cell 4⟩) (fun hHeld => ?_)
        refine wpAnyH_take (i := 0) (v := ?_) rfl (by kernel_rfl) (by kernel_rfl) (by kernel_rfl) (fun _ _ _ h => h) (Or.inl ⟨by rfl, ?_⟩) (by assumption) ?_
        rotate_left
        · intro w hSw; (try dsimp only at hSw); go_simp; (try with_reducible rfl)
        (try simp only [Act.put, List.getElem_toArray, List.getElem_cons_zero, List.setIfInBounds_toArray, List.set_cons_zero, List.set_cons_succ])
        refine wpAnyH_take (i := 1) (v := ?_) rfl (by kernel_rfl) (by kernel_rfl) (by kernel_rfl) (fun _ _ _ h => h) (Or.inl ⟨by rfl, ?_⟩) (by assumption) ?_
        rotate_left
        · intro w hSw; (try dsimp only at hSw); go_simp; (try with_reducible rfl)
        (try simp only [Act.put, List.getElem_toArray, List.getElem_cons_zero, List.getElem_cons_succ, List.setIfInBounds_toArray, List.set_cons_zero, List.set_cons_succ])
        refine wpAnyH_take (i := 2) (v := ?_) rfl (by kernel_rfl) (by kernel_rfl) (by kernel_rfl) (fun _ _ _ h => h) (Or.inl ⟨by rfl, ?_⟩) (by assumption) ?_
        rotate_left
        · intro w hSw; (try dsimp only at hSw); go_simp; (try with_reducible rfl)
        (try simp only [Act.put, List.getElem_toArray, List.getElem_cons_zero, List.getElem_cons_succ, List.setIfInBounds_toArray, List.set_cons_zero, List.set_cons_succ])
        refine wpAnyH_take (i := 3) (v := ?_) rfl (by kernel_rfl) (by kernel_rfl) (by kernel_rfl) (fun _ _ _ h => h) (Or.inl ⟨by rfl, ?_⟩) (by assumption) ?_
        rotate_left
        · intro w hSw; (try dsimp only at hSw); go_simp; (try with_reducible rfl)
        (try simp only [Act.put, List.getElem_toArray, List.getElem_cons_zero, List.getElem_cons_succ, List.setIfInBounds_toArray, List.set_cons_zero, List.set_cons_succ])
        refine wpAnyH_take (i := 4) (v := ?_) rfl (by kernel_rfl) (by kernel_rfl) (by kernel_rfl) (fun _ _ _ h => h) (Or.inl ⟨by rfl, ?_⟩) (by assumption) ?_
        rotate_left
        · intro w hSw; (try dsimp only at hSw); go_simp; (try with_reducible rfl)
        (try simp only [Act.put, List.getElem_toArray, List.getElem_cons_zero, List.getElem_cons_succ, List.setIfInBounds_toArray, List.set_cons_zero, List.set_cons_succ])
        refine wpAnyH_take (i := 5) (v := ?_) rfl (by kernel_rfl) (by kernel_rfl) (by kernel_rfl) (fun _ _ _ h => h) (Or.inl ⟨by rfl, ?_⟩) (by assumption) ?_
        rotate_left
        · intro w hSw; (try dsimp only at hSw); go_simp; (try with_reducible rfl)
        (try simp only [Act.put, List.getElem_toArray, List.getElem_cons_zero, List.getElem_cons_succ, List.setIfInBounds_toArray, List.set_cons_zero, List.set_cons_succ])
        refine wpAnyH_ready (rs := [6]) (by kernel_rfl) (by simp) ?_
        refine AllReadyH.cons rfl (fun K hK => ?_) AllReadyH.nil
        go_simp
        ((with_reducible refine (bestClo_any a m q _ hka hkm hq).mono ?_); rintro e w5 ⟨rfl, hb5⟩; (try replace hb5 := below_drew' hb5); replace x5 := x5.all hb5; replace x4 := x4.all hb5; replace HB := Lib.hid (HB.out.trans (hb5.mono HB.out.size)); replace hx0 := cells_of hb5 hx0 hbz; replace hx1 := cells_of hb5 hx1 hbz; replace hx2 := cells_of hb5 hx2 hbz; replace hx3 := cells_of hb5 hx3 hbz; replace hx4 := cells_of hb5 hx4 hbz; replace hbz := Nat.lt_of_lt_of_le hbz hb5.size; clear hb5; go_simp)
        refine hK.out _ _ (by exact ⟨hx0, hx1, hx2, hx3, hx4, x5.cell 0, x5.cell 1, x5.cell 2, x5.cell 3, x5.cell 4⟩) (fun hHeld => ?_)
        clear hK K
        (try simp only [Act.put, List.getElem_toArray, List.getElem_cons_zero, List.getElem_cons_succ, List.setIfInBounds_toArray, List.set_cons_zero, List.set_cons_succ])
        refine wpAnyH_take (i := 7) (v := ?_) rfl (by kernel_rfl) (by kernel_rfl) (by kernel_rfl) (fun _ _ _ h => h) (Or.inl ⟨by rfl, ?_⟩) (by assumption) ?_
        rotate_left
        · intro w hSw; (try dsimp only at hSw); go_simp; (try with_reducible rfl)
        (try simp only [Act.put, List.getElem_toArray, List.getElem_cons_zero, List.getElem_cons_succ, List.setIfInBounds_toArray, List.set_cons_zero, List.set_cons_succ])
        refine wpAnyH_done (by kernel_rfl) ?_ _
        refine NoPanic.normal ?_
        go_wp2
        go_roundw
        case rel => exact ⟨k + 1, m, by omega, by omega, by go_num, HN, HB, x4, x5⟩
        case measure => simp [intOf]; omega
    · obtain rfl : m = r := by
        have h1 := HM.out
        rw [List.take_of_length_le (by omega), HR.out] at h1
        cases h1
        rfl
      have e40 := x4.cell 0
      have f40 := x4.frozen 0
      have e50 := x5.cell 0
      have e41 := x4.cell 1
      have f41 := x4.frozen 1
      have e51 := x5.cell 1
      have e42 := x4.cell 2
      have f42 := x4.frozen 2
      have e52 := x5.cell 2
      have e43 := x4.cell 3
      have f43 := x4.frozen 3
      have e53 := x5.cell 3
      have e44 := x4.cell 4
      have f44 := x4.frozen 4
      have e54 := x5.cell 4
      have hbo := HB.out
      go_wp2
      refine bodyPost_ret (v := .agg #[.int .i64 m.f0, .int .i64 m.f1, .int .i64 m.f2, .int .i64 m.f3, .int .i64 m.f4]) (by simp [results, Try.results31, go_sem, *]) rfl ⟨rfl, by repeat (first | assumption | exact Below.refl _ _ | refine belowN ?_ _ | refine belowD ?_ | (refine Below.setCell ?_ (by first | (simp; done) | (simp; omega) | omega) _) | (refine Below.alloc ?_ (by first | (simp; done) | (simp; omega) | omega) _))⟩
end Go.Proofs.Ytnpojmaipndpmaa
