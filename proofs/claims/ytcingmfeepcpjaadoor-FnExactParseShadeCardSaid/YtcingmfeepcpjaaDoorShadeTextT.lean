/- The walks of ShadeText, the program's and the model's. Condition: the library's table stands as its text says. -/
import Derived.Test.YtcingmfeepcpjaaDoorShade
import Derived.Test.YtcingmfeepcpjaaDoorFormatT
import Derived.BigQuiet
namespace Go.Proofs.YtcingmfeepcpjaaDoor
open Go.RowKit

def shadeT (s : ShadeR) : ByteArray := numB s.f0 ++ ⟨#[32]⟩ ++ s.f1 ++ ⟨#[32, 97, 116, 32]⟩ ++ numB s.f2 ++ ⟨#[44, 32, 100, 101, 112, 116, 104, 32]⟩ ++ numB s.f3 ++ ⟨#[44, 32, 102, 97, 115, 116, 32]⟩ ++ numB s.f4
def shadeV (s : ShadeR) : ByteArray := if shadeB s = true then shadeT s else ⟨#[]⟩
theorem shadeB_bd {s : ShadeR} (h : shadeB s = true) : (1 ≤ s.f0 ∧ s.f0 ≤ 99) ∧ s.f1.size ≤ 10 ∧ (0 ≤ s.f2 ∧ s.f2 ≤ 23) ∧ (0 ≤ s.f3 ∧ s.f3 ≤ 9) ∧ (1 ≤ s.f4 ∧ s.f4 ≤ 8) := by
  simp only [shadeB, Bool.and_eq_true] at h
  obtain ⟨⟨⟨⟨h0, h1⟩, h2⟩, h3⟩, h4⟩ := h
  refine ⟨by simpa [inB] using h0, ?_, by simpa [inB] using h2, by simpa [inB] using h3, by simpa [inB] using h4⟩
  simp only [wordB, Bool.and_eq_true, decide_eq_true_eq] at h1
  omega
theorem itoa_any (n : Int) (w : World) (h0 : -999999 ≤ n) (h1 : n ≤ 999999) (ht : Tab w) : Calls Tryd.prog 24 #[.int .i64 n] w fun e w' => e = .returned (.string (numB n)) ∧ Below w.heap.size w w' := by
  refine (Tryd.strconv_Itoa n (by omega) (by omega) w ht.tab).mono ?_
  rintro e w' ⟨rfl, k, os, rfl⟩
  exact ⟨rfl, below_grow _ _ _⟩

set_option maxRecDepth 100000 in
set_option maxHeartbeats 2000000 in
theorem l3Text_any (s : ShadeR) (w : World) (h : shadeB s = true) : Calls Tryd.prog 10 #[.agg #[.int .i64 s.f0, .string s.f1, .int .i64 s.f2, .int .i64 s.f3, .int .i64 s.f4]] w (Out w (.string (shadeT s))) := by
  obtain ⟨⟨a0, a1⟩, b1, ⟨c0, c1⟩, ⟨d0, d1⟩, ⟨e0, e1⟩⟩ := shadeB_bd h
  have s0 := numB_size s.f0 (by omega) (by omega)
  have s2 := numB_size s.f2 (by omega) (by omega)
  have s3 := numB_size s.f3 (by omega) (by omega)
  have s4 := numB_size s.f4 (by omega) (by omega)
  have hb0 := Lib.hid (show Below w.heap.size w (w.alloc (.cells #[.int .i64 s.f0, .string s.f1, .int .i64 s.f2, .int .i64 s.f3, .int .i64 s.f4] 23)) from (Below.refl _ _).alloc (Nat.le_refl _) _)
  go_enter Tryd.func10, Tryd.ntmps10
  go_wp2
  go_quiet ((go_at_call 16; exact Calls.quiet_of (l1Num_any _ (by omega) (by omega) _)))
  go_wp2
  go_ret
  exact ⟨rfl, belowN hb0.out _⟩
theorem shadeV_no {s : ShadeR} (h : shadeB s = false) : shadeV s = ⟨#[]⟩ := by unfold shadeV; rw [h]; rfl
theorem shadeV_yes {s : ShadeR} (h : shadeB s = true) : shadeV s = shadeT s := by unfold shadeV; rw [if_pos h]
set_option maxRecDepth 100000 in
set_option maxHeartbeats 8000000 in
theorem implShadeText_any (s : ShadeR) (w : World) (hm : s.f1.size ≤ maxLen) (ht : Tab w) : Calls Tryd.prog 13 #[.agg #[.int .i64 s.f0, .string s.f1, .int .i64 s.f2, .int .i64 s.f3, .int .i64 s.f4]] w (Out w (.tuple #[.string (shadeV s), .bool (shadeB s)])) := by
  have hb0 := (show Below w.heap.size w (w.alloc (.cells #[.int .i64 s.f0, .string s.f1, .int .i64 s.f2, .int .i64 s.f3, .int .i64 s.f4] 23)) from (Below.refl _ _).alloc (Nat.le_refl _) _)
  have HT := ht.below hb0 rfl
  have x0 := Blk.new w #[.int .i64 s.f0, .string s.f1, .int .i64 s.f2, .int .i64 s.f3, .int .i64 s.f4] 23
  obtain ⟨d, hd⟩ : ∃ d, shadeB s = d := ⟨_, rfl⟩
  have hone := implIsShade_any s (w.alloc (.cells #[.int .i64 s.f0, .string s.f1, .int .i64 s.f2, .int .i64 s.f3, .int .i64 s.f4] 23)) hm
  rw [hd] at hone
  go_enter Tryd.func13, Tryd.ntmps13
  go_wp2_with fail
  refine hone.mono ?_
  rintro e w1 ⟨rfl, hb⟩
  have y := x0.all hb
  have HB := hb0.trans (hb.mono (by simp))
  replace HT := HT.below hb rfl
  clear hone hb x0 hb0
  cases d
  · go_wp2
    go_ret2
    exact ⟨by rw [shadeV_no hd, hd]; rfl, HB⟩
  · have HD := Lib.hid hd
    obtain ⟨⟨a0, a1⟩, b1, ⟨c0, c1⟩, ⟨d0, d1⟩, ⟨e0, e1⟩⟩ := shadeB_bd hd
    have s0 := numB_size s.f0 (by omega) (by omega)
    have s2 := numB_size s.f2 (by omega) (by omega)
    have s3 := numB_size s.f3 (by omega) (by omega)
    have s4 := numB_size s.f4 (by omega) (by omega)
    have hIt : Hid (∀ (n : Int) (w : World), -999999 ≤ n → n ≤ 999999 → Tab w → Calls Tryd.prog 24 #[.int .i64 n] w fun e w' => e = .returned (.string (numB n)) ∧ Below w.heap.size w w') := Lib.hid fun n w h0 h1 ht => itoa_any n w h0 h1 ht
    have y0 := y.cell 0
    have y1 := y.cell 1
    have y2 := y.cell 2
    have y3 := y.cell 3
    have y4 := y.cell 4
    have HTd : Tab w1.drew := HT.below (belowD (Below.refl _ w1)) rfl
    generalize hP : w.heap.size = P at *
    go_wp2
    clear y0 y1 y2 y3 y4
    have hPz : P ≤ w1.heap.size := by have := HB.size; omega
    refine wp_region_noPanic ?_
    refine wp_region_held_drew (S := (fun w' => w'.cell? ⟨P, 0, none⟩ = some (.int .i64 s.f0) ∧ w'.cell? ⟨P, 1, none⟩ = some (.string s.f1) ∧ w'.cell? ⟨P, 2, none⟩ = some (.int .i64 s.f2) ∧ w'.cell? ⟨P, 3, none⟩ = some (.int .i64 s.f3) ∧ w'.cell? ⟨P, 4, none⟩ = some (.int .i64 s.f4))) (by kernel_rfl) (by exact ⟨y.cell 0, y.cell 1, y.cell 2, y.cell 3, y.cell 4⟩) (fun hHeld => ?_)
    refine wpAnyH_take (i := 0) (v := ?_) rfl (by kernel_rfl) (by kernel_rfl) (by kernel_rfl) (fun _ _ _ h => h) (Or.inl ⟨by rfl, ?_⟩) (by assumption) ?_
    rotate_left
    · intro w hSw; (try dsimp only at hSw); go_simp; (try with_reducible rfl)
    (try simp only [Act.put, List.getElem_toArray, List.getElem_cons_zero, List.setIfInBounds_toArray, List.set_cons_zero, List.set_cons_succ])
    refine wpAnyH_take (i := 1) (v := ?_) rfl (by kernel_rfl) (by kernel_rfl) (by kernel_rfl) (fun _ _ _ h => h) (Or.inl ⟨by rfl, ?_⟩) (by assumption) ?_
    rotate_left
    · intro w hSw; (try dsimp only at hSw); go_simp; (try with_reducible rfl)
    (try simp only [Act.put, List.getElem_toArray, List.getElem_cons_zero, List.getElem_cons_succ, List.setIfInBounds_toArray, List.set_cons_zero, List.set_cons_succ])
    refine wpAnyH_take (i := 4) (v := ?_) rfl (by kernel_rfl) (by kernel_rfl) (by kernel_rfl) (fun _ _ _ h => h) (Or.inl ⟨by rfl, ?_⟩) (by assumption) ?_
    rotate_left
    · intro w hSw; (try dsimp only at hSw); go_simp; (try with_reducible rfl)
    (try simp only [Act.put, List.getElem_toArray, List.getElem_cons_zero, List.getElem_cons_succ, List.setIfInBounds_toArray, List.set_cons_zero, List.set_cons_succ])
    refine wpAnyH_take (i := 5) (v := ?_) rfl (by kernel_rfl) (by kernel_rfl) (by kernel_rfl) (fun _ _ _ h => h) (Or.inl ⟨by rfl, ?_⟩) (by assumption) ?_
    rotate_left
    · intro w hSw; (try dsimp only at hSw); go_simp; (try with_reducible rfl)
    (try simp only [Act.put, List.getElem_toArray, List.getElem_cons_zero, List.getElem_cons_succ, List.setIfInBounds_toArray, List.set_cons_zero, List.set_cons_succ])
    refine wpAnyH_take (i := 8) (v := ?_) rfl (by kernel_rfl) (by kernel_rfl) (by kernel_rfl) (fun _ _ _ h => h) (Or.inl ⟨by rfl, ?_⟩) (by assumption) ?_
    rotate_left
    · intro w hSw; (try dsimp only at hSw); go_simp; (try with_reducible rfl)
    (try simp only [Act.put, List.getElem_toArray, List.getElem_cons_zero, List.getElem_cons_succ, List.setIfInBounds_toArray, List.set_cons_zero, List.set_cons_succ])
    refine wpAnyH_take (i := 9) (v := ?_) rfl (by kernel_rfl) (by kernel_rfl) (by kernel_rfl) (fun _ _ _ h => h) (Or.inl ⟨by rfl, ?_⟩) (by assumption) ?_
    rotate_left
    · intro w hSw; (try dsimp only at hSw); go_simp; (try with_reducible rfl)
    (try simp only [Act.put, List.getElem_toArray, List.getElem_cons_zero, List.getElem_cons_succ, List.setIfInBounds_toArray, List.set_cons_zero, List.set_cons_succ])
    refine wpAnyH_take (i := 13) (v := ?_) rfl (by kernel_rfl) (by kernel_rfl) (by kernel_rfl) (fun _ _ _ h => h) (Or.inl ⟨by rfl, ?_⟩) (by assumption) ?_
    rotate_left
    · intro w hSw; (try dsimp only at hSw); go_simp; (try with_reducible rfl)
    (try simp only [Act.put, List.getElem_toArray, List.getElem_cons_zero, List.getElem_cons_succ, List.setIfInBounds_toArray, List.set_cons_zero, List.set_cons_succ])
    refine wpAnyH_take (i := 14) (v := ?_) rfl (by kernel_rfl) (by kernel_rfl) (by kernel_rfl) (fun _ _ _ h => h) (Or.inl ⟨by rfl, ?_⟩) (by assumption) ?_
    rotate_left
    · intro w hSw; (try dsimp only at hSw); go_simp; (try with_reducible rfl)
    (try simp only [Act.put, List.getElem_toArray, List.getElem_cons_zero, List.getElem_cons_succ, List.setIfInBounds_toArray, List.set_cons_zero, List.set_cons_succ])
    refine wpAnyH_take (i := 18) (v := ?_) rfl (by kernel_rfl) (by kernel_rfl) (by kernel_rfl) (fun _ _ _ h => h) (Or.inl ⟨by rfl, ?_⟩) (by assumption) ?_
    rotate_left
    · intro w hSw; (try dsimp only at hSw); go_simp; (try with_reducible rfl)
    (try simp only [Act.put, List.getElem_toArray, List.getElem_cons_zero, List.getElem_cons_succ, List.setIfInBounds_toArray, List.set_cons_zero, List.set_cons_succ])
    refine wpAnyH_take (i := 19) (v := ?_) rfl (by kernel_rfl) (by kernel_rfl) (by kernel_rfl) (fun _ _ _ h => h) (Or.inl ⟨by rfl, ?_⟩) (by assumption) ?_
    rotate_left
    · intro w hSw; (try dsimp only at hSw); go_simp; (try with_reducible rfl)
    (try simp only [Act.put, List.getElem_toArray, List.getElem_cons_zero, List.getElem_cons_succ, List.setIfInBounds_toArray, List.set_cons_zero, List.set_cons_succ])
    refine wpAnyH_ready (rs := [2]) (by kernel_rfl) (by simp) ?_
    refine AllReadyH.cons rfl (fun K hK => ?_) AllReadyH.nil
    go_simp
    refine (hIt.out _ _ (by omega) (by omega) HTd).mono ?_; rintro e w2 ⟨rfl, hb⟩; (try replace hb := below_drew' hb); replace y := y.all hb; replace HT := HT.below hb rfl; replace HTd := HT; replace HB := HB.trans (hb.mono hPz); replace hPz := Nat.le_trans hPz hb.size
    refine hK.out _ _ (by exact ⟨y.cell 0, y.cell 1, y.cell 2, y.cell 3, y.cell 4⟩) (fun hHeld => ?_)
    clear hK K
    (try simp only [Act.put, List.getElem_toArray, List.getElem_cons_zero, List.getElem_cons_succ, List.setIfInBounds_toArray, List.set_cons_zero, List.set_cons_succ])
    refine wpAnyH_take (i := 3) (v := ?_) rfl (by kernel_rfl) (by kernel_rfl) (by kernel_rfl) (fun _ _ _ h => h) (Or.inl ⟨by rfl, ?_⟩) (by assumption) ?_
    rotate_left
    · intro w hSw; (try dsimp only at hSw); go_simp; rw [if_neg (by first | omega | (simp; omega))]
    (try simp only [Act.put, List.getElem_toArray, List.getElem_cons_zero, List.getElem_cons_succ, List.setIfInBounds_toArray, List.set_cons_zero, List.set_cons_succ])
    refine wpAnyH_take (i := 6) (v := ?_) rfl (by kernel_rfl) (by kernel_rfl) (by kernel_rfl) (fun _ _ _ h => h) (Or.inl ⟨by rfl, ?_⟩) (by assumption) ?_
    rotate_left
    · intro w hSw; (try dsimp only at hSw); go_simp; rw [if_neg (by first | omega | (simp; omega))]
    (try simp only [Act.put, List.getElem_toArray, List.getElem_cons_zero, List.getElem_cons_succ, List.setIfInBounds_toArray, List.set_cons_zero, List.set_cons_succ])
    refine wpAnyH_take (i := 7) (v := ?_) rfl (by kernel_rfl) (by kernel_rfl) (by kernel_rfl) (fun _ _ _ h => h) (Or.inl ⟨by rfl, ?_⟩) (by assumption) ?_
    rotate_left
    · intro w hSw; (try dsimp only at hSw); go_simp; rw [if_neg (by first | omega | (simp; omega))]
    (try simp only [Act.put, List.getElem_toArray, List.getElem_cons_zero, List.getElem_cons_succ, List.setIfInBounds_toArray, List.set_cons_zero, List.set_cons_succ])
    refine wpAnyH_ready (rs := [10]) (by kernel_rfl) (by simp) ?_
    refine AllReadyH.cons rfl (fun K hK => ?_) AllReadyH.nil
    go_simp
    refine (hIt.out _ _ (by omega) (by omega) HTd).mono ?_; rintro e w2 ⟨rfl, hb⟩; (try replace hb := below_drew' hb); replace y := y.all hb; replace HT := HT.below hb rfl; replace HTd := HT; replace HB := HB.trans (hb.mono hPz); replace hPz := Nat.le_trans hPz hb.size
    refine hK.out _ _ (by exact ⟨y.cell 0, y.cell 1, y.cell 2, y.cell 3, y.cell 4⟩) (fun hHeld => ?_)
    clear hK K
    (try simp only [Act.put, List.getElem_toArray, List.getElem_cons_zero, List.getElem_cons_succ, List.setIfInBounds_toArray, List.set_cons_zero, List.set_cons_succ])
    refine wpAnyH_take (i := 11) (v := ?_) rfl (by kernel_rfl) (by kernel_rfl) (by kernel_rfl) (fun _ _ _ h => h) (Or.inl ⟨by rfl, ?_⟩) (by assumption) ?_
    rotate_left
    · intro w hSw; (try dsimp only at hSw); go_simp; rw [if_neg (by first | omega | (simp; omega))]
    (try simp only [Act.put, List.getElem_toArray, List.getElem_cons_zero, List.getElem_cons_succ, List.setIfInBounds_toArray, List.set_cons_zero, List.set_cons_succ])
    refine wpAnyH_take (i := 12) (v := ?_) rfl (by kernel_rfl) (by kernel_rfl) (by kernel_rfl) (fun _ _ _ h => h) (Or.inl ⟨by rfl, ?_⟩) (by assumption) ?_
    rotate_left
    · intro w hSw; (try dsimp only at hSw); go_simp; rw [if_neg (by first | omega | (simp; omega))]
    (try simp only [Act.put, List.getElem_toArray, List.getElem_cons_zero, List.getElem_cons_succ, List.setIfInBounds_toArray, List.set_cons_zero, List.set_cons_succ])
    refine wpAnyH_ready (rs := [15]) (by kernel_rfl) (by simp) ?_
    refine AllReadyH.cons rfl (fun K hK => ?_) AllReadyH.nil
    go_simp
    refine (hIt.out _ _ (by omega) (by omega) HTd).mono ?_; rintro e w2 ⟨rfl, hb⟩; (try replace hb := below_drew' hb); replace y := y.all hb; replace HT := HT.below hb rfl; replace HTd := HT; replace HB := HB.trans (hb.mono hPz); replace hPz := Nat.le_trans hPz hb.size
    refine hK.out _ _ (by exact ⟨y.cell 0, y.cell 1, y.cell 2, y.cell 3, y.cell 4⟩) (fun hHeld => ?_)
    clear hK K
    (try simp only [Act.put, List.getElem_toArray, List.getElem_cons_zero, List.getElem_cons_succ, List.setIfInBounds_toArray, List.set_cons_zero, List.set_cons_succ])
    refine wpAnyH_take (i := 16) (v := ?_) rfl (by kernel_rfl) (by kernel_rfl) (by kernel_rfl) (fun _ _ _ h => h) (Or.inl ⟨by rfl, ?_⟩) (by assumption) ?_
    rotate_left
    · intro w hSw; (try dsimp only at hSw); go_simp; rw [if_neg (by first | omega | (simp; omega))]
    (try simp only [Act.put, List.getElem_toArray, List.getElem_cons_zero, List.getElem_cons_succ, List.setIfInBounds_toArray, List.set_cons_zero, List.set_cons_succ])
    refine wpAnyH_take (i := 17) (v := ?_) rfl (by kernel_rfl) (by kernel_rfl) (by kernel_rfl) (fun _ _ _ h => h) (Or.inl ⟨by rfl, ?_⟩) (by assumption) ?_
    rotate_left
    · intro w hSw; (try dsimp only at hSw); go_simp; rw [if_neg (by first | omega | (simp; omega))]
    (try simp only [Act.put, List.getElem_toArray, List.getElem_cons_zero, List.getElem_cons_succ, List.setIfInBounds_toArray, List.set_cons_zero, List.set_cons_succ])
    refine wpAnyH_ready (rs := [20]) (by kernel_rfl) (by simp) ?_
    refine AllReadyH.cons rfl (fun K hK => ?_) AllReadyH.nil
    go_simp
    refine (hIt.out _ _ (by omega) (by omega) HTd).mono ?_; rintro e w2 ⟨rfl, hb⟩; (try replace hb := below_drew' hb); replace y := y.all hb; replace HT := HT.below hb rfl; replace HTd := HT; replace HB := HB.trans (hb.mono hPz); replace hPz := Nat.le_trans hPz hb.size
    refine hK.out _ _ (by exact ⟨y.cell 0, y.cell 1, y.cell 2, y.cell 3, y.cell 4⟩) (fun hHeld => ?_)
    clear hK K
    (try simp only [Act.put, List.getElem_toArray, List.getElem_cons_zero, List.getElem_cons_succ, List.setIfInBounds_toArray, List.set_cons_zero, List.set_cons_succ])
    refine wpAnyH_take (i := 21) (v := ?_) rfl (by kernel_rfl) (by kernel_rfl) (by kernel_rfl) (fun _ _ _ h => h) (Or.inl ⟨by rfl, ?_⟩) (by assumption) ?_
    rotate_left
    · intro w hSw; (try dsimp only at hSw); go_simp; rw [if_neg (by first | omega | (simp; omega))]
    (try simp only [Act.put, List.getElem_toArray, List.getElem_cons_zero, List.getElem_cons_succ, List.setIfInBounds_toArray, List.set_cons_zero, List.set_cons_succ])
    refine wpAnyH_take (i := 22) (v := ?_) rfl (by kernel_rfl) (by kernel_rfl) (by kernel_rfl) (fun _ _ _ h => h) (Or.inl ⟨by rfl, ?_⟩) (by assumption) ?_
    rotate_left
    · intro w hSw; (try dsimp only at hSw); go_simp; (try with_reducible rfl)
    (try simp only [Act.put, List.getElem_toArray, List.getElem_cons_zero, List.getElem_cons_succ, List.setIfInBounds_toArray, List.set_cons_zero, List.set_cons_succ])
    refine wpAnyH_done (by kernel_rfl) ?_ _
    refine NoPanic.normal ?_
    go_wp2
    go_ret2
    exact ⟨by rw [shadeV_yes HD.out, HD.out]; rfl, hP ▸ HB⟩
end Go.Proofs.YtcingmfeepcpjaaDoor
