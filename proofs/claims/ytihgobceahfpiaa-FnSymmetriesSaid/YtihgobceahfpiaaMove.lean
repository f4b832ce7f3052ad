/- The walks of TurnChart, MirrorChart and MoveChart, the program's and the model's. No condition. -/
import Derived.Test.YtihgobceahfpiaaMoved
namespace Go.Proofs.Ytihgobceahfpiaa
open Go.RowKit

set_option maxRecDepth 100000 in
set_option maxHeartbeats 1000000 in
theorem implTurnChart_any (W H : Int) (A : Option Addr) (n c B : Nat) (xs : List Int) (w : World) (hR : Rd w B A n c xs) (hB : B ≤ w.heap.size) :
    Calls Try.prog 45 #[chartV W H (.slice A n c)] w (OutChart w (orZero (goodB W H xs) (H.toNat)) (orZero (goodB W H xs) (W.toNat)) (if (goodB W H xs) = true then turnL W.toNat H.toNat xs else []) (goodB W H xs)) := by
  have hb0 := Lib.hid (((Below.refl w.heap.size w).alloc (Nat.le_refl _) (.cells #[.int .i64 W, .int .i64 H, .slice A n c] 26)).alloc (by simp) (.cells #[.int .i64 0, .int .i64 0, .slice none 0 0] 26))
  have h' := Lib.hid ((hR.alloc hB (.cells #[.int .i64 W, .int .i64 H, .slice A n c] 26)).alloc (by simp; omega) (.cells #[.int .i64 0, .int .i64 0, .slice none 0 0] 26))
  have r0 := (Blk.new (w.alloc (.cells #[.int .i64 W, .int .i64 H, .slice A n c] 26)) #[.int .i64 0, .int .i64 0, .slice none 0 0] 26)
  have x0 := (Blk.new w #[.int .i64 W, .int .i64 H, .slice A n c] 26).alloc (.cells #[.int .i64 0, .int .i64 0, .slice none 0 0] 26)
  by_cases h : (goodB W H xs) = true
  · rw [if_pos h, h, orZero, orZero, if_pos rfl, if_pos rfl]
    have hg : goodB W H xs = true := h
    obtain ⟨m, k, rfl, rfl, m1, m8, k1, k8, hl, h64, hl1, _⟩ := good_nat hg
    have h64' : m * k ≤ 64 := Nat.mul_le_mul m8 k8
    simp only [Int.toNat_natCast]
    obtain rfl := hR.len
    obtain ⟨b, off, rfl, _, _⟩ := hR.cells (by omega)
    clear hR
    go_enter Try.func45, Try.ntmps45
    go_wp2_with fail
    refine (implIsChart_any m k _ _ c B xs _ h'.out (by simp; omega)).mono ?_
    rintro e w1 ⟨rfl, hb⟩
    have r1 := (r0.all hb).at_ (q := w.heap.size + 1) (by simp)
    have x1 := x0.all hb
    have R1 := h'.out.all hb (by simp; omega)
    have HB := Lib.hid (hb0.out.trans (hb.mono (by simp; omega)))
    have hsz := r1.lt
    have e0 := x1.cell 0
    have e1 := x1.cell 1
    have e2 := x1.cell 2
    clear hb r0 x0 h' hb0
    rw [hg]
    go_wp2_with fail
    refine (turned_any m k b off c B xs _ R1 (by omega) m1 m8 k8 hl h64').mono ?_
    rintro e w2 ⟨A2, c2, rfl, own, hb2⟩
    have r2 := r1.all hb2
    have HB2 := Lib.hid (HB.out.trans (hb2.mono (by omega)))
    have g0 := r2.cell 0
    have g1 := r2.cell 1
    have g2 := r2.cell 2
    have z0 := r2.frozen 0
    have z1 := r2.frozen 1
    have z2 := r2.frozen 2
    clear e0 e1 e2 hb2
    have F := fin3 (p := w.heap.size + 1) (a := .int .i64 (k)) (b := .int .i64 (m)) (c := .slice A2 (turnL m k xs).length c2) own (fun e => by have := (own.bd _ e).1; omega) HB2.out (by omega)
    go_wp2
    exact bodyPost_ret (v := .tuple #[chartV (k) (m) (.slice A2 (turnL m k xs).length c2), .bool true]) (by simp [results, Try.results45, go_sem, g0, g1, g2]) rfl ⟨A2, c2, rfl, F.1.mono (by omega), F.2⟩
  · rw [if_neg h, not_false h]
    have hg : goodB W H xs = false := not_false h
    go_enter Try.func45, Try.ntmps45
    go_wp2_with fail
    refine (implIsChart_any W H A n c B xs _ h'.out (by simp; omega)).mono ?_
    rintro e w1 ⟨rfl, hb⟩
    have r1 := (r0.all hb).at_ (q := w.heap.size + 1) (by simp)
    have HB := Lib.hid (hb0.out.trans (hb.mono (by simp; omega)))
    have g0 := r1.cell 0
    have g1 := r1.cell 1
    have g2 := r1.cell 2
    have z0 := r1.frozen 0
    have z1 := r1.frozen 1
    have z2 := r1.frozen 2
    clear hb r0
    rw [hg]
    go_wp2_with fail
    have F := fin3 (p := w.heap.size + 1) (a := .int .i64 0) (b := .int .i64 0) (c := .slice none 0 0) (Own.nil w1 w.heap.size) (by simp [Value.ownBlock]) HB.out (by omega)
    exact bodyPost_ret (v := .tuple #[chartV 0 0 (.slice none 0 0), .bool false]) (by simp [results, Try.results45, go_sem, g0, g1, g2]) rfl ⟨none, 0, rfl, F.1, F.2⟩
set_option maxRecDepth 100000 in
set_option maxHeartbeats 1000000 in
theorem specTurnChart_any (W H : Int) (A : Option Addr) (n c B : Nat) (xs : List Int) (w : World) (hR : Rd w B A n c xs) (hB : B ≤ w.heap.size) :
    Calls Try.prog 46 #[chartV W H (.slice A n c)] w (OutChart w (orZero (goodB W H xs) (H.toNat)) (orZero (goodB W H xs) (W.toNat)) (if (goodB W H xs) = true then turnL W.toNat H.toNat xs else []) (goodB W H xs)) := by
  have hb0 := Lib.hid (((Below.refl w.heap.size w).alloc (Nat.le_refl _) (.cells #[.int .i64 W, .int .i64 H, .slice A n c] 26)).alloc (by simp) (.cells #[.int .i64 0, .int .i64 0, .slice none 0 0] 26))
  have h' := Lib.hid ((hR.alloc hB (.cells #[.int .i64 W, .int .i64 H, .slice A n c] 26)).alloc (by simp; omega) (.cells #[.int .i64 0, .int .i64 0, .slice none 0 0] 26))
  have r0 := (Blk.new (w.alloc (.cells #[.int .i64 W, .int .i64 H, .slice A n c] 26)) #[.int .i64 0, .int .i64 0, .slice none 0 0] 26)
  have x0 := (Blk.new w #[.int .i64 W, .int .i64 H, .slice A n c] 26).alloc (.cells #[.int .i64 0, .int .i64 0, .slice none 0 0] 26)
  by_cases h : (goodB W H xs) = true
  · rw [if_pos h, h, orZero, orZero, if_pos rfl, if_pos rfl]
    have hg : goodB W H xs = true := h
    obtain ⟨m, k, rfl, rfl, m1, m8, k1, k8, hl, h64, hl1, _⟩ := good_nat hg
    have h64' : m * k ≤ 64 := Nat.mul_le_mul m8 k8
    simp only [Int.toNat_natCast]
    obtain rfl := hR.len
    obtain ⟨b, off, rfl, _, _⟩ := hR.cells (by omega)
    clear hR
    go_enter Try.func46, Try.ntmps46
    go_wp2_with fail
    refine (l2Good_any m k _ _ c B xs _ h'.out (by simp; omega)).mono ?_
    rintro e w1 ⟨rfl, hb⟩
    have r1 := (r0.all hb).at_ (q := w.heap.size + 1) (by simp)
    have x1 := x0.all hb
    have R1 := h'.out.all hb (by simp; omega)
    have HB := Lib.hid (hb0.out.trans (hb.mono (by simp; omega)))
    have hsz := r1.lt
    have e0 := x1.cell 0
    have e1 := x1.cell 1
    have e2 := x1.cell 2
    clear hb r0 x0 h' hb0
    rw [hg]
    go_wp2_with fail
    refine (l4Turn_any m k b off c B xs _ R1 (by omega) m8 k8 hl h64').mono ?_
    rintro e w2 ⟨A2, c2, rfl, own, hb2⟩
    have r2 := r1.all hb2
    have HB2 := Lib.hid (HB.out.trans (hb2.mono (by omega)))
    have g0 := r2.cell 0
    have g1 := r2.cell 1
    have g2 := r2.cell 2
    have z0 := r2.frozen 0
    have z1 := r2.frozen 1
    have z2 := r2.frozen 2
    clear e0 e1 e2 hb2
    have F := fin3 (p := w.heap.size + 1) (a := .int .i64 (k)) (b := .int .i64 (m)) (c := .slice A2 (turnL m k xs).length c2) own (fun e => by have := (own.bd _ e).1; omega) HB2.out (by omega)
    go_wp2
    exact bodyPost_ret (v := .tuple #[chartV (k) (m) (.slice A2 (turnL m k xs).length c2), .bool true]) (by simp [results, Try.results46, go_sem, g0, g1, g2]) rfl ⟨A2, c2, rfl, F.1.mono (by omega), F.2⟩
  · rw [if_neg h, not_false h]
    have hg : goodB W H xs = false := not_false h
    go_enter Try.func46, Try.ntmps46
    go_wp2_with fail
    refine (l2Good_any W H A n c B xs _ h'.out (by simp; omega)).mono ?_
    rintro e w1 ⟨rfl, hb⟩
    have r1 := (r0.all hb).at_ (q := w.heap.size + 1) (by simp)
    have HB := Lib.hid (hb0.out.trans (hb.mono (by simp; omega)))
    have g0 := r1.cell 0
    have g1 := r1.cell 1
    have g2 := r1.cell 2
    have z0 := r1.frozen 0
    have z1 := r1.frozen 1
    have z2 := r1.frozen 2
    clear hb r0
    rw [hg]
    go_wp2_with fail
    have F := fin3 (p := w.heap.size + 1) (a := .int .i64 0) (b := .int .i64 0) (c := .slice none 0 0) (Own.nil w1 w.heap.size) (by simp [Value.ownBlock]) HB.out (by omega)
    exact bodyPost_ret (v := .tuple #[chartV 0 0 (.slice none 0 0), .bool false]) (by simp [results, Try.results46, go_sem, g0, g1, g2]) rfl ⟨none, 0, rfl, F.1, F.2⟩
theorem turnX_len (W H : Int) (xs : List Int) : (if goodB W H xs = true then turnL W.toNat H.toNat xs else []).length ≤ 1048576 := by
  split
  · rename_i h
    obtain ⟨m, k, rfl, rfl, m1, m8, k1, k8, _⟩ := good_nat h
    have := Nat.mul_le_mul m8 k8
    have := Nat.mul_le_mul k8 m8
    simp only [Int.toNat_natCast]
    rw [turnL_len]
    omega
  · simp
set_option maxRecDepth 100000 in
set_option maxHeartbeats 1000000 in
theorem implMirrorChart_any (W H : Int) (A : Option Addr) (n c B : Nat) (xs : List Int) (w : World) (hR : Rd w B A n c xs) (hB : B ≤ w.heap.size) :
    Calls Try.prog 48 #[chartV W H (.slice A n c)] w (OutChart w (orZero (goodB W H xs) (W.toNat)) (orZero (goodB W H xs) (H.toNat)) (if (goodB W H xs) = true then mirrorL W.toNat H.toNat xs else []) (goodB W H xs)) := by
  have hb0 := Lib.hid (((Below.refl w.heap.size w).alloc (Nat.le_refl _) (.cells #[.int .i64 W, .int .i64 H, .slice A n c] 26)).alloc (by simp) (.cells #[.int .i64 0, .int .i64 0, .slice none 0 0] 26))
  have h' := Lib.hid ((hR.alloc hB (.cells #[.int .i64 W, .int .i64 H, .slice A n c] 26)).alloc (by simp; omega) (.cells #[.int .i64 0, .int .i64 0, .slice none 0 0] 26))
  have r0 := (Blk.new (w.alloc (.cells #[.int .i64 W, .int .i64 H, .slice A n c] 26)) #[.int .i64 0, .int .i64 0, .slice none 0 0] 26)
  have x0 := (Blk.new w #[.int .i64 W, .int .i64 H, .slice A n c] 26).alloc (.cells #[.int .i64 0, .int .i64 0, .slice none 0 0] 26)
  by_cases h : (goodB W H xs) = true
  · rw [if_pos h, h, orZero, orZero, if_pos rfl, if_pos rfl]
    have hg : goodB W H xs = true := h
    obtain ⟨m, k, rfl, rfl, m1, m8, k1, k8, hl, h64, hl1, _⟩ := good_nat hg
    have h64' : m * k ≤ 64 := Nat.mul_le_mul m8 k8
    simp only [Int.toNat_natCast]
    obtain rfl := hR.len
    obtain ⟨b, off, rfl, _, _⟩ := hR.cells (by omega)
    clear hR
    go_enter Try.func48, Try.ntmps48
    go_wp2_with fail
    refine (implIsChart_any m k _ _ c B xs _ h'.out (by simp; omega)).mono ?_
    rintro e w1 ⟨rfl, hb⟩
    have r1 := (r0.all hb).at_ (q := w.heap.size + 1) (by simp)
    have x1 := x0.all hb
    have R1 := h'.out.all hb (by simp; omega)
    have HB := Lib.hid (hb0.out.trans (hb.mono (by simp; omega)))
    have hsz := r1.lt
    have e0 := x1.cell 0
    have e1 := x1.cell 1
    have e2 := x1.cell 2
    clear hb r0 x0 h' hb0
    rw [hg]
    go_wp2_with fail
    refine (mirrored_any m k b off c B xs _ R1 (by omega) m1 m8 k1 k8 hl h64' hl1).mono ?_
    rintro e w2 ⟨A2, c2, rfl, own, hb2⟩
    have r2 := r1.all hb2
    have HB2 := Lib.hid (HB.out.trans (hb2.mono (by omega)))
    have g0 := r2.cell 0
    have g1 := r2.cell 1
    have g2 := r2.cell 2
    have z0 := r2.frozen 0
    have z1 := r2.frozen 1
    have z2 := r2.frozen 2
    clear e0 e1 e2 hb2
    have F := fin3 (p := w.heap.size + 1) (a := .int .i64 (m)) (b := .int .i64 (k)) (c := .slice A2 (mirrorL m k xs).length c2) own (fun e => by have := (own.bd _ e).1; omega) HB2.out (by omega)
    go_wp2
    exact bodyPost_ret (v := .tuple #[chartV (m) (k) (.slice A2 (mirrorL m k xs).length c2), .bool true]) (by simp [results, Try.results48, go_sem, g0, g1, g2]) rfl ⟨A2, c2, rfl, F.1.mono (by omega), F.2⟩
  · rw [if_neg h, not_false h]
    have hg : goodB W H xs = false := not_false h
    go_enter Try.func48, Try.ntmps48
    go_wp2_with fail
    refine (implIsChart_any W H A n c B xs _ h'.out (by simp; omega)).mono ?_
    rintro e w1 ⟨rfl, hb⟩
    have r1 := (r0.all hb).at_ (q := w.heap.size + 1) (by simp)
    have HB := Lib.hid (hb0.out.trans (hb.mono (by simp; omega)))
    have g0 := r1.cell 0
    have g1 := r1.cell 1
    have g2 := r1.cell 2
    have z0 := r1.frozen 0
    have z1 := r1.frozen 1
    have z2 := r1.frozen 2
    clear hb r0
    rw [hg]
    go_wp2_with fail
    have F := fin3 (p := w.heap.size + 1) (a := .int .i64 0) (b := .int .i64 0) (c := .slice none 0 0) (Own.nil w1 w.heap.size) (by simp [Value.ownBlock]) HB.out (by omega)
    exact bodyPost_ret (v := .tuple #[chartV 0 0 (.slice none 0 0), .bool false]) (by simp [results, Try.results48, go_sem, g0, g1, g2]) rfl ⟨none, 0, rfl, F.1, F.2⟩
set_option maxRecDepth 100000 in
set_option maxHeartbeats 1000000 in
theorem specMirrorChart_any (W H : Int) (A : Option Addr) (n c B : Nat) (xs : List Int) (w : World) (hR : Rd w B A n c xs) (hB : B ≤ w.heap.size) :
    Calls Try.prog 49 #[chartV W H (.slice A n c)] w (OutChart w (orZero (goodB W H xs) (W.toNat)) (orZero (goodB W H xs) (H.toNat)) (if (goodB W H xs) = true then mirrorL W.toNat H.toNat xs else []) (goodB W H xs)) := by
  have hb0 := Lib.hid (((Below.refl w.heap.size w).alloc (Nat.le_refl _) (.cells #[.int .i64 W, .int .i64 H, .slice A n c] 26)).alloc (by simp) (.cells #[.int .i64 0, .int .i64 0, .slice none 0 0] 26))
  have h' := Lib.hid ((hR.alloc hB (.cells #[.int .i64 W, .int .i64 H, .slice A n c] 26)).alloc (by simp; omega) (.cells #[.int .i64 0, .int .i64 0, .slice none 0 0] 26))
  have r0 := (Blk.new (w.alloc (.cells #[.int .i64 W, .int .i64 H, .slice A n c] 26)) #[.int .i64 0, .int .i64 0, .slice none 0 0] 26)
  have x0 := (Blk.new w #[.int .i64 W, .int .i64 H, .slice A n c] 26).alloc (.cells #[.int .i64 0, .int .i64 0, .slice none 0 0] 26)
  by_cases h : (goodB W H xs) = true
  · rw [if_pos h, h, orZero, orZero, if_pos rfl, if_pos rfl]
    have hg : goodB W H xs = true := h
    obtain ⟨m, k, rfl, rfl, m1, m8, k1, k8, hl, h64, hl1, _⟩ := good_nat hg
    have h64' : m * k ≤ 64 := Nat.mul_le_mul m8 k8
    simp only [Int.toNat_natCast]
    obtain rfl := hR.len
    obtain ⟨b, off, rfl, _, _⟩ := hR.cells (by omega)
    clear hR
    go_enter Try.func49, Try.ntmps49
    go_wp2_with fail
    refine (l2Good_any m k _ _ c B xs _ h'.out (by simp; omega)).mono ?_
    rintro e w1 ⟨rfl, hb⟩
    have r1 := (r0.all hb).at_ (q := w.heap.size + 1) (by simp)
    have x1 := x0.all hb
    have R1 := h'.out.all hb (by simp; omega)
    have HB := Lib.hid (hb0.out.trans (hb.mono (by simp; omega)))
    have hsz := r1.lt
    have e0 := x1.cell 0
    have e1 := x1.cell 1
    have e2 := x1.cell 2
    clear hb r0 x0 h' hb0
    rw [hg]
    go_wp2_with fail
    refine (l4Mirror_any m k b off c B xs _ R1 (by omega) m8 k8 hl h64').mono ?_
    rintro e w2 ⟨A2, c2, rfl, own, hb2⟩
    have r2 := r1.all hb2
    have HB2 := Lib.hid (HB.out.trans (hb2.mono (by omega)))
    have g0 := r2.cell 0
    have g1 := r2.cell 1
    have g2 := r2.cell 2
    have z0 := r2.frozen 0
    have z1 := r2.frozen 1
    have z2 := r2.frozen 2
    clear e0 e1 e2 hb2
    have F := fin3 (p := w.heap.size + 1) (a := .int .i64 (m)) (b := .int .i64 (k)) (c := .slice A2 (mirrorL m k xs).length c2) own (fun e => by have := (own.bd _ e).1; omega) HB2.out (by omega)
    go_wp2
    exact bodyPost_ret (v := .tuple #[chartV (m) (k) (.slice A2 (mirrorL m k xs).length c2), .bool true]) (by simp [results, Try.results49, go_sem, g0, g1, g2]) rfl ⟨A2, c2, rfl, F.1.mono (by omega), F.2⟩
  · rw [if_neg h, not_false h]
    have hg : goodB W H xs = false := not_false h
    go_enter Try.func49, Try.ntmps49
    go_wp2_with fail
    refine (l2Good_any W H A n c B xs _ h'.out (by simp; omega)).mono ?_
    rintro e w1 ⟨rfl, hb⟩
    have r1 := (r0.all hb).at_ (q := w.heap.size + 1) (by simp)
    have HB := Lib.hid (hb0.out.trans (hb.mono (by simp; omega)))
    have g0 := r1.cell 0
    have g1 := r1.cell 1
    have g2 := r1.cell 2
    have z0 := r1.frozen 0
    have z1 := r1.frozen 1
    have z2 := r1.frozen 2
    clear hb r0
    rw [hg]
    go_wp2_with fail
    have F := fin3 (p := w.heap.size + 1) (a := .int .i64 0) (b := .int .i64 0) (c := .slice none 0 0) (Own.nil w1 w.heap.size) (by simp [Value.ownBlock]) HB.out (by omega)
    exact bodyPost_ret (v := .tuple #[chartV 0 0 (.slice none 0 0), .bool false]) (by simp [results, Try.results49, go_sem, g0, g1, g2]) rfl ⟨none, 0, rfl, F.1, F.2⟩
theorem mirrorX_len (W H : Int) (xs : List Int) : (if goodB W H xs = true then mirrorL W.toNat H.toNat xs else []).length ≤ 1048576 := by
  split
  · rename_i h
    obtain ⟨m, k, rfl, rfl, m1, m8, k1, k8, _⟩ := good_nat h
    have := Nat.mul_le_mul m8 k8
    have := Nat.mul_le_mul k8 m8
    simp only [Int.toNat_natCast]
    rw [mirrorL_len]
    omega
  · simp
/-- A chart may be moved. -/
def moveOk (W H : Int) (xs : List Int) (s : Int) : Bool := goodB W H xs && isSymB s
def moveP (W H : Int) (xs : List Int) (s : Int) : Pic := (⟨W.toNat, H.toNat, xs⟩ : Pic).move s.toNat
theorem move_yes {W H : Int} {xs : List Int} {s : Int} (h : moveOk W H xs s = true) : goodB W H xs = true ∧ isSymB s = true := by simpa [moveOk] using h
theorem move_no {W H : Int} {xs : List Int} {s : Int} (h : ¬ moveOk W H xs s = true) : goodB W H xs = false ∨ (goodB W H xs = true ∧ isSymB s = false) := by
  simp only [moveOk] at h
  cases h1 : goodB W H xs <;> cases h2 : isSymB s <;> simp_all
theorem move_pic {m k : Nat} {xs : List Int} (hg : goodB m k xs = true) : (⟨m, k, xs⟩ : Pic).Ok := by
  obtain ⟨m', k', e1, e2, m1, m8, k1, k8, hl, _⟩ := good_nat hg
  obtain rfl : m = m' := by omega
  obtain rfl : k = k' := by omega
  exact ⟨m1, m8, k1, k8, hl.out⟩
set_option maxRecDepth 100000 in
set_option maxHeartbeats 1000000 in
theorem implMoveChart_any (W H : Int) (A : Option Addr) (n c B : Nat) (xs : List Int) (s : Int) (w : World) (hR : Rd w B A n c xs) (hB : B ≤ w.heap.size) :
    Calls Try.prog 29 #[chartV W H (.slice A n c), .int .i64 s] w (OutChart w (orZero (moveOk W H xs s) (((⟨W.toNat, H.toNat, xs⟩ : Pic).move s.toNat).m)) (orZero (moveOk W H xs s) (((⟨W.toNat, H.toNat, xs⟩ : Pic).move s.toNat).k)) (if (moveOk W H xs s) = true then ((⟨W.toNat, H.toNat, xs⟩ : Pic).move s.toNat).xs else []) (moveOk W H xs s)) := by
  have hb0 := Lib.hid (((Below.refl w.heap.size w).alloc (Nat.le_refl _) (.cells #[.int .i64 W, .int .i64 H, .slice A n c] 26)).alloc (by simp) (.cells #[.int .i64 0, .int .i64 0, .slice none 0 0] 26))
  have h' := Lib.hid ((hR.alloc hB (.cells #[.int .i64 W, .int .i64 H, .slice A n c] 26)).alloc (by simp; omega) (.cells #[.int .i64 0, .int .i64 0, .slice none 0 0] 26))
  have r0 := (Blk.new (w.alloc (.cells #[.int .i64 W, .int .i64 H, .slice A n c] 26)) #[.int .i64 0, .int .i64 0, .slice none 0 0] 26)
  have x0 := (Blk.new w #[.int .i64 W, .int .i64 H, .slice A n c] 26).alloc (.cells #[.int .i64 0, .int .i64 0, .slice none 0 0] 26)
  by_cases h : (moveOk W H xs s) = true
  · rw [if_pos h, h, orZero, orZero, if_pos rfl, if_pos rfl]
    obtain ⟨hg, hq⟩ := move_yes h
    obtain ⟨m, k, rfl, rfl, m1, m8, k1, k8, hl, h64, hl1, _⟩ := good_nat hg
    obtain ⟨s, rfl, hs7⟩ := isSymB_yes hq
    have hpok := move_pic hg
    simp only [Int.toNat_natCast]
    obtain rfl := hR.len
    obtain ⟨b, off, rfl, _, _⟩ := hR.cells (by omega)
    clear hR
    go_enter Try.func29, Try.ntmps29
    go_wp2_with fail
    refine (implIsChart_any m k _ _ c B xs _ h'.out (by simp; omega)).mono ?_
    rintro e w1 ⟨rfl, hb⟩
    have r1 := (r0.all hb).at_ (q := w.heap.size + 1) (by simp)
    have x1 := x0.all hb
    have R1 := h'.out.all hb (by simp; omega)
    have HB := Lib.hid (hb0.out.trans (hb.mono (by simp; omega)))
    have hsz := r1.lt
    have e0 := x1.cell 0
    have e1 := x1.cell 1
    have e2 := x1.cell 2
    clear hb r0 x0 h' hb0
    rw [hg]
    go_wp2_with (go_at_call 75; (with_reducible refine (isSymmetry_any _ _).mono ?_); rintro e w' ⟨rfl, rfl⟩)
    refine (movedBy_any m k b off c B s xs _ R1 (by omega) hpok hs7).mono ?_
    rintro e w2 ⟨A2, c2, rfl, own, hb2⟩
    have r2 := r1.all hb2
    have HB2 := Lib.hid (HB.out.trans (hb2.mono (by omega)))
    have g0 := r2.cell 0
    have g1 := r2.cell 1
    have g2 := r2.cell 2
    have z0 := r2.frozen 0
    have z1 := r2.frozen 1
    have z2 := r2.frozen 2
    clear e0 e1 e2 hb2
    have F := fin3 (p := w.heap.size + 1) (a := .int .i64 (((⟨m, k, xs⟩ : Pic).move s).m)) (b := .int .i64 (((⟨m, k, xs⟩ : Pic).move s).k)) (c := .slice A2 (((⟨m, k, xs⟩ : Pic).move s).xs).length c2) own (fun e => by have := (own.bd _ e).1; omega) HB2.out (by omega)
    go_wp2
    exact bodyPost_ret (v := .tuple #[chartV (((⟨m, k, xs⟩ : Pic).move s).m) (((⟨m, k, xs⟩ : Pic).move s).k) (.slice A2 (((⟨m, k, xs⟩ : Pic).move s).xs).length c2), .bool true]) (by simp [results, Try.results29, go_sem, g0, g1, g2]) rfl ⟨A2, c2, rfl, F.1.mono (by omega), F.2⟩
  · rw [if_neg h, not_false h]
    rcases move_no h with hg | ⟨hg, hq⟩
    all_goals
      go_enter Try.func29, Try.ntmps29
      go_wp2_with fail
      refine (implIsChart_any W H A n c B xs _ h'.out (by simp; omega)).mono ?_
      rintro e w1 ⟨rfl, hb⟩
      have r1 := (r0.all hb).at_ (q := w.heap.size + 1) (by simp)
      have HB := Lib.hid (hb0.out.trans (hb.mono (by simp; omega)))
      have g0 := r1.cell 0
      have g1 := r1.cell 1
      have g2 := r1.cell 2
      have z0 := r1.frozen 0
      have z1 := r1.frozen 1
      have z2 := r1.frozen 2
      clear hb r0
      rw [hg]
      go_wp2_with (go_at_call 75; (with_reducible refine (isSymmetry_any _ _).mono ?_); rintro e w' ⟨rfl, rfl⟩)
      have F := fin3 (p := w.heap.size + 1) (a := .int .i64 0) (b := .int .i64 0) (c := .slice none 0 0) (Own.nil w1 w.heap.size) (by simp [Value.ownBlock]) HB.out (by omega)
      exact bodyPost_ret (v := .tuple #[chartV 0 0 (.slice none 0 0), .bool false]) (by simp [results, Try.results29, go_sem, g0, g1, g2]) rfl ⟨none, 0, rfl, F.1, F.2⟩
set_option maxRecDepth 100000 in
set_option maxHeartbeats 1000000 in
theorem specMoveChart_any (W H : Int) (A : Option Addr) (n c B : Nat) (xs : List Int) (s : Int) (w : World) (hR : Rd w B A n c xs) (hB : B ≤ w.heap.size) :
    Calls Try.prog 30 #[chartV W H (.slice A n c), .int .i64 s] w (OutChart w (orZero (moveOk W H xs s) (((⟨W.toNat, H.toNat, xs⟩ : Pic).move s.toNat).m)) (orZero (moveOk W H xs s) (((⟨W.toNat, H.toNat, xs⟩ : Pic).move s.toNat).k)) (if (moveOk W H xs s) = true then ((⟨W.toNat, H.toNat, xs⟩ : Pic).move s.toNat).xs else []) (moveOk W H xs s)) := by
  have hb0 := Lib.hid (((Below.refl w.heap.size w).alloc (Nat.le_refl _) (.cells #[.int .i64 W, .int .i64 H, .slice A n c] 26)).alloc (by simp) (.cells #[.int .i64 0, .int .i64 0, .slice none 0 0] 26))
  have h' := Lib.hid ((hR.alloc hB (.cells #[.int .i64 W, .int .i64 H, .slice A n c] 26)).alloc (by simp; omega) (.cells #[.int .i64 0, .int .i64 0, .slice none 0 0] 26))
  have r0 := (Blk.new (w.alloc (.cells #[.int .i64 W, .int .i64 H, .slice A n c] 26)) #[.int .i64 0, .int .i64 0, .slice none 0 0] 26)
  have x0 := (Blk.new w #[.int .i64 W, .int .i64 H, .slice A n c] 26).alloc (.cells #[.int .i64 0, .int .i64 0, .slice none 0 0] 26)
  by_cases h : (moveOk W H xs s) = true
  · rw [if_pos h, h, orZero, orZero, if_pos rfl, if_pos rfl]
    obtain ⟨hg, hq⟩ := move_yes h
    obtain ⟨m, k, rfl, rfl, m1, m8, k1, k8, hl, h64, hl1, _⟩ := good_nat hg
    obtain ⟨s, rfl, hs7⟩ := isSymB_yes hq
    have hpok := move_pic hg
    simp only [Int.toNat_natCast]
    obtain rfl := hR.len
    obtain ⟨b, off, rfl, _, _⟩ := hR.cells (by omega)
    clear hR
    go_enter Try.func30, Try.ntmps30
    go_wp2_with fail
    refine (l2Good_any m k _ _ c B xs _ h'.out (by simp; omega)).mono ?_
    rintro e w1 ⟨rfl, hb⟩
    have r1 := (r0.all hb).at_ (q := w.heap.size + 1) (by simp)
    have x1 := x0.all hb
    have R1 := h'.out.all hb (by simp; omega)
    have HB := Lib.hid (hb0.out.trans (hb.mono (by simp; omega)))
    have hsz := r1.lt
    have e0 := x1.cell 0
    have e1 := x1.cell 1
    have e2 := x1.cell 2
    clear hb r0 x0 h' hb0
    rw [hg]
    go_wp2_with (go_at_call 79; (with_reducible refine (l4Symmetry_any _ _).mono ?_); rintro e w' ⟨rfl, rfl⟩)
    refine (l4Move_any m k b off c B s xs _ R1 (by omega) hpok hs7).mono ?_
    rintro e w2 ⟨A2, c2, rfl, own, hb2⟩
    have r2 := r1.all hb2
    have HB2 := Lib.hid (HB.out.trans (hb2.mono (by omega)))
    have g0 := r2.cell 0
    have g1 := r2.cell 1
    have g2 := r2.cell 2
    have z0 := r2.frozen 0
    have z1 := r2.frozen 1
    have z2 := r2.frozen 2
    clear e0 e1 e2 hb2
    have F := fin3 (p := w.heap.size + 1) (a := .int .i64 (((⟨m, k, xs⟩ : Pic).move s).m)) (b := .int .i64 (((⟨m, k, xs⟩ : Pic).move s).k)) (c := .slice A2 (((⟨m, k, xs⟩ : Pic).move s).xs).length c2) own (fun e => by have := (own.bd _ e).1; omega) HB2.out (by omega)
    go_wp2
    exact bodyPost_ret (v := .tuple #[chartV (((⟨m, k, xs⟩ : Pic).move s).m) (((⟨m, k, xs⟩ : Pic).move s).k) (.slice A2 (((⟨m, k, xs⟩ : Pic).move s).xs).length c2), .bool true]) (by simp [results, Try.results30, go_sem, g0, g1, g2]) rfl ⟨A2, c2, rfl, F.1.mono (by omega), F.2⟩
  · rw [if_neg h, not_false h]
    rcases move_no h with hg | ⟨hg, hq⟩
    all_goals
      go_enter Try.func30, Try.ntmps30
      go_wp2_with fail
      refine (l2Good_any W H A n c B xs _ h'.out (by simp; omega)).mono ?_
      rintro e w1 ⟨rfl, hb⟩
      have r1 := (r0.all hb).at_ (q := w.heap.size + 1) (by simp)
      have HB := Lib.hid (hb0.out.trans (hb.mono (by simp; omega)))
      have g0 := r1.cell 0
      have g1 := r1.cell 1
      have g2 := r1.cell 2
      have z0 := r1.frozen 0
      have z1 := r1.frozen 1
      have z2 := r1.frozen 2
      clear hb r0
      rw [hg]
      go_wp2_with (go_at_call 79; (with_reducible refine (l4Symmetry_any _ _).mono ?_); rintro e w' ⟨rfl, rfl⟩)
      have F := fin3 (p := w.heap.size + 1) (a := .int .i64 0) (b := .int .i64 0) (c := .slice none 0 0) (Own.nil w1 w.heap.size) (by simp [Value.ownBlock]) HB.out (by omega)
      exact bodyPost_ret (v := .tuple #[chartV 0 0 (.slice none 0 0), .bool false]) (by simp [results, Try.results30, go_sem, g0, g1, g2]) rfl ⟨none, 0, rfl, F.1, F.2⟩
theorem moveX_len (W H : Int) (xs : List Int) (s : Int) : (if moveOk W H xs s = true then ((⟨W.toNat, H.toNat, xs⟩ : Pic).move s.toNat).xs else []).length ≤ 1048576 := by
  split
  · rename_i h
    obtain ⟨hg, hq⟩ := move_yes h
    obtain ⟨m, k, rfl, rfl, _⟩ := good_nat hg
    have := ((move_pic hg).move s.toNat).len.1
    simp only [Int.toNat_natCast]
    omega
  · simp
end Go.Proofs.Ytihgobceahfpiaa
