/- The walks of the model's CompleteChart and FewestChanges. No condition. -/
import Derived.Test.YtihgobceahfpiaaCompSpec
namespace Go.Proofs.Ytihgobceahfpiaa
open Go.RowKit

set_option maxRecDepth 100000 in
set_option maxHeartbeats 1000000 in
theorem l4Asked_eq (W H : Int) (A : Option Addr) (n c B : Nat) (xs : List Int) (s : Int) (w : World) (hR : Rd w B A n c xs) (hB : B ≤ w.heap.size) (d : Bool) (hd : compOk W H xs s = d) :
    Calls Try.prog 84 #[chartV W H (.slice A n c), .int .i64 s] w (Out w (.bool d)) := by
  have hb0 := Lib.hid ((Below.refl w.heap.size w).alloc (Nat.le_refl _) (.cells #[.int .i64 W, .int .i64 H, .slice A n c] 26))
  have h' := Lib.hid (hR.alloc hB (.cells #[.int .i64 W, .int .i64 H, .slice A n c] 26))
  have x0 := Blk.new w #[.int .i64 W, .int .i64 H, .slice A n c] 26
  have HD := Lib.hid hd
  clear hR hd
  by_cases hg : goodB W H xs = true
  · by_cases hq : isSymB s = true
    · obtain ⟨m, k, rfl, rfl, m1, m8, k1, k8, hl, h64, hl1, _⟩ := good_nat hg
      obtain ⟨t, rfl, ht7⟩ := isSymB_yes hq
      have hr : Int.tmod (t : Int) 2 = ((t % 2 : Nat) : Int) := by rw [Int.tmod_eq_emod_of_nonneg (by omega)]; omega
      by_cases h2 : t % 2 = 0
      · have HV := Lib.hid (show d = true by rw [← HD.out]; simp [compOk, hg, hq, keepsB, h2])
        rw [h2] at hr
        go_enter Try.func84, Try.ntmps84
        go_wp2_with fail
        refine (l2Good_any m k A n c B xs _ h'.out (by simp; omega)).mono ?_
        rintro e w1 ⟨rfl, hb⟩
        have HB := Lib.hid (hb0.out.trans (hb.mono (by simp)))
        have x1 := x0.all hb
        have e0 := x1.cell 0
        have e1 := x1.cell 1
        rw [hg]
        go_wp2_with (go_at_call 79; (with_reducible refine (l4Symmetry_any _ _).mono ?_); rintro e w' ⟨rfl, rfl⟩)
        go_ret
        exact ⟨ret_bool HV.out.symm, HB.out⟩
      · have h3 : t % 2 = 1 := by omega
        rw [h3] at hr
        by_cases hmk : m = k
        · subst hmk
          have HV := Lib.hid (show d = true by rw [← HD.out]; simp [compOk, hg, hq, keepsB])
          go_enter Try.func84, Try.ntmps84
          go_wp2_with fail
          refine (l2Good_any m m A n c B xs _ h'.out (by simp; omega)).mono ?_
          rintro e w1 ⟨rfl, hb⟩
          have HB := Lib.hid (hb0.out.trans (hb.mono (by simp)))
          have x1 := x0.all hb
          have e0 := x1.cell 0
          have e1 := x1.cell 1
          rw [hg]
          go_wp2_with (go_at_call 79; (with_reducible refine (l4Symmetry_any _ _).mono ?_); rintro e w' ⟨rfl, rfl⟩)
          go_ret
          exact ⟨ret_bool HV.out.symm, HB.out⟩
        · have HV := Lib.hid (show d = false by rw [← HD.out]; simp [compOk, hg, hq, keepsB, hmk, h3])
          have hmk' : ((m : Int) == (k : Int)) = false := by simp; omega
          go_enter Try.func84, Try.ntmps84
          go_wp2_with fail
          refine (l2Good_any m k A n c B xs _ h'.out (by simp; omega)).mono ?_
          rintro e w1 ⟨rfl, hb⟩
          have HB := Lib.hid (hb0.out.trans (hb.mono (by simp)))
          have x1 := x0.all hb
          have e0 := x1.cell 0
          have e1 := x1.cell 1
          rw [hg]
          go_wp2_with (go_at_call 79; (with_reducible refine (l4Symmetry_any _ _).mono ?_); rintro e w' ⟨rfl, rfl⟩)
          go_ret
          exact ⟨ret_bool HV.out.symm, HB.out⟩
    · have hq' := not_false hq
      have HV := Lib.hid (show d = false by rw [← HD.out]; simp [compOk, hq'])
      go_enter Try.func84, Try.ntmps84
      go_wp2_with fail
      refine (l2Good_any W H A n c B xs _ h'.out (by simp; omega)).mono ?_
      rintro e w1 ⟨rfl, hb⟩
      have HB := Lib.hid (hb0.out.trans (hb.mono (by simp)))
      rw [hg]
      go_wp2_with (go_at_call 79; (with_reducible refine (l4Symmetry_any _ _).mono ?_); rintro e w' ⟨rfl, rfl⟩)
      go_ret
      exact ⟨ret_bool HV.out.symm, HB.out⟩
  · have hg' := not_false hg
    have HV := Lib.hid (show d = false by rw [← HD.out]; simp [compOk, hg'])
    go_enter Try.func84, Try.ntmps84
    go_wp2_with fail
    refine (l2Good_any W H A n c B xs _ h'.out (by simp; omega)).mono ?_
    rintro e w1 ⟨rfl, hb⟩
    have HB := Lib.hid (hb0.out.trans (hb.mono (by simp)))
    rw [hg']
    go_wp2_with (go_at_call 79; (with_reducible refine (l4Symmetry_any _ _).mono ?_); rintro e w' ⟨rfl, rfl⟩)
    go_ret
    exact ⟨ret_bool HV.out.symm, HB.out⟩
theorem comp_dest {m k s : Nat} {xs : List Int} (h : Ring4 xs.length (org m k s)) : compL (dest m k s) xs xs.length = compL (org m k s) xs xs.length := by
  unfold compL
  apply List.map_congr_left
  intro p hp
  rw [List.mem_range] at hp
  rw [h.best_inv (f := dest m k s) (fun _ _ => rfl) hp xs]
set_option maxRecDepth 100000 in
set_option maxHeartbeats 1000000 in
theorem specCompleteChart_any (W H : Int) (A : Option Addr) (n c B : Nat) (xs : List Int) (s : Int) (w : World) (hR : Rd w B A n c xs) (hB : B ≤ w.heap.size) :
    Calls Try.prog 38 #[chartV W H (.slice A n c), .int .i64 s] w (OutChart w (orZero (compOk W H xs s) W) (orZero (compOk W H xs s) H) (compX W H xs s) (compOk W H xs s)) := by
  have hb0 := Lib.hid (((Below.refl w.heap.size w).alloc (Nat.le_refl _) (.cells #[.int .i64 W, .int .i64 H, .slice A n c] 26)).alloc (by simp) (.cells #[.int .i64 0, .int .i64 0, .slice none 0 0] 26))
  have h' := Lib.hid ((hR.alloc hB (.cells #[.int .i64 W, .int .i64 H, .slice A n c] 26)).alloc (by simp; omega) (.cells #[.int .i64 0, .int .i64 0, .slice none 0 0] 26))
  have r0 := (Blk.new (w.alloc (.cells #[.int .i64 W, .int .i64 H, .slice A n c] 26)) #[.int .i64 0, .int .i64 0, .slice none 0 0] 26)
  have x0 := (Blk.new w #[.int .i64 W, .int .i64 H, .slice A n c] 26).alloc (.cells #[.int .i64 0, .int .i64 0, .slice none 0 0] 26)
  by_cases h : compOk W H xs s = true
  · rw [compX, if_pos h, h]
    obtain ⟨m, k, t, rfl, rfl, rfl, ht7, hpok, hk, hring, hcol, hx64, hl1⟩ := comp_nat h
    simp only [Int.toNat_natCast]
    have hcd := comp_dest hring
    obtain rfl := hR.len
    obtain ⟨b, off, rfl, _, _⟩ := hR.cells (by omega)
    clear hR
    go_enter Try.func38, Try.ntmps38
    go_wp2_with fail
    refine (l4Asked_eq m k _ _ c B xs t _ h'.out (by simp; omega) true h).mono ?_
    rintro e w1 ⟨rfl, hb⟩
    have r1 := (r0.all hb).at_ (q := w.heap.size + 1) (by simp)
    have x1 := x0.all hb
    have R1 := h'.out.all hb (by simp; omega)
    have HB := Lib.hid (hb0.out.trans (hb.mono (by simp; omega)))
    have hsz := r1.lt
    have e0 := x1.cell 0
    have e1 := x1.cell 1
    have e2 := x1.cell 2
    clear hb r0 x0 h' hb0
    go_wp2_with fail
    refine (l4Complete_any m k b off c B t xs _ R1 (by omega) hpok ht7 hring hcol).mono ?_
    rintro e w2 ⟨A2, c2, rfl, own, hb2⟩
    rw [hcd] at own ⊢
    have HML := Lib.hid (compL_len (org m k t) xs xs.length)
    generalize compL (org m k t) xs xs.length = ys at *
    have r2 := r1.all hb2
    have HB2 := Lib.hid (HB.out.trans (hb2.mono (by omega)))
    have hz2 := r2.lt
    have g0 := r2.cell 0
    have g1 := r2.cell 1
    have g2 := r2.cell 2
    have z0 := r2.frozen 0
    have z1 := r2.frozen 1
    have z2 := r2.frozen 2
    clear e0 e1 e2 hb2
    have F := fin3 (p := w.heap.size + 1) (a := .int .i64 m) (b := .int .i64 k) (c := .slice A2 ys.length c2) own (row_ne' own.1 r2 (by decide)) HB2.out (by omega)
    have F1 := F.1.alloc (.cells #[.int .i64 m, .int .i64 k, .slice A2 ys.length c2] 26)
    have F2 := F.2.alloc F.2.size (.cells #[.int .i64 m, .int .i64 k, .slice A2 ys.length c2] 26)
    have R3 := (Blk.put3 (a' := .int .i64 m) (b' := .int .i64 k) (c' := .slice A2 ys.length c2) r2).alloc (.cells #[.int .i64 m, .int .i64 k, .slice A2 ys.length c2] 26)
    have V0 := R3.cell 0
    have V1 := R3.cell 1
    have V2 := R3.cell 2
    go_wp2
    exact bodyPost_ret (v := .tuple #[chartV m k (.slice A2 ys.length c2), .bool true]) (by simp [results, Try.results38, go_sem, V0, V1, V2]) rfl ⟨A2, c2, rfl, F1.mono (by omega), F2⟩
  · rw [compX, if_neg h, not_false h]
    have h0 := not_false h
    clear h
    go_enter Try.func38, Try.ntmps38
    go_wp2_with fail
    refine (l4Asked_eq W H _ _ c B xs s _ h'.out (by simp; omega) false h0).mono ?_
    rintro e w1 ⟨rfl, hb⟩
    have r1 := (r0.all hb).at_ (q := w.heap.size + 1) (by simp)
    have HB := Lib.hid (hb0.out.trans (hb.mono (by simp; omega)))
    have g0 := r1.cell 0
    have g1 := r1.cell 1
    have g2 := r1.cell 2
    have z0 := r1.frozen 0
    have z1 := r1.frozen 1
    have z2 := r1.frozen 2
    clear hb r0 x0 h0
    go_wp2_with fail
    have F := fin3 (p := w.heap.size + 1) (a := .int .i64 0) (b := .int .i64 0) (c := .slice none 0 0) (Own.nil w1 w.heap.size) (by simp [Value.ownBlock]) HB.out (by omega)
    exact bodyPost_ret (v := .tuple #[chartV 0 0 (.slice none 0 0), .bool false]) (by simp [results, Try.results38, go_sem, g0, g1, g2]) rfl ⟨none, 0, rfl, F.1, F.2⟩
set_option maxRecDepth 100000 in
set_option maxHeartbeats 1000000 in
theorem specFewestChanges_any (W H : Int) (A : Option Addr) (n c B : Nat) (xs : List Int) (s : Int) (w : World) (hR : Rd w B A n c xs) (hB : B ≤ w.heap.size) :
    Calls Try.prog 40 #[chartV W H (.slice A n c), .int .i64 s] w (Out w (.tuple #[.int .i64 (fewN W H xs s), .bool (compOk W H xs s)])) := by
  have hb0 := Lib.hid ((Below.refl w.heap.size w).alloc (Nat.le_refl _) (.cells #[.int .i64 W, .int .i64 H, .slice A n c] 26))
  have h' := Lib.hid (hR.alloc hB (.cells #[.int .i64 W, .int .i64 H, .slice A n c] 26))
  have x0 := Blk.new w #[.int .i64 W, .int .i64 H, .slice A n c] 26
  by_cases h : compOk W H xs s = true
  · rw [show fewN W H xs s = ((chTo xs (compL (org W.toNat H.toNat s.toNat) xs xs.length) xs.length : Nat) : Int) from if_pos h, h]
    obtain ⟨m, k, t, rfl, rfl, rfl, ht7, hpok, hk, hring, hcol, hx64, hl1⟩ := comp_nat h
    simp only [Int.toNat_natCast]
    have hcd := comp_dest hring
    obtain rfl := hR.len
    obtain ⟨b, off, rfl, _, _⟩ := hR.cells (by omega)
    clear hR
    go_enter Try.func40, Try.ntmps40
    go_wp2_with fail
    refine (l4Asked_eq m k _ _ c B xs t _ h'.out (by simp; omega) true h).mono ?_
    rintro e w1 ⟨rfl, hb⟩
    have x1 := x0.all hb
    have R1 := h'.out.all hb (by simp; omega)
    have HB := Lib.hid (hb0.out.trans (hb.mono (by simp)))
    have hsz := x1.lt
    have e0 := x1.cell 0
    have e1 := x1.cell 1
    have e2 := x1.cell 2
    clear hb x0 h' hb0
    go_wp2_with fail
    refine (l4Complete_any m k b off c B t xs _ R1 (by omega) hpok ht7 hring hcol).mono ?_
    rintro e w2 ⟨A2, c2, rfl, own, hb2⟩
    rw [hcd] at own ⊢
    generalize compL (org m k t) xs xs.length = ys at *
    have HB2 := Lib.hid (HB.out.trans (hb2.mono (by omega)))
    have hz2 := HB2.out.size
    have HB3 := Lib.hid (HB2.out.alloc hz2 (.cells #[.int .i64 m, .int .i64 k, .slice A2 ys.length c2] 26))
    clear e0 e1 e2 hb2 own
    go_wp2
    go_ret2
    exact ⟨rfl, HB3.out⟩
  · rw [show fewN W H xs s = 0 from if_neg h, not_false h]
    have h0 := not_false h
    clear h
    go_enter Try.func40, Try.ntmps40
    go_wp2_with fail
    refine (l4Asked_eq W H _ _ c B xs s _ h'.out (by simp; omega) false h0).mono ?_
    rintro e w1 ⟨rfl, hb⟩
    have HB := Lib.hid (hb0.out.trans (hb.mono (by simp)))
    clear hb x0 h0
    go_wp2
    go_ret2
    exact ⟨rfl, HB.out⟩
end Go.Proofs.Ytihgobceahfpiaa
