/- The walks of the model's l6Divisor and SmallestMotif. No condition. -/
import Derived.Test.YtpmhnklmhfadlaaMgMath
import Derived.Test.YtpmhnklmhfadlaaPerT
import Derived.Test.YtpmhnklmhfadlaaPart
namespace Go.Proofs.Ytpmhnklmhfadlaa
open Go.RowKit

set_option maxRecDepth 100000 in
set_option maxHeartbeats 2000000 in
theorem l6Divisor_eq (m k b off cc B : Nat) (xs : List Int) (w : World) (hR : Rd w B (some ⟨b, off, none⟩) xs.length cc xs) (hB : B ≤ w.heap.size) (m1 : 1 ≤ m) (m8 : m ≤ 8) (k8 : k ≤ 8) (hl : Hid (xs.length = m * k)) (R : Nat) (hd : divA m k xs = R) :
    Calls Try.prog 32 #[chartV m k (.slice (some ⟨b, off, none⟩) xs.length cc)] w (Out w (.int .i64 R)) := by
  have HB := Lib.hid ((Below.refl w.heap.size w).alloc (Nat.le_refl _) (.cells #[.int .i64 m, .int .i64 k, .slice (some ⟨b, off, none⟩) xs.length cc] 26))
  have R1 := hR.alloc hB (.cells #[.int .i64 m, .int .i64 k, .slice (some ⟨b, off, none⟩) xs.length cc] 26)
  have x1 := Blk.new w #[.int .i64 m, .int .i64 k, .slice (some ⟨b, off, none⟩) xs.length cc] 26
  have HR0 := Lib.hid hd
  have HR : Hid (firstP (gA m k xs) (m - 1) 1 = R) := HR0
  clear hR hd
  go_enter Try.func32, Try.ntmps32
  go_wp2
  go_loopw [3] (fun s4 wr => ∃ q : Nat, 1 ≤ q ∧ q ≤ m ∧ s4 = .int .i64 q ∧ Hid (firstP (gA m k xs) (m - q) q = R) ∧ Blk wr w.heap.size 26 #[.int .i64 m, .int .i64 k, .slice (some ⟨b, off, none⟩) xs.length cc] ∧ Rd wr B (some ⟨b, off, none⟩) xs.length cc xs ∧ Hid (Below w.heap.size w wr)) (fun s4 _ => m + 1 - (intOf s4).toNat)
  case atStart => exact ⟨1, Nat.le_refl _, m1, rfl, HR, x1, R1, HB⟩
  case round =>
    clear HR x1 R1 HB
    obtain ⟨q, hq1, hqm, rfl, HR, x1, R1, HB⟩ := hrel
    have hwz := HB.out.size
    have hqz : ¬ (q : Int) = 0 := by omega
    have ex0 := x1.cell 0
    have ex1 := x1.cell 1
    have ex2 := x1.cell 2
    have hyes := Lib.hid (fun hh : gA m k xs q = true => (firstP_yes (g := gA m k xs) (n := m - q) hh).symm.trans HR.out)
    have hno := Lib.hid (fun hh : gA m k xs q = false => (show q < m ∧ firstP (gA m k xs) (m - (q + 1)) (q + 1) = R by
      have hlt : q < m := by
        rcases Nat.lt_or_ge q m with h | h
        · exact h
        · obtain rfl : q = m := by omega
          rw [gA_last] at hh; cases hh
      refine ⟨hlt, ?_⟩
      have e : m - q = (m - (q + 1)) + 1 := by omega
      rw [← HR.out, e, firstP_no (g := gA m k xs) hh]))
    by_cases hz : m % q = 0
    · have hrem : Int.tmod (m : Int) (q : Int) = 0 := by rw [remN, hz]; rfl
      have hw0 : IntKind.i64.wrap 0 = 0 := rfl
      have hgq : gA m k xs q = acrossB m k xs q := by unfold gA; rw [decide_eq_true hz, Bool.true_and]
      cases hq : acrossB m k xs q with
      | true =>
        have HE := Lib.hid (hyes.out (hgq.trans hq))
        clear hyes hno hz hgq
        go_wp2_with fail
        refine (l6Across_eq m k b off cc B q xs wr R1 (Nat.le_trans hB hwz) m8 k8 hl hqm true hq).mono ?_
        rintro e w2 ⟨rfl, hb2⟩
        have HB2 := Lib.hid (HB.out.trans (hb2.mono hwz))
        clear hb2 HB x1 R1 ex0 ex1 ex2 hq
        go_wp2
        go_ret
        exact ⟨ret_int (by rw [← HE.out]), HB2.out⟩
      | false =>
        obtain ⟨hlt, he⟩ := hno.out (hgq.trans hq)
        have HE := Lib.hid he
        clear hyes hno he hz hgq
        go_wp2_with fail
        refine (l6Across_eq m k b off cc B q xs wr R1 (Nat.le_trans hB hwz) m8 k8 hl hqm false hq).mono ?_
        rintro e w2 ⟨rfl, hb2⟩
        have x2 := x1.all hb2
        have R2 := R1.all hb2 (Nat.le_trans hB hwz)
        have HB2 := Lib.hid (HB.out.trans (hb2.mono hwz))
        clear hb2 HB x1 R1 ex0 ex1 ex2 hq
        go_wp2
        go_roundw
        case rel => exact ⟨q + 1, by omega, by omega, by go_num, HE, x2, R2, HB2⟩
        case measure => simp [intOf]; omega
    · obtain ⟨r, hr⟩ : ∃ r, m % q = r := ⟨_, rfl⟩
      rw [hr] at hz
      have hrq : r < q := by rw [← hr]; exact Nat.mod_lt _ hq1
      have hrem : Int.tmod (m : Int) (q : Int) = (r : Int) := by rw [remN, hr]
      have hwr : IntKind.i64.wrap (r : Int) = (r : Int) := IntWalk.i64_in _ (by omega)
      have hrz : ¬ (r : Int) = 0 := by omega
      have hrn : ((r : Int) != 0) = true := by simpa using hz
      have hgq : gA m k xs q = false := by unfold gA; rw [hr, decide_eq_false hz, Bool.false_and]
      obtain ⟨hlt, he⟩ := hno.out hgq
      have HE := Lib.hid he
      clear hyes hno he hgq hr
      go_wp2_with fail
      go_roundw
      case rel => exact ⟨q + 1, by omega, by omega, by go_num, HE, x1, R1, HB⟩
      case measure => simp [intOf]; omega
set_option maxRecDepth 100000 in
set_option maxHeartbeats 4000000 in
theorem specSmallestMotif_any (W H : Int) (A : Option Addr) (n c B : Nat) (xs : List Int) (w : World) (hR : Rd w B A n c xs) (hB : B ≤ w.heap.size) :
    Calls Try.prog 7 #[chartV W H (.slice A n c)] w (OutChart w (orZero (goodB W H xs) (divA W.toNat H.toNat xs)) (orZero (goodB W H xs) (divD W.toNat H.toNat xs)) (motX W H xs) (goodB W H xs)) := by
  have hb0 := Lib.hid (((Below.refl w.heap.size w).alloc (Nat.le_refl _) (.cells #[.int .i64 W, .int .i64 H, .slice A n c] 26)).alloc (by simp) (.cells #[.int .i64 0, .int .i64 0, .slice none 0 0] 26))
  have h' := Lib.hid ((hR.alloc hB (.cells #[.int .i64 W, .int .i64 H, .slice A n c] 26)).alloc (by simp; omega) (.cells #[.int .i64 0, .int .i64 0, .slice none 0 0] 26))
  have r0 := (Blk.new (w.alloc (.cells #[.int .i64 W, .int .i64 H, .slice A n c] 26)) #[.int .i64 0, .int .i64 0, .slice none 0 0] 26)
  have x0 := (Blk.new w #[.int .i64 W, .int .i64 H, .slice A n c] 26).alloc (.cells #[.int .i64 0, .int .i64 0, .slice none 0 0] 26)
  by_cases h : (goodB W H xs) = true
  · have hX : motX W H xs = _ := if_pos h
    rw [hX, h, orZero, orZero, if_pos rfl, if_pos rfl]
    clear hX
    have hg : goodB W H xs = true := h
    obtain ⟨m, k, rfl, rfl, m1, m8, k1, k8, hl, h64, hl1, _⟩ := good_nat hg
    have h64' : m * k ≤ 64 := Nat.mul_le_mul m8 k8
    simp only [Int.toNat_natCast]
    obtain rfl := hR.len
    obtain ⟨b, off, rfl, _, _⟩ := hR.cells (by omega)
    clear hR
    obtain ⟨hA1, hAm, _, _⟩ := divA_bd (m := m) (k := k) (xs := xs) m1
    obtain ⟨hD1, hDk⟩ := divD_bd (m := m) (k := k) (xs := xs) k1
    obtain ⟨da, hda⟩ : ∃ da, Hid (divA m k xs = da) := ⟨_, rfl⟩
    obtain ⟨dd, hdd⟩ : ∃ dd, Hid (divD m k xs = dd) := ⟨_, rfl⟩
    rw [hda.out] at hA1 hAm ⊢
    rw [hdd.out] at hD1 hDk ⊢
    go_enter Try.func7, Try.ntmps7
    go_wp2_with fail
    refine (l2Good_any m k _ _ c B xs _ h'.out (by simp; omega)).mono ?_
    rintro e w1 ⟨rfl, hb⟩
    have r1 := (r0.all hb).at_ (q := w.heap.size + 1) (by simp)
    have x1 := x0.all hb
    have R1 := h'.out.all hb (by simp; omega)
    have HB := Lib.hid (hb0.out.trans (hb.mono (by simp; omega)))
    have hsz := r1.lt
    have hz1 : w.heap.size ≤ w1.heap.size := HB.out.size
    have e0 := x1.cell 0
    have e1 := x1.cell 1
    have e2 := x1.cell 2
    clear hb r0 x0 h' hb0
    rw [hg]
    go_wp2_with fail
    have hlT : Hid ((turnL m k xs).length = k * m) := Lib.hid (by rw [turnL_len, Nat.mul_comm])
    have hlT1 : 1 ≤ (turnL m k xs).length := by rw [turnL_len]; have := Nat.mul_le_mul m1 k1; omega
    have hdd' := Lib.hid ((divA_turn (m := m) (k := k) (xs := xs)).trans hdd.out)
    have hxl := x1.lt
    have hBz := Nat.le_trans hB hz1
    have R1d := R1.drew
    have hzd : B ≤ w1.drew.heap.size := hBz
    go_region_held3 (fun w' => w'.cell? ⟨w.heap.size, 0, none⟩ = some (.int .i64 (m : Int)) ∧ w'.cell? ⟨w.heap.size, 1, none⟩ = some (.int .i64 (k : Int)) ∧ w'.cell? ⟨w.heap.size, 2, none⟩ = some (.slice (some ⟨b, off, none⟩) xs.length c)) (first | exact ⟨e0, e1, e2⟩ | go_keep) (first | (go_at_call 33; (with_reducible refine (l4Turn_any m k b off c B xs _ R1d hzd m8 k8 hl h64').mono ?_); rintro e w2 ⟨A2, c2, rfl, own2, hb2⟩; (try replace hb2 := below_drew' hb2); obtain ⟨g2t, rfl, _, _⟩ := own2.some_ hlT1; have rt := own2.rd; have r2 := r1.all hb2; have R2 := R1.all hb2 hBz; have HB2 := Lib.hid (HB.out.trans (hb2.mono hz1)); have hz2 : w.heap.size ≤ w2.heap.size := HB2.out.size; replace e0 := cells_of hb2 e0 hxl; replace e1 := cells_of hb2 e1 hxl; replace e2 := cells_of hb2 e2 hxl; have hxl2 : w.heap.size < w2.heap.size := Nat.lt_of_lt_of_le hxl hb2.size; have hBz2 : B ≤ w2.heap.size := Nat.le_trans hB hz2; have hrf2 : w2.heap.size ≤ w2.heap.size := Nat.le_refl _; clear hb2 own2) | (go_at_call 32; (with_reducible refine (l6Divisor_eq k m g2t 0 c2 w2.heap.size (turnL m k xs) w2 rt hrf2 k1 k8 m8 hlT dd hdd'.out).mono ?_); rintro e w3 ⟨rfl, hb3⟩; have r3 := r2.all hb3; have R3 := R2.all hb3 hBz2; have HB3 := Lib.hid (HB2.out.trans (hb3.mono hz2)); have hz3 : w.heap.size ≤ w3.heap.size := HB3.out.size; have hBz3 : B ≤ w3.heap.size := Nat.le_trans hB hz3; replace e0 := cells_of hb3 e0 hxl2; replace e1 := cells_of hb3 e1 hxl2; replace e2 := cells_of hb3 e2 hxl2; have hxl3 : w.heap.size < w3.heap.size := Nat.lt_of_lt_of_le hxl2 hb3.size; clear hb3) | (go_at_call 32; (with_reducible refine (l6Divisor_eq m k b off c B xs w3 R3 hBz3 m1 m8 k8 hl da hda.out).mono ?_); rintro e w4 ⟨rfl, hb4⟩; have r4 := r3.all hb4; have R4 := R3.all hb4 hBz3; have HB4 := Lib.hid (HB3.out.trans (hb4.mono hz3)); have hz4 : w.heap.size ≤ w4.heap.size := HB4.out.size; have hBz4 : B ≤ w4.heap.size := Nat.le_trans hB hz4; replace e0 := cells_of hb4 e0 hxl3; replace e1 := cells_of hb4 e1 hxl3; replace e2 := cells_of hb4 e2 hxl3; have hxl4 : w.heap.size < w4.heap.size := Nat.lt_of_lt_of_le hxl3 hb4.size; have HPa := l2Part_any m k b off c B 0 0 dd da xs w4 R4 hBz4 m8 k8 hl h64' (by omega) (by omega); clear hb4) | (go_at_call 31; refine HPa.mono ?_; rintro e w6 ⟨A6, c6, rfl, own6, hb6⟩; have r6 := r4.all hb6; have HB6 := Lib.hid (HB4.out.trans (hb6.mono hz4)); replace e0 := cells_of hb6 e0 hxl4; replace e1 := cells_of hb6 e1 hxl4; replace e2 := cells_of hb6 e2 hxl4; have g0 := r6.cell 0; have g1 := r6.cell 1; have g2 := r6.cell 2; have z0 := r6.frozen 0; have z1 := r6.frozen 1; have z2 := r6.frozen 2; have hz6 := r6.lt; clear hb6))
    have F := fin3 (p := w.heap.size + 1) (a := .int .i64 (da : Int)) (b := .int .i64 (dd : Int)) (c := .slice A6 (partL m xs 0 0 dd da).length c6) own6 (row_ne' own6.1 r6 (by decide)) HB6.out (by omega)
    go_wp2
    exact bodyPost_ret (v := .tuple #[chartV (da : Int) (dd : Int) (.slice A6 (partL m xs 0 0 dd da).length c6), .bool true]) (by simp [results, Try.results7, go_sem, g0, g1, g2]) rfl ⟨A6, c6, rfl, F.1.mono hz4, F.2⟩
  · have hX : motX W H xs = _ := if_neg h
    rw [hX, not_false h]
    have hg : goodB W H xs = false := not_false h
    go_enter Try.func7, Try.ntmps7
    go_wp2_with fail
    refine (l2Good_any W H A n c B xs _ h'.out (by simp; omega)).mono ?_
    rintro e w1 ⟨rfl, hb⟩
    have r1 := (r0.all hb).at_ (q := w.heap.size + 1) (by simp)
    have HB := Lib.hid (hb0.out.trans (hb.mono (by simp; omega)))
    have g0 := r1.cell 0
    have g1 := r1.cell 1
    have g2 := r1.cell 2
    have z0 := r1.frozen 0
    have z1 := r1.frozen 1
    have z2 := r1.frozen 2
    clear hb r0
    rw [hg]
    go_wp2_with fail
    have F := fin3 (p := w.heap.size + 1) (a := .int .i64 0) (b := .int .i64 0) (c := .slice none 0 0) (Own.nil w1 w.heap.size) (by simp [Value.ownBlock]) HB.out (by omega)
    exact bodyPost_ret (v := .tuple #[chartV 0 0 (.slice none 0 0), .bool false]) (by simp [results, Try.results7, go_sem, g0, g1, g2]) rfl ⟨none, 0, rfl, F.1, F.2⟩
end Go.Proofs.Ytpmhnklmhfadlaa
