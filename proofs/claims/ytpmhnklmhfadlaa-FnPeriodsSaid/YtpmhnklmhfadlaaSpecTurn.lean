/- The walks of the model's l4Turn and l4Mirror. Condition: sides of at most 8. -/
import Derived.Test.YtpmhnklmhfadlaaRun
import Derived.Test.YtpmhnklmhfadlaaCopy
import Derived.Test.YtpmhnklmhfadlaaMgSeq
import Derived.Test.YtpmhnklmhfadlaaMgMath
namespace Go.Proofs.Ytpmhnklmhfadlaa
open Go.RowKit

set_option maxRecDepth 100000 in
set_option maxHeartbeats 4000000 in
theorem l4Turn_any (m k b off cc B : Nat) (xs : List Int) (w : World) (hR : Rd w B (some ⟨b, off, none⟩) xs.length cc xs) (hB : B ≤ w.heap.size) (m8 : m ≤ 8) (k8 : k ≤ 8) (hl : Hid (xs.length = m * k)) (h64 : m * k ≤ 64) :
    Calls Try.prog 33 #[chartV m k (.slice (some ⟨b, off, none⟩) xs.length cc)] w (OwnChart w k m (turnL m k xs)) := by
  have hb0 := Lib.hid ((((((Below.refl w.heap.size w).alloc (Nat.le_refl _) (.cells #[.int .i64 m, .int .i64 k, .slice (some ⟨b, off, none⟩) xs.length cc] 26)).alloc (by simp) (.cells #[.int .i64 0, .int .i64 0, .slice none 0 0] 26)).alloc (by simp; omega) (.cells #[] 3))).alloc (by simp; omega) (.cells #[.int .i64 k, .int .i64 m, .slice (some ⟨w.heap.size + 1 + 1, 0, none⟩) 0 0] 26))
  have h1 := ((((hR.alloc hB (.cells #[.int .i64 m, .int .i64 k, .slice (some ⟨b, off, none⟩) xs.length cc] 26)).alloc (by simp; omega) (.cells #[.int .i64 0, .int .i64 0, .slice none 0 0] 26)).alloc (by simp; omega) (.cells #[] 3))).alloc (by simp; omega) (.cells #[.int .i64 k, .int .i64 m, .slice (some ⟨w.heap.size + 1 + 1, 0, none⟩) 0 0] 26)
  have x1 := (((Blk.new w #[.int .i64 m, .int .i64 k, .slice (some ⟨b, off, none⟩) xs.length cc] 26).alloc (.cells #[.int .i64 0, .int .i64 0, .slice none 0 0] 26)).alloc (.cells #[] 3)).alloc (.cells #[.int .i64 k, .int .i64 m, .slice (some ⟨w.heap.size + 1 + 1, 0, none⟩) 0 0] 26)
  have r1 := (((Blk.new (w.alloc (.cells #[.int .i64 m, .int .i64 k, .slice (some ⟨b, off, none⟩) xs.length cc] 26)) #[.int .i64 0, .int .i64 0, .slice none 0 0] 26).alloc (.cells #[] 3)).alloc (.cells #[.int .i64 k, .int .i64 m, .slice (some ⟨w.heap.size + 1 + 1, 0, none⟩) 0 0] 26)).at_ (q := w.heap.size + 1) (by simp)
  have hbw : b < w.heap.size ∨ xs.length = 0 := by
    rcases Nat.eq_zero_or_pos xs.length with h0 | h0
    · exact .inr h0
    · obtain ⟨_, _, e, hb, _⟩ := hR.cells h0; cases e; exact .inl (by omega)
  have hhk : m * k ≤ 64 := h64
  clear hR
  go_enter Try.func33, Try.ntmps33
  go_wp2
  go_loopw [4, 5] (fun s4 s5 wr => ∃ (i : Nat) (A : Option Addr) (c' : Nat), i ≤ m ∧ s4 = .int .i64 i ∧ Own wr w.heap.size (.slice A (i * k) c') ((turnL m k xs).take (i * k)) ∧
      Blk wr (w.heap.size + 1 + 1 + 1) 26 #[.int .i64 k, .int .i64 m, .slice A (i * k) c'] ∧ Blk wr (w.heap.size + 1) 26 #[.int .i64 0, .int .i64 0, .slice none 0 0] ∧
      Blk wr w.heap.size 26 #[.int .i64 m, .int .i64 k, .slice (some ⟨b, off, none⟩) xs.length cc] ∧ Rd wr B (some ⟨b, off, none⟩) xs.length cc xs ∧ Below w.heap.size w wr)
    (fun s4 _ _ => m - (intOf s4).toNat)
  case atStart =>
    refine ⟨0, some ⟨w.heap.size + 1 + 1, 0, none⟩, 0, Nat.zero_le _, rfl, ?_, ?_, r1, x1, h1, hb0.out⟩
    · rw [Nat.zero_mul]
      simpa using (Own.empty (w := (w.alloc _).alloc _) (lo := w.heap.size) (by simp; omega)).alloc _
    · rw [Nat.zero_mul]
      exact (Blk.new _ _ _).at_ (by simp)
  case round =>
    obtain ⟨i, A, c', hi, rfl, ho, x2, r2, b2, R2, hbl⟩ := hrel
    have HB := Lib.hid hbl
    have lim0 := x2.cell 0
    have lim1 := x2.cell 1
    have lim2 := b2.cell 0
    have lim3 := b2.cell 1
    clear hbl hb0 h1 x1 r1
    obtain ⟨wo, rfl⟩ : ∃ wo : World, wo = wr := ⟨_, rfl⟩
    by_cases hlt : i < m
    · go_wp2
      clear lim0 lim1 lim2 lim3
      go_loopw [5] (fun s5 wr => ∃ (j : Nat) (A : Option Addr) (c' : Nat), j ≤ k ∧ s5 = .int .i64 j ∧ Own wr w.heap.size (.slice A (i * k + j) c') ((turnL m k xs).take (i * k + j)) ∧
          Blk wr (w.heap.size + 1 + 1 + 1) 26 #[.int .i64 k, .int .i64 m, .slice A (i * k + j) c'] ∧ Blk wr (w.heap.size + 1) 26 #[.int .i64 0, .int .i64 0, .slice none 0 0] ∧
          Blk wr w.heap.size 26 #[.int .i64 m, .int .i64 k, .slice (some ⟨b, off, none⟩) xs.length cc] ∧ Rd wr B (some ⟨b, off, none⟩) xs.length cc xs ∧ Below w.heap.size w wr)
        (fun s5 _ => k - (intOf s5).toNat)
      case atStart => exact ⟨0, A, c', Nat.zero_le _, rfl, by rw [Nat.add_zero]; exact ho, by rw [Nat.add_zero]; exact x2, r2, b2, R2, HB.out⟩
      case round =>
        obtain ⟨j, A3, c3, hj, rfl, ho3, x3, r3, b3, R3, hbl⟩ := hrel
        have HB3 := Lib.hid hbl
        have hbz := hbl.size
        have lim0 := x3.cell 0
        have lim1 := x3.cell 1
        have e0 := b3.cell 0
        have e1 := b3.cell 1
        clear hbl ho x2 r2 b2 R2 HB
        by_cases hjk : j < k
        · have hrk : k - 1 - j < k := by omega
          have hcm : i < m := by omega
          have hlt' := at_lt hl.out hrk hcm
          obtain ⟨_, _, hbb, hbB, hcell⟩ := R3.cells (by omega)
          cases hbb
          obtain ⟨x, HX⟩ : ∃ x, Hid (elt m xs (k - 1 - j) (i) = x) := ⟨_, rfl⟩
          have hx : wr.cell? ⟨b, off + ((k - 1 - j) * m + (i)), none⟩ = some (.int .i64 x) := by rw [hcell _ hlt', ← HX.out]; rfl
          have hxx : I64 x := by rw [← HX.out]; exact R3.fit _
          have hx' : wr.drew.cell? ⟨b, off + ((k - 1 - j) * m + (i)), none⟩ = some (.int .i64 x) := hx
          have hbwr : b < wr.heap.size := by omega
          have hbwr' : b < wr.drew.heap.size := hbwr
          have HP := Lib.hid (gridL_take (f := fun i j => elt m xs (k - 1 - j) i) hlt hjk)
          change Hid (List.take (i * k + j + 1) (turnL m k xs) = List.take (i * k + j) (turnL m k xs) ++ [elt m xs (k - 1 - j) (i)]) at HP
          rw [HX.out] at HP
          have ha := Lib.hid (show (k : Int) - 1 - (j : Int) = ((k - 1 - j : Nat) : Int) by omega)
          have hw1 : IntKind.i64.wrap ((k : Int) - 1) = (k : Int) - 1 := IntWalk.i64_in _ (by omega)
          have hw2 : IntKind.i64.wrap ((k : Int) - 1 - (j : Int)) = (k : Int) - 1 - (j : Int) := IntWalk.i64_in _ (by omega)
          have hzw := b3.lt
          have hzx := x3.lt
          have e2 := b3.cell 2
          have f2 := x3.cell 2
          have hle := grid_lt hlt hjk
          have htl : ((turnL m k xs).take (i * k + j)).length = i * k + j := by rw [List.length_take, turnL_len]; exact Nat.min_eq_left (Nat.le_of_lt hle)
          have HTL := Lib.hid htl
          have hlr : i * k + j ≤ 1073741824 := by omega
          clear hcell htl
          go_wp2
          go_region_law (first | (refine step_append_one wa rfl (.tmp 25) (.tmp 34) 24 rfl Try.underlying24 info_int w.heap.size (i * k + j) _ _ x HTL.out rfl rfl oa hlr hxx hza ?_; intro A5 c5 w5 o5 hg5; have b5 := ba.mark hg5 (row_ne oa.1 ba (by decide)); have x5 := xa.mark hg5 (row_ne oa.1 xa (by decide)); have r5 := ra.mark hg5 (row_ne oa.1 ra (by decide)); have R5 := Ra.mark hg5 (fun q hq => Nat.le_trans hB (oa.bd q hq).1) (Nat.le_trans hB hza); have HB5 := Lib.hid (HBa.out.grown hg5 hza (fun q hq => (oa.bd q hq).1)); have f5 := x5.cell 2; have z5 := x5.frozen 2) | (go_simp; go_at_call 65; (with_reducible refine (l2At_int m k (k - 1 - j) (i) b off cc ((k : Int) - 1 - (j : Int)) ((i : Int)) xs x wr.drew ha.out rfl hl.out h64 hrk hcm hbwr' hx').mono ?_); rintro e wa ⟨rfl, hba⟩; have hb6 : Below wr.heap.size wr wa := below_drew hba; have hbc : ∀ b o, b < wr.heap.size → wa.cell? ⟨b, o, none⟩ = wr.cell? ⟨b, o, none⟩ := (bcell hb6).1; have hz6 : wr.heap.size ≤ wa.heap.size := hb6.size; have f2a := (hbc _ 2 hzx).trans f2; have oa := ho3.all hb6; have ba := b3.all hb6; have xa := x3.all hb6; have hxa := xa.lt; have hba2 := ba.lt; have hza : w.heap.size ≤ wa.heap.size := Nat.le_trans hbz hz6; have ra := r3.all hb6; have Ra := R3.all hb6 (Nat.le_trans hB hbz); have HBa := Lib.hid (HB3.out.trans (hb6.mono hbz))))
          all_goals
            rw [← HP.out] at o5
            clear hw1 hw2
            go_wp2
            go_roundw
            case rel => exact ⟨j + 1, A5, c5, by omega, by go_num, o5.far (row_ne' o5.1 x5 (by decide)) _, by have := x5.set_ 2 (.slice A5 (i * k + j + 1) c5); rw [← Nat.add_assoc]; simpa using this, r5.far (by simp) _, b5.far (by simp; omega) _, R5.keep (fun b' o' hb' => World.cell?_setCell_other _ _ _ _ (by first | (simp; done) | (simp; omega))), HB5.out.setCell (by show w.heap.size ≤ w.heap.size + 1 + 1 + 1; omega) _⟩
            case measure => simp [intOf]; omega
        · obtain rfl : j = k := by omega
          have e : i * j + j = (i + 1) * j := by rw [Nat.succ_mul]
          rw [e] at ho3 x3
          go_wp2
          go_roundw
          case rel => exact ⟨i + 1, A3, c3, by omega, by go_num, ho3, x3, r3, b3, R3, HB3.out⟩
          case measure => simp [intOf]; omega
    · obtain rfl : i = m := by omega
      rw [show (turnL i k xs).take (i * k) = turnL i k xs from gridL_all] at ho
      have f2 := x2.cell 2
      have g0 := r2.cell 0
      have g1 := r2.cell 1
      have g2 := r2.cell 2
      have z0 := r2.frozen 0
      have z1 := r2.frozen 1
      have z2 := r2.frozen 2
      have F := fin3 (p := w.heap.size + 1) (a := .int .i64 k) (b := .int .i64 i) (c := .slice A (i * k) c') ho (row_ne' ho.1 r2 (by decide)) HB.out (by omega)
      go_wp2
      exact bodyPost_ret (v := chartV k i (.slice A (i * k) c')) (by simp [results, Try.results33, go_sem, g0, g1, g2]) rfl ⟨A, c', by rw [turnL_len], by rw [turnL_len]; exact F.1, F.2⟩
set_option maxRecDepth 100000 in
set_option maxHeartbeats 4000000 in
theorem l4Mirror_any (m k b off cc B : Nat) (xs : List Int) (w : World) (hR : Rd w B (some ⟨b, off, none⟩) xs.length cc xs) (hB : B ≤ w.heap.size) (m8 : m ≤ 8) (k8 : k ≤ 8) (hl : Hid (xs.length = m * k)) (h64 : m * k ≤ 64) :
    Calls Try.prog 81 #[chartV m k (.slice (some ⟨b, off, none⟩) xs.length cc)] w (OwnChart w m k (mirrorL m k xs)) := by
  have hb0 := Lib.hid ((((((Below.refl w.heap.size w).alloc (Nat.le_refl _) (.cells #[.int .i64 m, .int .i64 k, .slice (some ⟨b, off, none⟩) xs.length cc] 26)).alloc (by simp) (.cells #[.int .i64 0, .int .i64 0, .slice none 0 0] 26)).alloc (by simp; omega) (.cells #[] 3))).alloc (by simp; omega) (.cells #[.int .i64 m, .int .i64 k, .slice (some ⟨w.heap.size + 1 + 1, 0, none⟩) 0 0] 26))
  have h1 := ((((hR.alloc hB (.cells #[.int .i64 m, .int .i64 k, .slice (some ⟨b, off, none⟩) xs.length cc] 26)).alloc (by simp; omega) (.cells #[.int .i64 0, .int .i64 0, .slice none 0 0] 26)).alloc (by simp; omega) (.cells #[] 3))).alloc (by simp; omega) (.cells #[.int .i64 m, .int .i64 k, .slice (some ⟨w.heap.size + 1 + 1, 0, none⟩) 0 0] 26)
  have x1 := (((Blk.new w #[.int .i64 m, .int .i64 k, .slice (some ⟨b, off, none⟩) xs.length cc] 26).alloc (.cells #[.int .i64 0, .int .i64 0, .slice none 0 0] 26)).alloc (.cells #[] 3)).alloc (.cells #[.int .i64 m, .int .i64 k, .slice (some ⟨w.heap.size + 1 + 1, 0, none⟩) 0 0] 26)
  have r1 := (((Blk.new (w.alloc (.cells #[.int .i64 m, .int .i64 k, .slice (some ⟨b, off, none⟩) xs.length cc] 26)) #[.int .i64 0, .int .i64 0, .slice none 0 0] 26).alloc (.cells #[] 3)).alloc (.cells #[.int .i64 m, .int .i64 k, .slice (some ⟨w.heap.size + 1 + 1, 0, none⟩) 0 0] 26)).at_ (q := w.heap.size + 1) (by simp)
  have hbw : b < w.heap.size ∨ xs.length = 0 := by
    rcases Nat.eq_zero_or_pos xs.length with h0 | h0
    · exact .inr h0
    · obtain ⟨_, _, e, hb, _⟩ := hR.cells h0; cases e; exact .inl (by omega)
  have hhk : k * m ≤ 64 := by rw [Nat.mul_comm]; exact h64
  clear hR
  go_enter Try.func81, Try.ntmps81
  go_wp2
  go_loopw [4, 5] (fun s4 s5 wr => ∃ (i : Nat) (A : Option Addr) (c' : Nat), i ≤ k ∧ s4 = .int .i64 i ∧ Own wr w.heap.size (.slice A (i * m) c') ((mirrorL m k xs).take (i * m)) ∧
      Blk wr (w.heap.size + 1 + 1 + 1) 26 #[.int .i64 m, .int .i64 k, .slice A (i * m) c'] ∧ Blk wr (w.heap.size + 1) 26 #[.int .i64 0, .int .i64 0, .slice none 0 0] ∧
      Blk wr w.heap.size 26 #[.int .i64 m, .int .i64 k, .slice (some ⟨b, off, none⟩) xs.length cc] ∧ Rd wr B (some ⟨b, off, none⟩) xs.length cc xs ∧ Below w.heap.size w wr)
    (fun s4 _ _ => k - (intOf s4).toNat)
  case atStart =>
    refine ⟨0, some ⟨w.heap.size + 1 + 1, 0, none⟩, 0, Nat.zero_le _, rfl, ?_, ?_, r1, x1, h1, hb0.out⟩
    · rw [Nat.zero_mul]
      simpa using (Own.empty (w := (w.alloc _).alloc _) (lo := w.heap.size) (by simp; omega)).alloc _
    · rw [Nat.zero_mul]
      exact (Blk.new _ _ _).at_ (by simp)
  case round =>
    obtain ⟨i, A, c', hi, rfl, ho, x2, r2, b2, R2, hbl⟩ := hrel
    have HB := Lib.hid hbl
    have lim0 := x2.cell 0
    have lim1 := x2.cell 1
    have lim2 := b2.cell 0
    have lim3 := b2.cell 1
    clear hbl hb0 h1 x1 r1
    obtain ⟨wo, rfl⟩ : ∃ wo : World, wo = wr := ⟨_, rfl⟩
    by_cases hlt : i < k
    · go_wp2
      clear lim0 lim1 lim2 lim3
      go_loopw [5] (fun s5 wr => ∃ (j : Nat) (A : Option Addr) (c' : Nat), j ≤ m ∧ s5 = .int .i64 j ∧ Own wr w.heap.size (.slice A (i * m + j) c') ((mirrorL m k xs).take (i * m + j)) ∧
          Blk wr (w.heap.size + 1 + 1 + 1) 26 #[.int .i64 m, .int .i64 k, .slice A (i * m + j) c'] ∧ Blk wr (w.heap.size + 1) 26 #[.int .i64 0, .int .i64 0, .slice none 0 0] ∧
          Blk wr w.heap.size 26 #[.int .i64 m, .int .i64 k, .slice (some ⟨b, off, none⟩) xs.length cc] ∧ Rd wr B (some ⟨b, off, none⟩) xs.length cc xs ∧ Below w.heap.size w wr)
        (fun s5 _ => m - (intOf s5).toNat)
      case atStart => exact ⟨0, A, c', Nat.zero_le _, rfl, by rw [Nat.add_zero]; exact ho, by rw [Nat.add_zero]; exact x2, r2, b2, R2, HB.out⟩
      case round =>
        obtain ⟨j, A3, c3, hj, rfl, ho3, x3, r3, b3, R3, hbl⟩ := hrel
        have HB3 := Lib.hid hbl
        have hbz := hbl.size
        have lim0 := x3.cell 0
        have lim1 := x3.cell 1
        have e0 := b3.cell 0
        have e1 := b3.cell 1
        clear hbl ho x2 r2 b2 R2 HB
        by_cases hjk : j < m
        · have hrk : i < k := by omega
          have hcm : m - 1 - j < m := by omega
          have hlt' := at_lt hl.out hrk hcm
          obtain ⟨_, _, hbb, hbB, hcell⟩ := R3.cells (by omega)
          cases hbb
          obtain ⟨x, HX⟩ : ∃ x, Hid (elt m xs (i) (m - 1 - j) = x) := ⟨_, rfl⟩
          have hx : wr.cell? ⟨b, off + ((i) * m + (m - 1 - j)), none⟩ = some (.int .i64 x) := by rw [hcell _ hlt', ← HX.out]; rfl
          have hxx : I64 x := by rw [← HX.out]; exact R3.fit _
          have hx' : wr.drew.cell? ⟨b, off + ((i) * m + (m - 1 - j)), none⟩ = some (.int .i64 x) := hx
          have hbwr : b < wr.heap.size := by omega
          have hbwr' : b < wr.drew.heap.size := hbwr
          have HP := Lib.hid (gridL_take (f := fun i j => elt m xs i (m - 1 - j)) hlt hjk)
          change Hid (List.take (i * m + j + 1) (mirrorL m k xs) = List.take (i * m + j) (mirrorL m k xs) ++ [elt m xs (i) (m - 1 - j)]) at HP
          rw [HX.out] at HP
          have ha := Lib.hid (show (m : Int) - 1 - (j : Int) = ((m - 1 - j : Nat) : Int) by omega)
          have hw1 : IntKind.i64.wrap ((m : Int) - 1) = (m : Int) - 1 := IntWalk.i64_in _ (by omega)
          have hw2 : IntKind.i64.wrap ((m : Int) - 1 - (j : Int)) = (m : Int) - 1 - (j : Int) := IntWalk.i64_in _ (by omega)
          have hzw := b3.lt
          have hzx := x3.lt
          have e2 := b3.cell 2
          have f2 := x3.cell 2
          have hle := grid_lt hlt hjk
          have htl : ((mirrorL m k xs).take (i * m + j)).length = i * m + j := by rw [List.length_take, mirrorL_len]; exact Nat.min_eq_left (Nat.le_of_lt hle)
          have HTL := Lib.hid htl
          have hlr : i * m + j ≤ 1073741824 := by omega
          clear hcell htl
          go_wp2
          go_region_law (first | (refine step_append_one wa rfl (.tmp 25) (.tmp 34) 24 rfl Try.underlying24 info_int w.heap.size (i * m + j) _ _ x HTL.out rfl rfl oa hlr hxx hza ?_; intro A5 c5 w5 o5 hg5; have b5 := ba.mark hg5 (row_ne oa.1 ba (by decide)); have x5 := xa.mark hg5 (row_ne oa.1 xa (by decide)); have r5 := ra.mark hg5 (row_ne oa.1 ra (by decide)); have R5 := Ra.mark hg5 (fun q hq => Nat.le_trans hB (oa.bd q hq).1) (Nat.le_trans hB hza); have HB5 := Lib.hid (HBa.out.grown hg5 hza (fun q hq => (oa.bd q hq).1)); have f5 := x5.cell 2; have z5 := x5.frozen 2) | (go_simp; go_at_call 65; (with_reducible refine (l2At_int m k (i) (m - 1 - j) b off cc ((i : Int)) ((m : Int) - 1 - (j : Int)) xs x wr.drew rfl ha.out hl.out h64 hrk hcm hbwr' hx').mono ?_); rintro e wa ⟨rfl, hba⟩; have hb6 : Below wr.heap.size wr wa := below_drew hba; have hbc : ∀ b o, b < wr.heap.size → wa.cell? ⟨b, o, none⟩ = wr.cell? ⟨b, o, none⟩ := (bcell hb6).1; have hz6 : wr.heap.size ≤ wa.heap.size := hb6.size; have f2a := (hbc _ 2 hzx).trans f2; have oa := ho3.all hb6; have ba := b3.all hb6; have xa := x3.all hb6; have hxa := xa.lt; have hba2 := ba.lt; have hza : w.heap.size ≤ wa.heap.size := Nat.le_trans hbz hz6; have ra := r3.all hb6; have Ra := R3.all hb6 (Nat.le_trans hB hbz); have HBa := Lib.hid (HB3.out.trans (hb6.mono hbz))))
          all_goals
            rw [← HP.out] at o5
            clear hw1 hw2
            go_wp2
            go_roundw
            case rel => exact ⟨j + 1, A5, c5, by omega, by go_num, o5.far (row_ne' o5.1 x5 (by decide)) _, by have := x5.set_ 2 (.slice A5 (i * m + j + 1) c5); rw [← Nat.add_assoc]; simpa using this, r5.far (by simp) _, b5.far (by simp; omega) _, R5.keep (fun b' o' hb' => World.cell?_setCell_other _ _ _ _ (by first | (simp; done) | (simp; omega))), HB5.out.setCell (by show w.heap.size ≤ w.heap.size + 1 + 1 + 1; omega) _⟩
            case measure => simp [intOf]; omega
        · obtain rfl : j = m := by omega
          have e : i * j + j = (i + 1) * j := by rw [Nat.succ_mul]
          rw [e] at ho3 x3
          go_wp2
          go_roundw
          case rel => exact ⟨i + 1, A3, c3, by omega, by go_num, ho3, x3, r3, b3, R3, HB3.out⟩
          case measure => simp [intOf]; omega
    · obtain rfl : i = k := by omega
      rw [show (mirrorL m i xs).take (i * m) = mirrorL m i xs from gridL_all] at ho
      have f2 := x2.cell 2
      have g0 := r2.cell 0
      have g1 := r2.cell 1
      have g2 := r2.cell 2
      have z0 := r2.frozen 0
      have z1 := r2.frozen 1
      have z2 := r2.frozen 2
      have F := fin3 (p := w.heap.size + 1) (a := .int .i64 m) (b := .int .i64 i) (c := .slice A (i * m) c') ho (row_ne' ho.1 r2 (by decide)) HB.out (by omega)
      go_wp2
      exact bodyPost_ret (v := chartV m i (.slice A (i * m) c')) (by simp [results, Try.results81, go_sem, g0, g1, g2]) rfl ⟨A, c', by rw [mirrorL_len], by rw [mirrorL_len]; exact F.1, F.2⟩
end Go.Proofs.Ytpmhnklmhfadlaa
