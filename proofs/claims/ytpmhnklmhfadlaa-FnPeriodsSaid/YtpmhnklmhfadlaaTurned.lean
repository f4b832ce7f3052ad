/- The walk of the program's turned. Condition: sides of at most 8. -/
import Derived.Test.YtpmhnklmhfadlaaSpecTurn
namespace Go.Proofs.Ytpmhnklmhfadlaa
open Go.RowKit

theorem rowOf_i (m k r b off n c : Nat) (w : World) (h : n = m * k) (hc : n ≤ c) (hcm : c ≤ maxLen) (hm : 1 ≤ m) (hm8 : m ≤ 8) (hr : r < k) (hk8 : k ≤ 8) (i : Int) (hi : i = r) :
    Calls Try.prog 56 #[chartV m k (.slice (some ⟨b, off, none⟩) n c), .int .i64 i] w (Out w (.slice (some ⟨b, off + r * m, none⟩) m (c - r * m))) := by
  subst hi
  have := rowOf_any m k r b off c (List.replicate n 0) w (by rw [List.length_replicate]; exact h) (by rw [List.length_replicate]; exact hc) hcm hm hm8 hr hk8
  rwa [List.length_replicate] at this
set_option maxRecDepth 100000 in
set_option maxHeartbeats 4000000 in
theorem turned_any (m k b off cc B : Nat) (xs : List Int) (w : World) (hR : Rd w B (some ⟨b, off, none⟩) xs.length cc xs) (hB : B ≤ w.heap.size) (m1 : 1 ≤ m) (m8 : m ≤ 8) (k8 : k ≤ 8) (hl : Hid (xs.length = m * k)) (h64 : m * k ≤ 64) :
    Calls Try.prog 98 #[chartV m k (.slice (some ⟨b, off, none⟩) xs.length cc)] w (OwnChart w k m (turnL m k xs)) := by
  have hb0 := Lib.hid (((((Below.refl w.heap.size w).alloc (Nat.le_refl _) (.cells #[.int .i64 m, .int .i64 k, .slice (some ⟨b, off, none⟩) xs.length cc] 26)).alloc (by simp) (.cells #[.int .i64 0, .int .i64 0, .slice none 0 0] 26))).alloc (by simp; omega) (.cells #[.int .i64 k, .int .i64 m, .slice none 0 0] 26))
  have h1 := (((hR.alloc hB (.cells #[.int .i64 m, .int .i64 k, .slice (some ⟨b, off, none⟩) xs.length cc] 26)).alloc (by simp; omega) (.cells #[.int .i64 0, .int .i64 0, .slice none 0 0] 26))).alloc (by simp; omega) (.cells #[.int .i64 k, .int .i64 m, .slice none 0 0] 26)
  have x1 := (((Blk.new w #[.int .i64 m, .int .i64 k, .slice (some ⟨b, off, none⟩) xs.length cc] 26).alloc (.cells #[.int .i64 0, .int .i64 0, .slice none 0 0] 26))).alloc (.cells #[.int .i64 k, .int .i64 m, .slice none 0 0] 26)
  have r1 := (((Blk.new (w.alloc (.cells #[.int .i64 m, .int .i64 k, .slice (some ⟨b, off, none⟩) xs.length cc] 26)) #[.int .i64 0, .int .i64 0, .slice none 0 0] 26)).alloc (.cells #[.int .i64 k, .int .i64 m, .slice none 0 0] 26)).at_ (q := w.heap.size + 1) (by simp)
  have hbw : b < w.heap.size ∨ xs.length = 0 := by
    rcases Nat.eq_zero_or_pos xs.length with h0 | h0
    · exact .inr h0
    · obtain ⟨_, _, e, hb, _⟩ := hR.cells h0; cases e; exact .inl (by omega)
  have hcap := hR.cap
  have hmax := hR.max
  clear hR
  go_enter Try.func98, Try.ntmps98
  go_wp2
  go_loopw [13, 4, 5] (fun s13 s4 s5 wr => ∃ (i : Nat) (A : Option Addr) (c' : Nat), i ≤ m ∧ s13 = .int .i64 i ∧ Own wr w.heap.size (.slice A (i * k) c') ((turnL m k xs).take (i * k)) ∧
      Blk wr (w.heap.size + 1 + 1) 26 #[.int .i64 k, .int .i64 m, .slice A (i * k) c'] ∧ Blk wr (w.heap.size + 1) 26 #[.int .i64 0, .int .i64 0, .slice none 0 0] ∧
      Blk wr w.heap.size 26 #[.int .i64 m, .int .i64 k, .slice (some ⟨b, off, none⟩) xs.length cc] ∧ Rd wr B (some ⟨b, off, none⟩) xs.length cc xs ∧ Below w.heap.size w wr)
    (fun s13 _ _ _ => m - (intOf s13).toNat)
  case atStart =>
    refine ⟨0, none, 0, Nat.zero_le _, rfl, ?_, ?_, r1, x1, h1, hb0.out⟩
    · rw [Nat.zero_mul]
      exact Own.nil _ _
    · rw [Nat.zero_mul]
      exact (Blk.new _ _ _).at_ (by simp)
  case round =>
    obtain ⟨i, A, c', hi, rfl, ho, x2, r2, b2, R2, hbl⟩ := hrel
    have HB := Lib.hid hbl
    have lim2 := b2.cell 0
    have lim3 := b2.cell 1
    clear hbl hb0 h1 x1 r1
    obtain ⟨wo, rfl⟩ : ∃ wo : World, wo = wr := ⟨_, rfl⟩
    by_cases hlt : i < m
    · go_wp2
      clear lim2 lim3
      go_loopw [5] (fun s5 wr => ∃ (j : Nat) (A : Option Addr) (c' : Nat), j ≤ k ∧ s5 = .int .i64 ((k : Int) - 1 - (j : Int)) ∧ Own wr w.heap.size (.slice A (i * k + j) c') ((turnL m k xs).take (i * k + j)) ∧
          Blk wr (w.heap.size + 1 + 1) 26 #[.int .i64 k, .int .i64 m, .slice A (i * k + j) c'] ∧ Blk wr (w.heap.size + 1) 26 #[.int .i64 0, .int .i64 0, .slice none 0 0] ∧
          Blk wr w.heap.size 26 #[.int .i64 m, .int .i64 k, .slice (some ⟨b, off, none⟩) xs.length cc] ∧ Rd wr B (some ⟨b, off, none⟩) xs.length cc xs ∧ Below w.heap.size w wr)
        (fun s5 _ => (intOf s5 + 1).toNat)
      case atStart => exact ⟨0, A, c', Nat.zero_le _, by go_num, by rw [Nat.add_zero]; exact ho, by rw [Nat.add_zero]; exact x2, r2, b2, R2, HB.out⟩
      case round =>
        obtain ⟨j, A3, c3, hj, rfl, ho3, x3, r3, b3, R3, hbl⟩ := hrel
        have HB3 := Lib.hid hbl
        have hbz := hbl.size
        clear hbl ho x2 r2 b2 R2 HB
        by_cases hjk : j < k
        · have hrk : k - 1 - j < k := by omega
          have hlt' := at_lt hl.out hrk hlt
          have hrow := row_le hl.out hrk
          obtain ⟨_, _, hbb, hbB, hcell⟩ := R3.cells (by omega)
          cases hbb
          obtain ⟨x, HX⟩ : ∃ x, Hid (elt m xs (k - 1 - j) i = x) := ⟨_, rfl⟩
          have hx : wr.cell? ⟨b, off + (k - 1 - j) * m + i, none⟩ = some (.int .i64 x) := by rw [Nat.add_assoc, hcell _ hlt', ← HX.out]; rfl
          have hxx : I64 x := by rw [← HX.out]; exact R3.fit _
          have hbwr : b < wr.heap.size := by omega
          have HP := Lib.hid (gridL_take (f := fun i j => elt m xs (k - 1 - j) i) hlt hjk)
          change Hid (List.take (i * k + j + 1) (turnL m k xs) = List.take (i * k + j) (turnL m k xs) ++ [elt m xs (k - 1 - j) i]) at HP
          rw [HX.out] at HP
          have ha1 := Lib.hid (show (k : Int) - 1 - (j : Int) = ((k - 1 - j : Nat) : Int) by omega)
          have him : (i : Int) < (m : Int) := by omega
          have hzw := b3.lt
          have hzx := x3.lt
          have e0 := b3.cell 0
          have e1 := b3.cell 1
          have e2 := b3.cell 2
          have f2 := x3.cell 2
          have hle := grid_lt hlt hjk
          have htl : ((turnL m k xs).take (i * k + j)).length = i * k + j := by rw [List.length_take, turnL_len]; exact Nat.min_eq_left (Nat.le_of_lt hle)
          have HTL := Lib.hid htl
          have hlr : i * k + j ≤ 1073741824 := by omega
          clear hcell htl
          go_wp2
          go_region_law (first | (refine step_append_one wa rfl (.tmp 24) (.tmp 31) 24 rfl Try.underlying24 info_int w.heap.size (i * k + j) _ _ x HTL.out rfl rfl oa hlr hxx hza ?_; intro A5 c5 w5 o5 hg5; have b5 := ba.mark hg5 (row_ne oa.1 ba (by decide)); have x5 := xa.mark hg5 (row_ne oa.1 xa (by decide)); have r5 := ra.mark hg5 (row_ne oa.1 ra (by decide)); have R5 := Ra.mark hg5 (fun q hq => Nat.le_trans hB (oa.bd q hq).1) (Nat.le_trans hB hza); have HB5 := Lib.hid (HBa.out.grown hg5 hza (fun q hq => (oa.bd q hq).1)); have f5 := x5.cell 2; have z5 := x5.frozen 2) | (go_simp; go_at_call 56; (with_reducible refine (rowOf_i m k (k - 1 - j) b off xs.length cc wr.drew hl.out hcap hmax m1 m8 hrk k8 ((k : Int) - 1 - (j : Int)) ha1.out).mono ?_); rintro e wa ⟨rfl, hba⟩; have hb6 : Below wr.heap.size wr wa := below_drew hba; have hbc : ∀ b o, b < wr.heap.size → wa.cell? ⟨b, o, none⟩ = wr.cell? ⟨b, o, none⟩ := (bcell hb6).1; have hz6 : wr.heap.size ≤ wa.heap.size := hb6.size; have f2a := (hbc _ 2 hzx).trans f2; have hxa := (hbc b _ hbwr).trans hx; have oa := ho3.all hb6; have ba := b3.all hb6; have xa := x3.all hb6; have hxa2 := xa.lt; have hba2 := ba.lt; have hza : w.heap.size ≤ wa.heap.size := Nat.le_trans hbz hz6; have ra := r3.all hb6; have Ra := R3.all hb6 (Nat.le_trans hB hbz); have HBa := Lib.hid (HB3.out.trans (hb6.mono hbz))))
          all_goals
            rw [← HP.out] at o5
            go_wp2
            go_roundw
            case rel => exact ⟨j + 1, A5, c5, by omega, by go_num, o5.far (row_ne' o5.1 x5 (by decide)) _, by have := x5.set_ 2 (.slice A5 (i * k + j + 1) c5); rw [← Nat.add_assoc]; simpa using this, r5.far (by simp) _, b5.far (by simp; omega) _, R5.keep (fun b' o' hb' => World.cell?_setCell_other _ _ _ _ (by first | (simp; done) | (simp; omega))), HB5.out.setCell (by show w.heap.size ≤ w.heap.size + 1 + 1; omega) _⟩
            case measure => simp [intOf]; omega
        · obtain rfl : j = k := by omega
          have e : i * j + j = (i + 1) * j := by rw [Nat.succ_mul]
          rw [e] at ho3 x3
          go_wp2
          go_roundw
          case rel => exact ⟨i + 1, A3, c3, by omega, by go_num, ho3, x3, r3, b3, R3, HB3.out⟩
          case measure => simp [intOf]; omega
    · obtain rfl : i = m := by omega
      rw [show (turnL i k xs).take (i * k) = turnL i k xs from gridL_all] at ho
      have f0 := x2.cell 0
      have f1 := x2.cell 1
      have f2 := x2.cell 2
      have g0 := r2.cell 0
      have g1 := r2.cell 1
      have g2 := r2.cell 2
      have z0 := r2.frozen 0
      have z1 := r2.frozen 1
      have z2 := r2.frozen 2
      have F := fin3 (p := w.heap.size + 1) (a := .int .i64 k) (b := .int .i64 i) (c := .slice A (i * k) c') ho (row_ne' ho.1 r2 (by decide)) HB.out (by omega)
      go_wp2
      exact bodyPost_ret (v := chartV k i (.slice A (i * k) c')) (by simp [results, Try.results98, go_sem, g0, g1, g2]) rfl ⟨A, c', by rw [turnL_len], by rw [turnL_len]; exact F.1, F.2⟩
end Go.Proofs.Ytpmhnklmhfadlaa
