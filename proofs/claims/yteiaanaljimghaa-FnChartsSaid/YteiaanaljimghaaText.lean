/- The walks of ChartText, the program's and the model's. No condition. -/
import Derived.Test.YteiaanaljimghaaKnot
import Derived.Test.YteiaanaljimghaaBytes
import Derived.Test.YteiaanaljimghaaTextMath
namespace Go.Proofs.Yteiaanaljimghaa
open Go.RowKit

set_option maxRecDepth 100000 in
set_option maxHeartbeats 2000000 in
theorem implChartText_yes (m k b off c B : Nat) (xs : List Int) (w : World) (h : Rd w B (some ⟨b, off, none⟩) xs.length c xs) (hB : B ≤ w.heap.size) (hg : goodB m k xs = true) (m1 : 1 ≤ m) (m8 : m ≤ 8) (k8 : k ≤ 8) (hl : Hid (xs.length = m * k)) (h64 : m * k ≤ 64) (hcol : ∀ x ∈ xs, 0 ≤ x ∧ x < 6) :
    Calls Try.prog 8 #[chartV m k (.slice (some ⟨b, off, none⟩) xs.length c)] w (Out w (.tuple #[.string ⟨(tx m xs (k * m)).toArray⟩, .bool true])) := by
  have hb0 := Lib.hid (show Below w.heap.size w (w.alloc (.cells #[.int .i64 m, .int .i64 k, .slice (some ⟨b, off, none⟩) xs.length c] 26)) from (Below.refl _ _).alloc (Nat.le_refl _) _)
  have h' := h.alloc hB (.cells #[.int .i64 m, .int .i64 k, .slice (some ⟨b, off, none⟩) xs.length c] 26)
  have x0 := Blk.new w #[.int .i64 m, .int .i64 k, .slice (some ⟨b, off, none⟩) xs.length c] 26
  have hcap := h.cap
  have hmax := h.max
  have hx64 : xs.length ≤ 64 := by have := hl.out; omega
  clear h
  go_enter Try.func8, Try.ntmps8
  go_wp2_with fail
  refine (implIsChart_any m k _ _ c B xs _ h' (by simp; omega)).mono ?_
  rintro e w1 ⟨rfl, hb⟩
  have x1 := x0.all hb
  have R1 := h'.all hb (by simp; omega)
  have HB := Lib.hid (hb0.out.trans (hb.mono (by simp)))
  have e1 := x1.cell 1
  clear hb h' x0
  rw [hg]
  go_wp2
  go_loopw [13, 4, 5, 7] (fun i s4 s5 s7 wr => ∃ (r : Nat) (A : Option Addr) (cc : Nat), r ≤ k ∧ i = .int .i64 r ∧ s4 = .slice A (tx m xs (r * m)).length cc ∧ OwnB wr w.heap.size (.slice A (tx m xs (r * m)).length cc) (tx m xs (r * m)) ∧
      Blk wr w.heap.size 26 #[.int .i64 m, .int .i64 k, .slice (some ⟨b, off, none⟩) xs.length c] ∧ Rd wr B (some ⟨b, off, none⟩) xs.length c xs ∧ Below w.heap.size w wr)
    (fun i _ _ _ _ => k - (intOf i).toNat)
  case atStart => exact ⟨0, none, 0, Nat.zero_le _, rfl, by rw [Nat.zero_mul]; rfl, by rw [Nat.zero_mul]; exact OwnB.nil _ _, x1, R1, HB.out⟩
  case round =>
    obtain ⟨r, A, cc, hr, rfl, rfl, ho, x2, R2, hbl⟩ := hrel
    have HB2 := Lib.hid hbl
    have hbz := hbl.size
    have e0 := x2.cell 0
    have e1 := x2.cell 1
    have e2 := x2.cell 2
    have hT := tx_len m xs (r * m)
    clear hbl HB R1 x1
    by_cases hlt : r < k
    · have hrm := row_le hl.out hlt
      have hTs : (tx m xs (r * m)).length + (⟨#[47]⟩ : ByteArray).size ≤ 1073741824 := by
        have : (⟨#[47]⟩ : ByteArray).size = 1 := rfl
        omega
      by_cases hr0 : 0 < r
      · go_wp2_with (at_builtin; refine wpList_appendB_str wr rfl (.tmp 18) (.const (.string ⟨#[47]⟩)) 22 9 rfl Try.underlying22 Try.underlying9 info_byte w.heap.size _ _ ⟨#[47]⟩ rfl rfl ho hTs hbz ?_)
        intro A2 c2 w2 ho2 hg2
        have HP := Lib.hid (show px m xs r 0 = tx m xs (r * m) ++ [47] by simp [px, hr0])
        have x2' := x2.mark hg2 (row_ne ho x2 (by decide))
        have R2' := R2.mark hg2 (fun q hq => by have := (ho.lt q hq).1; omega) (by omega)
        have HB2' := Lib.hid (HB2.out.grown hg2 hbz (fun q hq => (ho.lt q hq).1))
        have HL2 := Lib.hid (show (tx m xs (r * m) ++ [47]).length = (tx m xs (r * m)).length + 1 by simp)
        clear e0 e1 e2
        have e0 := x2'.cell 0
        have e1 := x2'.cell 1
        have e2 := x2'.cell 2
        go_wp2_with fail
        refine (rowOf_any m k r b off c xs _ hl.out hcap hmax m1 m8 hlt k8).mono ?_
        rintro e w3 ⟨rfl, hb3⟩
        have x3 := x2'.all hb3
        have R3 := R2'.all hb3 (by have := HB2'.out.size; omega)
        have HB3 := Lib.hid (HB2'.out.trans (hb3.mono HB2'.out.size))
        have ho3 := ho2.all hb3
        have hrow : Rd w3 B (some ⟨b, off + r * m, none⟩) m (c - r * m) (rowL m r xs) := R3.row hl.out hlt
        clear hb3 e0 e1 e2 x2 R2
        go_wp2
        go_loopw [24, 4, 7] (fun i s4 s7 wr => ∃ (j : Nat) (A : Option Addr) (cc : Nat), j ≤ m ∧ i = .int .i64 j ∧ s4 = .slice A (px m xs r j).length cc ∧ OwnB wr w.heap.size (.slice A (px m xs r j).length cc) (px m xs r j) ∧
            Blk wr w.heap.size 26 #[.int .i64 m, .int .i64 k, .slice (some ⟨b, off, none⟩) xs.length c] ∧ Rd wr B (some ⟨b, off, none⟩) xs.length c xs ∧ Rd wr B (some ⟨b, off + r * m, none⟩) m (c - r * m) (rowL m r xs) ∧ Below w.heap.size w wr)
          (fun i _ _ _ => m - (intOf i).toNat)
        case atStart => exact ⟨0, A2, c2, Nat.zero_le _, rfl, by rw [HP.out, HL2.out], by rw [HP.out, HL2.out]; exact ho3, x3, R3, hrow, HB3.out⟩
        case round =>
          obtain ⟨j, A4, c4, hj, rfl, rfl, ho4, x4, R4, hrow4, hbl⟩ := hrel
          have HB4 := Lib.hid hbl
          have hbz4 := hbl.size
          have hT4 := px_len m xs r j
          clear hbl x3 R3 hrow
          by_cases hjm : j < m
          · obtain ⟨_, _, x, hbb, _, hcx, _, _, HX⟩ := hrow4.at hjm
            cases hbb
            have hxx : 0 ≤ x ∧ x < 6 := by
              rw [← HX.out, rowL_get hjm, getD_at (at_lt hl.out hlt hjm)]; exact hcol _ (List.getElem_mem _)
            have HY := Lib.hid (px_step (xs := xs) (r := r) m1 hjm)
            rw [show xs.getD (r * m + j) 0 = x by rw [← rowL_get hjm]; exact HX.out] at HY
            have HL := Lib.hid (letter_nat hxx).symm
            have hTl : (px m xs r j).length ≤ 1073741824 := by omega
            go_wp2_with (at_builtin; refine wpList_appendB_one wr rfl (.tmp 28) (.tmp 32) 22 rfl Try.underlying22 info_byte w.heap.size _ _ _ (letter x) HL.out rfl rfl ho4 hTl hbz4 ?_)
            intro A5 c5 w5 ho5 hg5
            have hl5 : (px m xs r j).length + 1 = (px m xs r (j + 1)).length := by rw [HY.out, List.length_append]; rfl
            have HL5 := Lib.hid hl5
            clear hl5
            rw [← HY.out] at ho5
            have x5 := x4.mark hg5 (row_ne ho4 x4 (by decide))
            have R5 := R4.mark hg5 (fun q hq => by have := (ho4.lt q hq).1; omega) (by omega)
            have hrow5 := hrow4.mark hg5 (fun q hq => by have := (ho4.lt q hq).1; omega) (by omega)
            have HB5 := Lib.hid (HB4.out.grown hg5 hbz4 (fun q hq => (ho4.lt q hq).1))
            go_wp2
            go_roundw
            case rel => exact ⟨j + 1, A5, c5, by omega, by go_num, by rw [HL5.out], by rw [← HL5.out]; exact ho5, x5, R5, hrow5, HB5.out⟩
            case measure => simp [intOf]; omega
          · obtain rfl : j = m := by omega
            rw [px_end m1] at ho4
            have HE := Lib.hid (px_end (xs := xs) (r := r) m1)
            rw [HE.out]
            go_wp2
            go_roundw
            case rel => exact ⟨r + 1, A4, c4, by omega, by go_num, rfl, ho4, x4, R4, HB4.out⟩
            case measure => simp [intOf]; omega
      · have HP := Lib.hid (show px m xs r 0 = tx m xs (r * m) by simp [px, hr0])
        go_wp2_with fail
        refine (rowOf_any m k r b off c xs _ hl.out hcap hmax m1 m8 hlt k8).mono ?_
        rintro e w3 ⟨rfl, hb3⟩
        have x3 := x2.all hb3
        have R3 := R2.all hb3 (by have := HB2.out.size; omega)
        have HB3 := Lib.hid (HB2.out.trans (hb3.mono HB2.out.size))
        have ho3 := ho.all hb3
        have hrow : Rd w3 B (some ⟨b, off + r * m, none⟩) m (c - r * m) (rowL m r xs) := R3.row hl.out hlt
        clear hb3 e0 e1 e2 x2 R2
        go_wp2
        go_loopw [24, 4, 7] (fun i s4 s7 wr => ∃ (j : Nat) (A : Option Addr) (cc : Nat), j ≤ m ∧ i = .int .i64 j ∧ s4 = .slice A (px m xs r j).length cc ∧ OwnB wr w.heap.size (.slice A (px m xs r j).length cc) (px m xs r j) ∧
            Blk wr w.heap.size 26 #[.int .i64 m, .int .i64 k, .slice (some ⟨b, off, none⟩) xs.length c] ∧ Rd wr B (some ⟨b, off, none⟩) xs.length c xs ∧ Rd wr B (some ⟨b, off + r * m, none⟩) m (c - r * m) (rowL m r xs) ∧ Below w.heap.size w wr)
          (fun i _ _ _ => m - (intOf i).toNat)
        case atStart => exact ⟨0, A, cc, Nat.zero_le _, rfl, by rw [HP.out], by rw [HP.out]; exact ho3, x3, R3, hrow, HB3.out⟩
        case round =>
          obtain ⟨j, A4, c4, hj, rfl, rfl, ho4, x4, R4, hrow4, hbl⟩ := hrel
          have HB4 := Lib.hid hbl
          have hbz4 := hbl.size
          have hT4 := px_len m xs r j
          clear hbl x3 R3 hrow
          by_cases hjm : j < m
          · obtain ⟨_, _, x, hbb, _, hcx, _, _, HX⟩ := hrow4.at hjm
            cases hbb
            have hxx : 0 ≤ x ∧ x < 6 := by
              rw [← HX.out, rowL_get hjm, getD_at (at_lt hl.out hlt hjm)]; exact hcol _ (List.getElem_mem _)
            have HY := Lib.hid (px_step (xs := xs) (r := r) m1 hjm)
            rw [show xs.getD (r * m + j) 0 = x by rw [← rowL_get hjm]; exact HX.out] at HY
            have HL := Lib.hid (letter_nat hxx).symm
            have hTl : (px m xs r j).length ≤ 1073741824 := by omega
            go_wp2_with (at_builtin; refine wpList_appendB_one wr rfl (.tmp 28) (.tmp 32) 22 rfl Try.underlying22 info_byte w.heap.size _ _ _ (letter x) HL.out rfl rfl ho4 hTl hbz4 ?_)
            intro A5 c5 w5 ho5 hg5
            have hl5 : (px m xs r j).length + 1 = (px m xs r (j + 1)).length := by rw [HY.out, List.length_append]; rfl
            have HL5 := Lib.hid hl5
            clear hl5
            rw [← HY.out] at ho5
            have x5 := x4.mark hg5 (row_ne ho4 x4 (by decide))
            have R5 := R4.mark hg5 (fun q hq => by have := (ho4.lt q hq).1; omega) (by omega)
            have hrow5 := hrow4.mark hg5 (fun q hq => by have := (ho4.lt q hq).1; omega) (by omega)
            have HB5 := Lib.hid (HB4.out.grown hg5 hbz4 (fun q hq => (ho4.lt q hq).1))
            go_wp2
            go_roundw
            case rel => exact ⟨j + 1, A5, c5, by omega, by go_num, by rw [HL5.out], by rw [← HL5.out]; exact ho5, x5, R5, hrow5, HB5.out⟩
            case measure => simp [intOf]; omega
          · obtain rfl : j = m := by omega
            rw [px_end m1] at ho4
            have HE := Lib.hid (px_end (xs := xs) (r := r) m1)
            rw [HE.out]
            go_wp2
            go_roundw
            case rel => exact ⟨r + 1, A4, c4, by omega, by go_num, rfl, ho4, x4, R4, HB4.out⟩
            case measure => simp [intOf]; omega
    · obtain rfl : r = k := by omega
      have hcv := ho.str 22 9 Try.underlying22 Try.underlying5 Try.underlying9
      go_wp2
      go_ret2
      exact ⟨rfl, HB2.out⟩

theorem str_cat (l : List UInt8) (b : UInt8) : (⟨l.toArray⟩ : ByteArray) ++ (⟨#[b]⟩ : ByteArray) = ⟨(l ++ [b]).toArray⟩ := by
  apply ByteArray.ext
  simp
theorem conv_letter (w : World) (x : Int) (q : Int) (hq : q = ((letter x).toNat : Int)) :
    (convert 22 9 (.slice (some ⟨w.heap.size, 0, none⟩) 1 1)).run Try.prog (w.alloc (.cells #[.int .u8 q] 5)) = .ok (.string ⟨#[letter x]⟩) (w.alloc (.cells #[.int .u8 q] 5)) := by
  subst hq
  refine run_convert_bytes_back _ 22 9 5 ⟨w.heap.size, 0, none⟩ 1 [letter x] Try.underlying22 Try.underlying5 Try.underlying9 fun j hj => ?_
  obtain rfl : j = 0 := by simp at hj; omega
  exact (Blk.new w #[byteV (letter x)] 5).cell 0
set_option maxRecDepth 100000 in
set_option maxHeartbeats 2000000 in
theorem l2Text_any (m k b off c B : Nat) (xs : List Int) (w : World) (h : Rd w B (some ⟨b, off, none⟩) xs.length c xs) (hB : B ≤ w.heap.size) (m1 : 1 ≤ m) (m8 : m ≤ 8) (hx64 : xs.length ≤ 64) (hcol : ∀ x ∈ xs, 0 ≤ x ∧ x < 6) :
    Calls Try.prog 45 #[chartV m k (.slice (some ⟨b, off, none⟩) xs.length c)] w (Out w (.string ⟨(tx m xs xs.length).toArray⟩)) := by
  have hb0 := Lib.hid (show Below w.heap.size w (w.alloc (.cells #[.int .i64 m, .int .i64 k, .slice (some ⟨b, off, none⟩) xs.length c] 26)) from (Below.refl _ _).alloc (Nat.le_refl _) _)
  have h' := h.alloc hB (.cells #[.int .i64 m, .int .i64 k, .slice (some ⟨b, off, none⟩) xs.length c] 26)
  have x0 := Blk.new w #[.int .i64 m, .int .i64 k, .slice (some ⟨b, off, none⟩) xs.length c] 26
  clear h
  go_enter Try.func45, Try.ntmps45
  go_wp2
  go_loopw [4, 3] (fun i s3 wr => ∃ i' : Nat, i' ≤ xs.length ∧ i = .int .i64 i' ∧ s3 = .string ⟨(tx m xs i').toArray⟩ ∧
      Blk wr w.heap.size 26 #[.int .i64 m, .int .i64 k, .slice (some ⟨b, off, none⟩) xs.length c] ∧ Rd wr B (some ⟨b, off, none⟩) xs.length c xs ∧ Below w.heap.size w wr)
    (fun i _ _ => xs.length - (intOf i).toNat)
  case atStart => exact ⟨0, Nat.zero_le _, rfl, rfl, x0, h', hb0.out⟩
  case round =>
    obtain ⟨i, hi, rfl, rfl, x1, R1, hbl⟩ := hrel
    have HB := Lib.hid hbl
    have hbz := hbl.size
    have e0 := x1.cell 0
    have e2 := x1.cell 2
    have hT := tx_len m xs i
    clear hbl h' x0
    by_cases hlt : i < xs.length
    · obtain ⟨_, _, x, hbb, _, hcx, _, _, HX⟩ := R1.at hlt
      cases hbb
      have hxx : 0 ≤ x ∧ x < 6 := by rw [← HX.out, getD_at hlt]; exact hcol _ (List.getElem_mem _)
      have hcv := conv_letter wr x (97 + x) (letter_nat hxx).symm
      obtain ⟨T, HT⟩ : ∃ T, Hid (tx m xs i = T) := ⟨_, rfl⟩
      rw [HT.out] at hT ⊢
      have HS := Lib.hid (tx_succ m xs i)
      have hi00 : (0 : Int) ≤ (i : Int) := by omega
      by_cases hs : 0 < i ∧ i % m = 0
      · have HSl := Lib.hid (show slash m i = [47] from if_pos hs)
        have hmod : ((i : Int) % (m : Int)) = 0 := by omega
        obtain ⟨hs1, hs2⟩ := hs
        go_wp2
        go_roundw
        case rel => exact ⟨i + 1, by omega, by go_num, by rw [HS.out, HT.out, HX.out, HSl.out, str_cat, str_cat], x1.alloc _, R1.alloc (by omega) _, HB.out.alloc hbz _⟩
        case measure => simp [intOf]; omega
      · have HSl := Lib.hid (show slash m i = [] from if_neg hs)
        by_cases hi0 : 0 < i
        · have hmod : ((i : Int) % (m : Int) == 0) = false := by
            rw [beq_eq_false_iff_ne]
            intro g
            exact hs ⟨hi0, by have e : ((i % m : Nat) : Int) = (i : Int) % (m : Int) := rfl; omega⟩
          clear hs
          go_wp2
          go_roundw
          case rel => exact ⟨i + 1, by omega, by go_num, by rw [HS.out, HT.out, HX.out, HSl.out, List.append_nil, str_cat], x1.alloc _, R1.alloc (by omega) _, HB.out.alloc hbz _⟩
          case measure => simp [intOf]; omega
        · have hneg : (i : Int) ≤ 0 := by omega
          clear hs
          go_wp2
          go_roundw
          case rel => exact ⟨i + 1, by omega, by go_num, by rw [HS.out, HT.out, HX.out, HSl.out, List.append_nil, str_cat], x1.alloc _, R1.alloc (by omega) _, HB.out.alloc hbz _⟩
          case measure => simp [intOf]; omega
    · obtain rfl : i = xs.length := by omega
      go_wp2
      go_ret
      exact ⟨rfl, HB.out⟩

theorem text_no {W H : Int} {xs : List Int} (h : ¬ goodB W H xs = true) : textC W H xs = ⟨#[]⟩ := if_neg h
theorem implChartText_any (W H : Int) (A : Option Addr) (n c B : Nat) (xs : List Int) (w : World) (h : Rd w B A n c xs) (hB : B ≤ w.heap.size) :
    Calls Try.prog 8 #[chartV W H (.slice A n c)] w (Out w (.tuple #[.string (textC W H xs), .bool (goodB W H xs)])) := by
  by_cases hg : goodB W H xs = true
  · rw [show textC W H xs = ⟨(tx W.toNat xs xs.length).toArray⟩ from if_pos hg, hg]
    obtain ⟨m, k, rfl, rfl, m1, m8, k1, k8, hl, h64, hl1, hcol⟩ := good_nat hg
    rw [Int.toNat_natCast]
    obtain rfl := h.len
    obtain ⟨b, off, rfl, _, _⟩ := h.cells (by omega)
    have := implChartText_yes m k b off c B xs w h hB hg m1 m8 k8 hl (by have := hl.out; omega) hcol
    rwa [Nat.mul_comm k m, ← hl.out] at this
  · have hb0 := Lib.hid (show Below w.heap.size w (w.alloc (.cells #[.int .i64 W, .int .i64 H, .slice A n c] 26)) from (Below.refl _ _).alloc (Nat.le_refl _) _)
    have h' := h.alloc hB (.cells #[.int .i64 W, .int .i64 H, .slice A n c] 26)
    have hg' := not_false hg
    rw [text_no hg, hg']
    go_enter Try.func8, Try.ntmps8
    go_wp2_with fail
    refine (implIsChart_any W H A n c B xs _ h' (by simp; omega)).mono ?_
    rintro e w1 ⟨rfl, hb⟩
    rw [hg']
    go_wp2_with fail
    go_ret2
    exact ⟨rfl, hb0.out.trans (hb.mono (by simp))⟩
theorem specChartText_any (W H : Int) (A : Option Addr) (n c B : Nat) (xs : List Int) (w : World) (h : Rd w B A n c xs) (hB : B ≤ w.heap.size) :
    Calls Try.prog 10 #[chartV W H (.slice A n c)] w (Out w (.tuple #[.string (textC W H xs), .bool (goodB W H xs)])) := by
  have hb0 := Lib.hid (show Below w.heap.size w (w.alloc (.cells #[.int .i64 W, .int .i64 H, .slice A n c] 26)) from (Below.refl _ _).alloc (Nat.le_refl _) _)
  have h' := h.alloc hB (.cells #[.int .i64 W, .int .i64 H, .slice A n c] 26)
  have x0 := Blk.new w #[.int .i64 W, .int .i64 H, .slice A n c] 26
  by_cases hg : goodB W H xs = true
  · rw [show textC W H xs = ⟨(tx W.toNat xs xs.length).toArray⟩ from if_pos hg, hg]
    obtain ⟨m, k, rfl, rfl, m1, m8, k1, k8, hl, h64, hl1, hcol⟩ := good_nat hg
    rw [Int.toNat_natCast]
    obtain rfl := h.len
    obtain ⟨b, off, rfl, _, _⟩ := h.cells (by omega)
    clear h
    go_enter Try.func10, Try.ntmps10
    go_wp2_with fail
    refine (l2Good_any m k _ _ c B xs _ h' (by simp; omega)).mono ?_
    rintro e w1 ⟨rfl, hb⟩
    have x1 := x0.all hb
    have R1 := h'.all hb (by simp; omega)
    have HB := Lib.hid (hb0.out.trans (hb.mono (by simp)))
    have e0 := x1.cell 0
    have e1 := x1.cell 1
    have e2 := x1.cell 2
    have hsz := x1.lt
    clear hb h' x0
    rw [hg]
    go_wp2_with fail
    refine (l2Text_any m k b off c B xs _ R1 (by omega) m1 m8 h64 hcol).mono ?_
    rintro e w2 ⟨rfl, hb2⟩
    go_wp2_with fail
    go_ret2
    exact ⟨rfl, HB.out.trans (hb2.mono (by omega))⟩
  · have hg' := not_false hg
    rw [text_no hg, hg']
    go_enter Try.func10, Try.ntmps10
    go_wp2_with fail
    refine (l2Good_any W H A n c B xs _ h' (by simp; omega)).mono ?_
    rintro e w1 ⟨rfl, hb⟩
    rw [hg']
    go_wp2_with fail
    go_ret2
    exact ⟨rfl, hb0.out.trans (hb.mono (by simp))⟩
end Go.Proofs.Yteiaanaljimghaa
