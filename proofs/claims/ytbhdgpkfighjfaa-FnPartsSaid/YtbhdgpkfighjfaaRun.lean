/- The walks of LongestRun, the program's and the model's, and of what they call. No condition. -/
import Derived.Test.YtbhdgpkfighjfaaKnot
import Derived.Test.YtbhdgpkfighjfaaRunMath
namespace Go.Proofs.Ytbhdgpkfighjfaa
open Go.RowKit

set_option maxRecDepth 100000 in
set_option maxHeartbeats 1000000 in
theorem runIn_any (A : Option Addr) (n c B : Nat) (l : List Int) (w : World) (h : Rd w B A n c l) (hn : n ≤ 64) :
    Calls Try.prog 41 #[.slice A n c] w fun e w' => e = .returned (.int .i64 (best (fun j => l.getD j 0) n)) ∧ w = w' := by
  obtain rfl := h.len
  obtain ⟨E, hE⟩ : ∃ E : Nat → Int, E = fun j => l.getD j 0 := ⟨_, rfl⟩
  rw [← hE]
  have HE := Lib.hid hE
  clear hE
  go_enter Try.func41, Try.ntmps41
  go_wp2
  go_loop [9, 3, 4, 5, 6] (fun i s3 s4 s5 s6 => ∃ k : Nat, k ≤ l.length ∧ i = .int .i64 k ∧ s3 = .int .i64 (best E k) ∧ s4 = .int .i64 (cur E k)) (fun i _ _ _ _ => l.length - (intOf i).toNat)
  case atStart => exact ⟨0, Nat.zero_le _, rfl, rfl, rfl⟩
  case round =>
    obtain ⟨k, hk, rfl, rfl, rfl⟩ := hrel
    have bb := best_bd E k
    have bc := cur_bd E k
    by_cases hlt : k < l.length
    · obtain ⟨b, off, rfl, _, hc⟩ := h.cells (by omega)
      obtain ⟨x, HX⟩ : ∃ x, Hid (E k = x) := ⟨_, rfl⟩
      have hx : w.cell? ⟨b, off + k, none⟩ = some (.int .i64 x) := by rw [hc k hlt, ← HX.out, HE.out]
      by_cases h0 : 0 < k
      · obtain ⟨y, HY⟩ : ∃ y, Hid (E (k - 1) = y) := ⟨_, rfl⟩
        have hy : w.cell? ⟨b, off + (k - 1), none⟩ = some (.int .i64 y) := by rw [hc (k - 1) (by omega), ← HY.out, HE.out]
        clear hc
        by_cases hxy : x = y
        · have HC := Lib.hid (show cur E (k + 1) = cur E k + 1 by rw [cur_succ, if_pos ⟨h0, by rw [HX.out, HY.out]; exact hxy⟩])
          subst hxy
          go_wp2
          all_goals
            go_round
            case rel => exact ⟨k + 1, by omega, by go_num, by rw [best_succ, HC.out]; go_num, by rw [HC.out]⟩
            case measure => simp [intOf]; omega
        · have HC := Lib.hid (show cur E (k + 1) = 1 by rw [cur_succ, if_neg (fun g => hxy (by rw [← HX.out, ← HY.out]; exact g.2))])
          have hne : (x != y) = true := by simpa using hxy
          go_wp2
          all_goals
            go_round
            case rel => exact ⟨k + 1, by omega, by go_num, by rw [best_succ, HC.out]; go_num, by rw [HC.out]⟩
            case measure => simp [intOf]; omega
      · obtain rfl : k = 0 := by omega
        have HC := Lib.hid (show cur E (0 + 1) = 1 from rfl)
        have HB := Lib.hid (show best E (0 + 1) = 1 from rfl)
        have b0 : best E 0 = 0 := rfl
        have c0 : cur E 0 = 0 := rfl
        rw [Nat.add_zero] at hx
        clear hc bb bc
        go_wp2
        all_goals
          go_round
          case rel => exact ⟨1, by omega, by go_num, by rw [HB.out], by rw [HC.out]⟩
          case measure => simp [intOf]; omega
    · obtain rfl : k = l.length := by omega
      go_wp2
      go_ret
      exact ⟨rfl, rfl⟩

set_option maxRecDepth 100000 in
set_option maxHeartbeats 1000000 in
theorem implLongestRun_any (W H : Int) (A : Option Addr) (n c B : Nat) (xs : List Int) (w : World) (h : Rd w B A n c xs) (hB : B ≤ w.heap.size) :
    Calls Try.prog 18 #[chartV W H (.slice A n c)] w (Out w (.tuple #[.int .i64 (runN W H xs), .int .i64 (runR W H xs), .bool (goodB W H xs)])) := by
  have hb0 := Lib.hid (show Below w.heap.size w (w.alloc (.cells #[.int .i64 W, .int .i64 H, .slice A n c] 26)) from (Below.refl _ _).alloc (Nat.le_refl _) _)
  have h' := h.alloc hB (.cells #[.int .i64 W, .int .i64 H, .slice A n c] 26)
  have x0 := Blk.new w #[.int .i64 W, .int .i64 H, .slice A n c] 26
  by_cases hg : goodB W H xs = true
  · rw [show runN W H xs = mostR W.toNat xs H.toNat from if_pos hg, show runR W H xs = atR W.toNat xs H.toNat from if_pos hg, hg]
    obtain ⟨m, k, rfl, rfl, m1, m8, k1, k8, hl, h64, hl1, _⟩ := good_nat hg
    rw [Int.toNat_natCast, Int.toNat_natCast]
    obtain rfl := h.len
    obtain ⟨b, off, rfl, hbB, hc0⟩ := h'.cells (by omega)
    have hcap := h.cap
    have hmax := h.max
    clear h hc0
    go_enter Try.func18, Try.ntmps18
    go_wp2_with fail
    refine (implIsChart_any m k _ _ c B xs _ h' (by simp; omega)).mono ?_
    rintro e w1 ⟨rfl, hb⟩
    have x1 := x0.all hb
    have R1 := h'.all hb (by simp; omega)
    have HB := Lib.hid (hb0.out.trans (hb.mono (by simp)))
    have e1 := x1.cell 1
    clear hb h' x0
    rw [hg]
    go_wp2
    go_loopw [14, 5, 6, 7, 8] (fun i s5 s6 s7 s8 wr => ∃ r : Nat, r ≤ k ∧ i = .int .i64 r ∧ s5 = .int .i64 (mostR m xs r) ∧ s6 = .int .i64 (atR m xs r) ∧ Blk wr w.heap.size 26 #[.int .i64 m, .int .i64 k, .slice (some ⟨b, off, none⟩) xs.length c] ∧ Rd wr B (some ⟨b, off, none⟩) xs.length c xs ∧ Below w.heap.size w wr)
      (fun i _ _ _ _ _ => k - (intOf i).toNat)
    case atStart => exact ⟨0, Nat.zero_le _, rfl, rfl, rfl, x1, R1, HB.out⟩
    case round =>
      obtain ⟨r, hr, rfl, rfl, rfl, x2, R2, hbl⟩ := hrel
      have HB := Lib.hid hbl
      have bm := mostR_bd m xs r
      have ba := atR_bd m xs r
      have bb := best_bd (elt m xs r) m
      have e0 := x2.cell 0
      have e1 := x2.cell 1
      have e2 := x2.cell 2
      clear hbl
      by_cases hlt : r < k
      · go_wp2_with fail
        refine (rowOf_any m k r b off c xs _ hl.out hcap hmax m1 m8 hlt k8).mono ?_
        rintro e w2 ⟨rfl, hb2⟩
        have x3 := x2.all hb2
        have R3 := R2.all hb2 (by have := HB.out.size; omega)
        have HB2 := Lib.hid (HB.out.trans (hb2.mono HB.out.size))
        clear e0 e1 e2
        have e1 := x3.cell 1
        have hrow : Rd w2 B (some ⟨b, off + r * m, none⟩) m (c - r * m) (rowL m r xs) := R3.row hl.out hlt
        go_wp2_with fail
        refine (runIn_any _ m _ B (rowL m r xs) _ hrow (by omega)).mono ?_
        rintro e w3 ⟨rfl, rfl⟩
        rw [row_elt]
        by_cases hgt : mostR m xs r < best (elt m xs r) m
        · have E1 := Lib.hid (show mostR m xs (r + 1) = best (elt m xs r) m by show max _ _ = _; omega)
          have E2 := Lib.hid (show atR m xs (r + 1) = r from if_pos hgt)
          go_wp2
          go_roundw
          case rel => exact ⟨r + 1, by omega, by go_num, by rw [E1.out], by rw [E2.out], x3, R3, HB2.out⟩
          case measure => simp [intOf]; omega
        · have E1 := Lib.hid (show mostR m xs (r + 1) = mostR m xs r by show max _ _ = _; omega)
          have E2 := Lib.hid (show atR m xs (r + 1) = atR m xs r from if_neg hgt)
          go_wp2
          go_roundw
          case rel => exact ⟨r + 1, by omega, by go_num, by rw [E1.out], by rw [E2.out], x3, R3, HB2.out⟩
          case measure => simp [intOf]; omega
      · obtain rfl : r = k := by omega
        go_wp2
        go_ret3
        exact ⟨rfl, HB.out⟩
  · have hg' := not_false hg
    rw [show runN W H xs = 0 from if_neg hg, show runR W H xs = 0 from if_neg hg, hg']
    go_enter Try.func18, Try.ntmps18
    go_wp2_with fail
    refine (implIsChart_any W H A n c B xs _ h' (by simp; omega)).mono ?_
    rintro e w1 ⟨rfl, hb⟩
    rw [hg']
    go_wp2_with fail
    go_ret3
    exact ⟨rfl, hb0.out.trans (hb.mono (by simp))⟩

theorem l2At_int (m k r j b off c : Nat) (i i' : Int) (xs : List Int) (x : Int) (w : World) (hi : i = r) (hi' : i' = j) (h : xs.length = m * k) (h64 : m * k ≤ 64) (hr : r < k) (hj : j < m) (hB : b < w.heap.size)
    (hx : w.cell? ⟨b, off + (r * m + j), none⟩ = some (.int .i64 x)) :
    Calls Try.prog 35 #[chartV m k (.slice (some ⟨b, off, none⟩) xs.length c), .int .i64 i, .int .i64 i'] w (Out w (.int .i64 x)) := by
  subst hi; subst hi'
  exact l2At_any m k r j b off c xs x w h h64 hr hj hB hx
end Go.Proofs.Ytbhdgpkfighjfaa
