/- The draws of chapter 12's functions over a chart and areas; the laws' own words for sums and membership. Condition: at most 65536 bytes. -/
import Derived.Test.YtgahompcejbjoaaAreaTop
import Derived.Test.YtgahompcejbjoaaMgDraws
import Derived.StillTailTactics
namespace Go.Proofs.Ytgahompcejbjoaa
open Go.RowKit

theorem lit12 {l : List Int} (h : ∀ x ∈ l, -1000 ≤ x ∧ x ≤ 1000) : ∀ x ∈ l, I64 x := fun x hx => by have := h x hx; unfold I64; omega
set_option maxRecDepth 100000 in
set_option maxHeartbeats 400000 in
theorem vHas_eq (A : Option Addr) (n c B : Nat) (xs : List Int) (x : Int) (w : World) (d : Bool) (h : Rd w B A n c xs) (hd : Hid (decide (x ∈ xs) = d)) :
    Calls Try.prog 17 #[.slice A n c, .int .i64 x] w fun e w' => e = .returned (.bool d) ∧ w = w' := by
  have hl := h.len_lt
  obtain rfl := h.len
  go_enter Try.func17, Try.ntmps17
  go_wp2
  go_loop [5] (fun i => ∃ k : Nat, k ≤ xs.length ∧ i = .int .i64 k ∧ Hid (x ∉ xs.take k)) (fun i => xs.length - (intOf i).toNat)
  case atStart => exact ⟨0, Nat.zero_le _, rfl, Lib.hid (by simp)⟩
  case round =>
    obtain ⟨k, hk, rfl, HN⟩ := hrel
    by_cases hlt : k < xs.length
    · obtain ⟨b, off, y, rfl, _, hc, _, _, HY⟩ := h.at hlt
      by_cases e : y = x
      · have HX := Lib.hid (show d = true by
          rw [← hd.out]
          exact decide_eq_true (by rw [← e, ← HY.out, getD_at hlt]; exact List.getElem_mem hlt))
        have eb : (y == x) = true := by simp [e]
        go_wp2
        go_ret
        exact ⟨ret_bool HX.out.symm, rfl⟩
      · have HN2 := Lib.hid (show x ∉ xs.take (k + 1) by
          rw [List.take_succ_eq_append_getElem hlt, List.mem_append, List.mem_singleton]
          rintro (g | g)
          · exact HN.out g
          · exact e (by rw [g, ← getD_at hlt, HY.out]))
        have eb : (y == x) = false := by simp [e]
        go_wp2
        go_round
        case rel => exact ⟨k + 1, hlt, by go_num, HN2⟩
        case measure => simp [intOf]; omega
    · have HX := Lib.hid (show d = false by
        rw [← hd.out]
        have := HN.out
        rw [List.take_of_length_le (by omega)] at this
        exact decide_eq_false this)
      go_wp2
      go_ret
      exact ⟨ret_bool HX.out.symm, rfl⟩
theorem sum_bd12 {xs : List Int} (h : ∀ x ∈ xs, 0 ≤ x ∧ x ≤ 1000) (k : Nat) : 0 ≤ (xs.take k).sum ∧ (xs.take k).sum ≤ 1000 * (k : Int) := by
  induction k with
  | zero => simp
  | succ k ih =>
    by_cases hk : k < xs.length
    · rw [List.take_succ_eq_append_getElem hk, List.sum_append_int, List.sum_cons, List.sum_nil, Int.add_zero]
      have := h _ (List.getElem_mem hk)
      omega
    · rw [List.take_of_length_le (by omega)] at ih ⊢
      omega
set_option maxRecDepth 100000 in
set_option maxHeartbeats 400000 in
theorem vSum12 (A : Option Addr) (n c B : Nat) (xs : List Int) (w : World) (v : Int) (h : Rd w B A n c xs) (hn : n ≤ 1000) (hxh : Hid (∀ x ∈ xs, 0 ≤ x ∧ x ≤ 1000)) (hv : Hid (xs.sum = v)) :
    Calls Try.prog 12 #[.slice A n c] w fun e w' => e = .returned (.int .i64 v) ∧ w = w' := by
  have hx := hxh.out
  have hl := h.len
  go_enter Try.func12, Try.ntmps12
  go_wp2
  go_loop [3, 4] (fun s i => ∃ k : Nat, k ≤ n ∧ i = .int .i64 k ∧ s = .int .i64 (xs.take k).sum) (fun _ i => n - (intOf i).toNat)
  case atStart => exact ⟨0, Nat.zero_le _, rfl, by simp⟩
  case round =>
    obtain ⟨k, hk, rfl, rfl⟩ := hrel
    by_cases hlt : k < n
    · obtain ⟨b, off, x, rfl, _, hc, _, _, HX⟩ := h.at hlt
      have hs := sum_bd12 hx k
      have hxb : 0 ≤ x ∧ x ≤ 1000 := by
        have := hx _ (List.getElem_mem (show k < xs.length by omega))
        rw [← HX.out, getD_at (by omega)]; exact this
      have HS := Lib.hid (show (xs.take (k + 1)).sum = (xs.take k).sum + x by
        rw [List.take_succ_eq_append_getElem (by omega), List.sum_append_int, List.sum_cons, List.sum_nil, Int.add_zero, ← HX.out, getD_at (by omega)])
      generalize (xs.take k).sum = S at *
      go_wp2
      go_round
      case rel => exact ⟨k + 1, by omega, by go_num, by rw [HS.out]⟩
      case measure => simp [intOf]; omega
    · obtain rfl : k = n := by omega
      have HV := Lib.hid (show (xs.take k).sum = v by rw [List.take_of_length_le (by omega)]; exact hv.out)
      generalize (xs.take k).sum = S at *
      go_wp2
      go_ret
      exact ⟨ret_int HV.out, rfl⟩
theorem areasN_rng (W H : Int) (xs : List Int) : 0 ≤ areasN W H xs ∧ areasN W H xs ≤ 64 := by
  cases hg : goodB W H xs with
  | false => rw [areasN_no hg]; omega
  | true =>
    have h1 := (good_bd hg).1
    have h2 := cnt_le W.toNat xs
    rw [show areasN W H xs = ((cntOf W.toNat xs : Nat) : Int) from if_pos hg]
    omega
set_option maxRecDepth 100000 in
set_option maxHeartbeats 4000000 in
theorem areaOf_any (p k : Nat) (W H : Int) (A : Option Addr) (c lo : Nat) (xs : List Int) (w : World) (h : Cur w p k) (hk : k + 10 ≤ 4294967296) (ho : Own w lo (.slice A xs.length c) xs) :
    Calls Try.prog 32 #[.pointer (some ⟨p, 0, none⟩), chartV W H (.slice A xs.length c)] w (Drew w p (k + 10) fun y => -1 ≤ y ∧ y ≤ 64) := by
  have hal : Below w.heap.size w (w.alloc (.cells #[.int .i64 W, .int .i64 H, .slice A xs.length c] 26)) := (Below.refl _ _).alloc (Nat.le_refl _) _
  have x0 := Blk.new w #[.int .i64 W, .int .i64 H, .slice A xs.length c] 26
  have o1 := ho.all hal
  have hc1 := h.all hal
  have hp := h.lt
  have e0 := x0.cell 0
  have e1 := x0.cell 1
  have e2 := x0.cell 2
  obtain ⟨hn0, hn64⟩ := areasN_rng W H xs
  go_enter Try.func32, Try.ntmps32
  go_upto_region 1 with fail
  generalize w.alloc (.cells #[.int .i64 W, .int .i64 H, .slice A xs.length c] 26) = w1 at *
  go_wp2_with fail
  refine (specAreaCount_any W H A _ c w1.heap.size xs _ o1.rd (Nat.le_refl _)).mono ?_
  rintro e w2 ⟨rfl, hb2⟩
  have hc2 := hc1.all hb2
  have HB2 := hal.trans (hb2.mono hal.size)
  obtain ⟨n, hn⟩ : ∃ n, areasN W H xs = n := ⟨_, rfl⟩
  obtain ⟨ok, hok⟩ : ∃ ok, goodB W H xs = ok := ⟨_, rfl⟩
  rw [hn] at hn0 hn64 ⊢
  rw [hok]
  clear hb2 hc1 o1 x0 e0 e1 e2 hal hn hok
  have HG2 : w.grownBy w2 (some p) := below_grown HB2
  have key : ∀ (w3 : World) (k3 : Nat), Cur w3 p k3 → k3 ≤ k + 2 → w.grownBy w3 (some p) → Calls Try.prog 52 #[.pointer (some ⟨p, 0, none⟩), .slice (some ⟨w3.heap.size, 0, none⟩) 3 3] (w3.alloc (.cells #[.int .i64 (-1), .int .i64 0, .int .i64 n] 3)) (Drew w p (k + 10) fun y => -1 ≤ y ∧ y ≤ 64) := by
    intro w3 k3 hc3 hk3 hg3
    refine (among_lit p k3 w3.heap.size 3 [-1, 0, n] w3 rfl rfl hc3 (by omega) (by simp) (by simp) (fun x hx => by
      simp only [List.mem_cons, List.not_mem_nil, or_false] at hx
      rcases hx with rfl | rfl | rfl <;> exact ⟨by omega, by omega⟩)).mono ?_
    rintro e w4 ⟨y, rfl, hy, hc4, hg4⟩
    refine ⟨y, rfl, ?_, hc4.more (by omega), grown_trans hg3 hg4⟩
    simp only [List.mem_cons, List.not_mem_nil, or_false] at hy
    rcases hy with rfl | rfl | rfl <;> omega
  cases ok with
  | false =>
    have hkey := key w2 k hc2 (by omega) HG2
    clear key
    go_wp2_with fail
    refine hkey.mono ?_
    rintro e w4 ⟨y, rfl, hy, hc4, hg4⟩
    go_wp2
    go_ret
    exact ⟨y, rfl, hy, hc4, hg4⟩
  | true =>
    go_wp2_with fail
    refine (one_any p k 10 w2 hc2 (by omega) (by omega) (by omega)).mono ?_
    rintro e w3 ⟨d, rfl, hc3, hg3⟩
    have HG3 := grown_trans HG2 hg3
    cases d with
    | true =>
      have hkey := key w3 (k + 2) hc3 (Nat.le_refl _) HG3
      clear key
      go_wp2_with fail
      refine hkey.mono ?_
      rintro e w4 ⟨y, rfl, hy, hc4, hg4⟩
      go_wp2
      go_ret
      exact ⟨y, rfl, hy, hc4, hg4⟩
    | false =>
      clear key
      go_wp2_with fail
      refine (pick_any p (k + 2) n w3 hc3 (by omega) (by omega) (by omega)).mono ?_
      rintro e w4 ⟨y, rfl, hy, hc4, hg4⟩
      go_wp2
      go_ret
      exact ⟨y, rfl, ⟨by omega, by omega⟩, hc4.more (by omega), grown_trans HG3 hg4⟩
end Go.Proofs.Ytgahompcejbjoaa
