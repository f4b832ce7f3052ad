/- The draws of chapter 12's functions over a chart and areas; the laws' own words for sums and membership. Condition: at most 65536 bytes. -/
import Derived.Test.YtpnmnkdnlajfiaaAreaTop
import Derived.Test.YtpnmnkdnlajfiaaMgDraws
import Derived.StillTailTactics
namespace Go.Proofs.Ytpnmnkdnlajfiaa
open Go.RowKit

theorem lit12 {l : List Int} (h : ∀ x ∈ l, -1000 ≤ x ∧ x ≤ 1000) : ∀ x ∈ l, I64 x := fun x hx => by have := h x hx; unfold I64; omega
set_option maxRecDepth 100000 in
set_option maxHeartbeats 400000 in
theorem vHas_eq (A : Option Addr) (n c B : Nat) (xs : List Int) (x : Int) (w : World) (d : Bool) (h : Rd w B A n c xs) (hd : Hid (decide (x ∈ xs) = d)) :
    Calls Try.prog 12 #[.slice A n c, .int .i64 x] w fun e w' => e = .returned (.bool d) ∧ w = w' := by
  have hl := h.len_lt
  obtain rfl := h.len
  go_enter Try.func12, Try.ntmps12
  go_wp2
  go_loop [5] (fun i => ∃ k : Nat, k ≤ xs.length ∧ i = .int .i64 k ∧ Hid (x ∉ xs.take k)) (fun i => xs.length - (intOf i).toNat)
  case atStart => exact ⟨0, Nat.zero_le _, rfl, Lib.hid (by simp)⟩
  case round =>
    obtain ⟨k, hk, rfl, HN⟩ := hrel
    by_cases hlt : k < xs.length
    · obtain ⟨b, off, y, rfl, _, hc, _, _, HY⟩ := h.at hlt
      by_cases e : y = x
      · have HX := Lib.hid (show d = true by
          rw [← hd.out]
          exact decide_eq_true (by rw [← e, ← HY.out, getD_at hlt]; exact List.getElem_mem hlt))
        have eb : (y == x) = true := by simp [e]
        go_wp2
        go_ret
        exact ⟨ret_bool HX.out.symm, rfl⟩
      · have HN2 := Lib.hid (show x ∉ xs.take (k + 1) by
          rw [List.take_succ_eq_append_getElem hlt, List.mem_append, List.mem_singleton]
          rintro (g | g)
          · exact HN.out g
          · exact e (by rw [g, ← getD_at hlt, HY.out]))
        have eb : (y == x) = false := by simp [e]
        go_wp2
        go_round
        case rel => exact ⟨k + 1, hlt, by go_num, HN2⟩
        case measure => simp [intOf]; omega
    · have HX := Lib.hid (show d = false by
        rw [← hd.out]
        have := HN.out
        rw [List.take_of_length_le (by omega)] at this
        exact decide_eq_false this)
      go_wp2
      go_ret
      exact ⟨ret_bool HX.out.symm, rfl⟩
theorem sum_bd12 {xs : List Int} (h : ∀ x ∈ xs, 0 ≤ x ∧ x ≤ 1000) (k : Nat) : 0 ≤ (xs.take k).sum ∧ (xs.take k).sum ≤ 1000 * (k : Int) := by
  induction k with
  | zero => simp
  | succ k ih =>
    by_cases hk : k < xs.length
    · rw [List.take_succ_eq_append_getElem hk, List.sum_append_int, List.sum_cons, List.sum_nil, Int.add_zero]
      have := h _ (List.getElem_mem hk)
      omega
    · rw [List.take_of_length_le (by omega)] at ih ⊢
      omega
theorem areasN_rng (W H : Int) (xs : List Int) : 0 ≤ areasN W H xs ∧ areasN W H xs ≤ 64 := by
  cases hg : goodB W H xs with
  | false => rw [areasN_no hg]; omega
  | true =>
    have h1 := (good_bd hg).1
    have h2 := cnt_le W.toNat xs
    rw [show areasN W H xs = ((cntOf W.toNat xs : Nat) : Int) from if_pos hg]
    omega
end Go.Proofs.Ytpnmnkdnlajfiaa
