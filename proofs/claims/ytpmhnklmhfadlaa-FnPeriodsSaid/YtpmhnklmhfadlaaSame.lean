/- The walks of what tells that a chart has a symmetry: the program's isSameAfter, the model's l4Same. Condition: a valid chart and symmetry. -/
import Derived.Test.YtpmhnklmhfadlaaMove
namespace Go.Proofs.Ytpmhnklmhfadlaa
open Go.RowKit
set_option maxRecDepth 100000

theorem field_knots (a b : Int) (A : Option Addr) (n c : Nat) (w : World) : (Instr.field 26 (.agg #[.int .i64 a, .int .i64 b, .slice A n c]) 2).run Try.prog w = .ok (.slice A n c) w := rfl
theorem equal_eq (b o n c b' o' n' c' B B' : Nat) (xs ys : List Int) (w : World) (h : Rd w B (some ⟨b, o, none⟩) n c xs) (h' : Rd w B' (some ⟨b', o', none⟩) n' c' ys) (hn : 1 ≤ n) (hn' : 1 ≤ n') (d : Bool) (hd : decide (xs = ys) = d) :
    Calls Try.prog 61 #[.slice (some ⟨b, o, none⟩) n c, .slice (some ⟨b', o', none⟩) n' c'] w (Out w (.bool d)) := by
  subst hd
  obtain ⟨_, _, e, _, hc⟩ := h.cells (by omega)
  cases e
  obtain ⟨_, _, e, _, hc'⟩ := h'.cells (by omega)
  cases e
  obtain rfl := h.len
  obtain rfl := h'.len
  refine (Try.slices_Equal_int b o xs.length c b' o' ys.length c' xs ys w (Nat.le_refl _) (Nat.le_refl _) h.len_lt h'.len_lt hc hc').mono ?_
  rintro e w' ⟨rfl, q, rfl⟩
  refine ⟨ret_bool ?_, low_drewN _ _⟩
  rw [List.take_of_length_le (Nat.le_refl _), List.take_of_length_le (Nat.le_refl _), Bool.eq_iff_iff]
  simp
set_option maxRecDepth 100000 in
set_option maxHeartbeats 1000000 in
theorem l4Same_eq (m k m' k' n c n' c' B B' : Nat) (A A' : Option Addr) (xs ys : List Int) (w : World) (h : Rd w B A n c xs) (h' : Rd w B' A' n' c' ys) (hB : B ≤ w.heap.size) (hB' : B' ≤ w.heap.size) (hl : m' = m → k' = k → ys.length = xs.length) (d : Bool) (hd : decide (m' = m ∧ k' = k ∧ ys = xs) = d) :
    Calls Try.prog 52 #[chartV m k (.slice A n c), chartV m' k' (.slice A' n' c')] w (Out w (.bool d)) := by
  have hb0 := Lib.hid (((Below.refl w.heap.size w).alloc (Nat.le_refl _) (.cells #[.int .i64 m, .int .i64 k, .slice A n c] 26)).alloc (by simp) (.cells #[.int .i64 m', .int .i64 k', .slice A' n' c'] 26))
  have h1 := (h.alloc hB (.cells #[.int .i64 m, .int .i64 k, .slice A n c] 26)).alloc (by simp; omega) (.cells #[.int .i64 m', .int .i64 k', .slice A' n' c'] 26)
  have h2 := (h'.alloc hB' (.cells #[.int .i64 m, .int .i64 k, .slice A n c] 26)).alloc (by simp; omega) (.cells #[.int .i64 m', .int .i64 k', .slice A' n' c'] 26)
  have hn := h.len_lt
  have HD := Lib.hid hd
  clear hd
  by_cases hm : m' = m
  · subst hm
    by_cases hk : k' = k
    · subst hk
      have hle := hl rfl rfl
      obtain rfl := h.len
      obtain rfl := h'.len
      have HLE := Lib.hid hle
      clear h h' hl hle
      have hzz : w.heap.size ≤ ((w.alloc (.cells #[.int .i64 m', .int .i64 k', .slice A xs.length c] 26)).alloc (.cells #[.int .i64 m', .int .i64 k', .slice A' ys.length c'] 26)).heap.size := by simp; omega
      go_enter Try.func52, Try.ntmps52
      go_wp2
      go_loopw [5] (fun i wr => ∃ j q : Nat, j ≤ xs.length ∧ i = .int .i64 j ∧ (∀ t, t < j → ys.getD t 0 = xs.getD t 0) ∧ wr = ((w.alloc (.cells #[.int .i64 m', .int .i64 k', .slice A xs.length c] 26)).alloc (.cells #[.int .i64 m', .int .i64 k', .slice A' ys.length c'] 26)).drewN q) (fun i _ => xs.length - (intOf i).toNat)
      case atStart => exact ⟨0, 0, Nat.zero_le _, rfl, fun t ht => absurd ht (Nat.not_lt_zero _), rfl⟩
      case round =>
        obtain ⟨j, q, hj, rfl, hsame, rfl⟩ := hrel
        have HS := Lib.hid hsame
        clear hsame
        by_cases hlt : j < xs.length
        · have hlt2 : j < ys.length := by rw [HLE.out]; exact hlt
          obtain ⟨b1, o1, x, rfl, _, hx, _, _, HX⟩ := h1.at hlt
          obtain ⟨b2, o2, y, rfl, _, hy, _, _, HY⟩ := h2.at hlt2
          by_cases hxy : x = y
          · subst hxy
            have H := Lib.hid (show ∀ t, t < j + 1 → ys.getD t 0 = xs.getD t 0 from fun t ht => by
              rcases Nat.lt_or_ge t j with e | e
              · exact HS.out t e
              · obtain rfl : t = j := by omega
                rw [HX.out, HY.out])
            go_wp2
            go_quiet (fail)
            go_wp2
            go_roundw
            case rel => exact ⟨j + 1, _, by omega, by go_num, H.out, rfl⟩
            case measure => simp [intOf]; omega
          · have hne : (x != y) = true := by simpa using hxy
            have H := Lib.hid (show d = false by
              rw [← HD.out]
              simp only [true_and, decide_eq_false_iff_not]
              intro e
              have := HX.out
              rw [← e, HY.out] at this
              exact hxy this.symm)
            go_wp2
            go_quiet (fail)
            go_wp2
            go_ret
            exact ⟨ret_bool H.out.symm, by first | exact belowN hb0.out _ | exact belowN (belowN hb0.out _) _⟩
        · have H := Lib.hid (show d = true by
            rw [← HD.out]
            simp only [true_and, decide_eq_true_eq]
            exact list_ext0 HLE.out fun t ht => HS.out t (by rw [HLE.out] at ht; omega))
          go_wp2
          go_ret
          exact ⟨ret_bool H.out.symm, hb0.out.trans ((low_drewN _ _).mono hzz)⟩
    · have H := Lib.hid (show d = false by rw [← HD.out]; simp [hk])
      have hk' : ((k : Int) != (k' : Int)) = true := by simp; omega
      clear h h' h1 h2 hl
      go_enter Try.func52, Try.ntmps52
      go_wp2
      go_ret
      exact ⟨ret_bool H.out.symm, hb0.out⟩
  · have H := Lib.hid (show d = false by rw [← HD.out]; simp [hm])
    have hm' : ((m : Int) != (m' : Int)) = true := by simp; omega
    clear h h' h1 h2 hl
    go_enter Try.func52, Try.ntmps52
    go_wp2
    go_ret
    exact ⟨ret_bool H.out.symm, hb0.out⟩
end Go.Proofs.Ytpmhnklmhfadlaa
