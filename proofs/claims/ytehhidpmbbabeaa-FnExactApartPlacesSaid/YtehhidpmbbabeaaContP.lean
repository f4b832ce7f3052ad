/- The walks of slices.ContainsFunc over pairs with the closure of ApartPlaces. Condition: the closure answers at each pair. -/
import Derived.Test.YtehhidpmbbabeaaPlaceMath
namespace Go.Proofs.Ytehhidpmbbabeaa
open Go.RowKit

set_option maxRecDepth 100000 in
set_option maxHeartbeats 2000000 in
theorem indexP_any (A : Option Addr) (n c B q0 q1 : Nat) (xs : List PairR) (w : World) (h : RdF pairF w B A n c xs) (hB : B ≤ w.heap.size) (p : PairR → Bool)
    (hp : Hid (∀ (W : World) (a : PairR), a ∈ xs → Below w.heap.size w W → Calls Try.prog 72 #[.agg #[.int .i64 a.f0, .int .i64 a.f1], .pointer (some ⟨q0, 0, none⟩), .pointer (some ⟨q1, 0, none⟩)] W (Out W (.bool (p a))))) :
    Calls Try.prog 99 #[.slice A n c, .func (.func 72) #[] #[.pointer (some ⟨q0, 0, none⟩), .pointer (some ⟨q1, 0, none⟩)]] w fun e w' => ∃ r : Int, e = .returned (.int .i64 r) ∧ decide (0 ≤ r) = xs.any p ∧ Below w.heap.size w w' := by
  have hl := h.len
  have hlt := h.len_lt
  have hb0 := Lib.hid (Below.refl w.heap.size w)
  go_enter Try.func99, Try.ntmps99
  go_wp2
  go_loopw [8] (fun s8 wr => ∃ k : Nat, k ≤ n ∧ s8 = .int .i64 k ∧ Hid ((xs.take k).any p = false) ∧ RdF pairF wr B A n c xs ∧ Hid (Below w.heap.size w wr)) (fun s8 _ => n - (intOf s8).toNat)
  case atStart => exact ⟨0, Nat.zero_le _, rfl, by simp [Hid], h, hb0⟩
  case round =>
    clear h hb0
    obtain ⟨k, hk, rfl, HK, h1, HB⟩ := hrel
    by_cases hkn : k < n
    · obtain ⟨b, off, a, rfl, hb, _, HX, e0, e1⟩ := Pair_at h1 hkn
      have hwz := HB.out.size
      have hbz : b < wr.heap.size := by omega
      have hmem : a ∈ xs := List.mem_of_getElem? HX.out
      have hcall := Lib.hid (hp.out wr a hmem HB.out)
      have HN := Lib.hid (show (xs.take (k + 1)).any p = p a by
        obtain ⟨hi, rfl⟩ := List.getElem?_eq_some_iff.1 HX.out
        rw [List.take_succ_eq_append_getElem hi, List.any_append, HK.out]
        simp)
      have hsub := Lib.hid (show p a = true → xs.any p = true from fun hh => List.any_eq_true.2 ⟨a, hmem, hh⟩)
      clear HX hmem
      cases hq : p a with
      | true =>
        rw [hq] at HN hcall
        have hd := hsub.out hq
        clear hsub hq
        go_wp2_with (go_at_call 72; refine hcall.out.mono ?_; rintro e w2 ⟨rfl, hb2⟩)
        go_ret
        exact ⟨(k : Int), rfl, by rw [hd]; exact decide_eq_true (by omega), HB.out.trans (hb2.mono hwz)⟩
      | false =>
        rw [hq] at HN hcall
        clear hsub hq
        go_wp2_with (go_at_call 72; refine hcall.out.mono ?_; rintro e w2 ⟨rfl, hb2⟩)
        have h2 := h1.all hb2 (Nat.le_trans hB hwz)
        have HB2 := Lib.hid (HB.out.trans (hb2.mono hwz))
        go_roundw
        case rel => exact ⟨k + 1, by omega, by go_num, HN, h2, HB2⟩
        case measure => simp [intOf]; omega
    · obtain rfl : k = n := by omega
      have hall : xs.any p = false := by
        have := HK.out
        rwa [List.take_of_length_le (by omega)] at this
      go_wp2
      go_ret
      exact ⟨-1, rfl, by rw [hall]; rfl, HB.out⟩
set_option maxRecDepth 100000 in
set_option maxHeartbeats 1000000 in
theorem containsP_any (A : Option Addr) (n c B q0 q1 : Nat) (xs : List PairR) (w : World) (h : RdF pairF w B A n c xs) (hB : B ≤ w.heap.size) (p : PairR → Bool)
    (hp : Hid (∀ (W : World) (a : PairR), a ∈ xs → Below w.heap.size w W → Calls Try.prog 72 #[.agg #[.int .i64 a.f0, .int .i64 a.f1], .pointer (some ⟨q0, 0, none⟩), .pointer (some ⟨q1, 0, none⟩)] W (Out W (.bool (p a))))) (d : Bool) (hd : xs.any p = d) :
    Calls Try.prog 74 #[.slice A n c, .func (.func 72) #[] #[.pointer (some ⟨q0, 0, none⟩), .pointer (some ⟨q1, 0, none⟩)]] w (Out w (.bool d)) := by
  go_enter Try.func74, Try.ntmps74
  go_wp2_with (go_at_call 99; refine (indexP_any A n c B q0 q1 xs w h hB p hp).mono ?_; rintro e w2 ⟨r, rfl, hr, hb2⟩)
  go_ret
  exact ⟨ret_bool (by rw [← hd, ← hr]), hb2⟩
end Go.Proofs.Ytehhidpmbbabeaa
