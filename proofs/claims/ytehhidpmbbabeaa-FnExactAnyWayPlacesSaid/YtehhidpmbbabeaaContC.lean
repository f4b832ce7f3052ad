/- The walks of slices.ContainsFunc over charts with the closure of waysOf. Condition: the closure answers at each chart. -/
import Derived.Test.YtehhidpmbbabeaaSide
namespace Go.Proofs.Ytehhidpmbbabeaa
open Go.RowKit

set_option maxRecDepth 100000 in
set_option maxHeartbeats 2000000 in
theorem indexC_any (A : Option Addr) (n c B q0 : Nat) (xs : List ChR) (w : World) (h : RdF chartsF w B A n c xs) (hB : B ≤ w.heap.size) (p : Nat → Bool)
    (hp : Hid (∀ (W : World) (j : Nat) (a : ChR), xs[j]? = some a → Below w.heap.size w W → Calls Try.prog 101 #[.agg #[.int .i64 a.W, .int .i64 a.H, .slice a.A a.n a.c], .pointer (some ⟨q0, 0, none⟩)] W (Out W (.bool (p j))))) :
    Calls Try.prog 113 #[.slice A n c, .func (.func 101) #[] #[.pointer (some ⟨q0, 0, none⟩)]] w fun e w' => ∃ r : Int, e = .returned (.int .i64 r) ∧ decide (0 ≤ r) = (List.range n).any p ∧ Below w.heap.size w w' := by
  have hl := h.len
  have hlt := h.len_lt
  have hb0 := Lib.hid (Below.refl w.heap.size w)
  go_enter Try.func113, Try.ntmps113
  go_wp2
  go_loopw [8] (fun s8 wr => ∃ k : Nat, k ≤ n ∧ s8 = .int .i64 k ∧ Hid ((List.range k).any p = false) ∧ RdF chartsF wr B A n c xs ∧ Hid (Below w.heap.size w wr)) (fun s8 _ => n - (intOf s8).toNat)
  case atStart => exact ⟨0, Nat.zero_le _, rfl, by simp [Hid], h, hb0⟩
  case round =>
    clear h hb0
    obtain ⟨k, hk, rfl, HK, h1, HB⟩ := hrel
    by_cases hkn : k < n
    · obtain ⟨b, off, a, rfl, hb, HX, e0, e1, e2⟩ := Ch_at h1 hkn
      have hwz := HB.out.size
      have hbz : b < wr.heap.size := by omega
      have hmem : a ∈ xs := List.mem_of_getElem? HX.out
      have hcall := Lib.hid (hp.out wr k a HX.out HB.out)
      have HN := Lib.hid (show (List.range (k + 1)).any p = p k by rw [List.range_succ, List.any_append, HK.out]; simp)
      have hsub := Lib.hid (show p k = true → (List.range n).any p = true from fun hh => List.any_eq_true.2 ⟨k, List.mem_range.2 hkn, hh⟩)
      clear HX hmem
      cases hq : p k with
      | true =>
        rw [hq] at HN hcall
        have hd := hsub.out hq
        clear hsub hq
        go_wp2_with (go_at_call 101; refine hcall.out.mono ?_; rintro e w2 ⟨rfl, hb2⟩)
        go_ret
        exact ⟨(k : Int), rfl, by rw [hd]; exact decide_eq_true (by omega), HB.out.trans (hb2.mono hwz)⟩
      | false =>
        rw [hq] at HN hcall
        clear hsub hq
        go_wp2_with (go_at_call 101; refine hcall.out.mono ?_; rintro e w2 ⟨rfl, hb2⟩)
        have h2 := h1.all hb2 (Nat.le_trans hB hwz)
        have HB2 := Lib.hid (HB.out.trans (hb2.mono hwz))
        go_roundw
        case rel => exact ⟨k + 1, by omega, by go_num, HN, h2, HB2⟩
        case measure => simp [intOf]; omega
    · obtain rfl : k = n := by omega
      have hall : (List.range k).any p = false := by exact HK.out
      go_wp2
      go_ret
      exact ⟨-1, rfl, by rw [hall]; rfl, HB.out⟩
set_option maxRecDepth 100000 in
set_option maxHeartbeats 1000000 in
theorem containsC_any (A : Option Addr) (n c B q0 : Nat) (xs : List ChR) (w : World) (h : RdF chartsF w B A n c xs) (hB : B ≤ w.heap.size) (p : Nat → Bool)
    (hp : Hid (∀ (W : World) (j : Nat) (a : ChR), xs[j]? = some a → Below w.heap.size w W → Calls Try.prog 101 #[.agg #[.int .i64 a.W, .int .i64 a.H, .slice a.A a.n a.c], .pointer (some ⟨q0, 0, none⟩)] W (Out W (.bool (p j))))) (d : Bool) (hd : (List.range n).any p = d) :
    Calls Try.prog 103 #[.slice A n c, .func (.func 101) #[] #[.pointer (some ⟨q0, 0, none⟩)]] w (Out w (.bool d)) := by
  go_enter Try.func103, Try.ntmps103
  go_wp2_with (go_at_call 113; refine (indexC_any A n c B q0 xs w h hB p hp).mono ?_; rintro e w2 ⟨r, rfl, hr, hb2⟩)
  go_ret
  exact ⟨ret_bool (by rw [← hd, ← hr]), hb2⟩
end Go.Proofs.Ytehhidpmbbabeaa
