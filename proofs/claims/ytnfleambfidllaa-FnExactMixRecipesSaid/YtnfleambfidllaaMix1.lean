/- The walks of what a mixture is made of: how much of a stuff, the stuffs of two recipes in order. Condition: valid recipes. -/
import Derived.Test.YtnfleambfidllaaMixMath
import Derived.Test.YtnfleambfidllaaConcatD
import Derived.Test.YtnfleambfidllaaStrs
import Derived.Test.YtnfleambfidllaaShelf
import Derived.Sort.OwnSorted
import Derived.Lib.OwnBridge
import Derived.Lib.RowBridge
namespace Go.Proofs.Ytnfleambfidllaa
open Go.RowKit

set_option maxRecDepth 100000 in
set_option maxHeartbeats 1000000 in
theorem perMilOf_any (A : Option Addr) (n c B : Nat) (xs : List DyePartR) (s : ByteArray) (w : World) (h : RdF dyePartF w B A n c xs) (hB : B ≤ w.heap.size) :
    Calls Try.prog 54 #[.slice A n c, .string s] w (Out w (.int .i64 (ofS xs s))) := by
  obtain rfl := h.len
  cases hp : posS xs s with
  | none =>
    have H := Lib.hid (ofS_none hp)
    have hc := partWith_any A _ c B xs s w h hB
    rw [posI_none hp] at hc
    go_enter Try.func54, Try.ntmps54
    go_wp2_with fail
    refine hc.mono ?_
    rintro e w1 ⟨rfl, hb⟩
    go_wp2
    go_ret
    exact ⟨ret_int H.out.symm, hb⟩
  | some k =>
    obtain ⟨p, ha, _, _⟩ := posS_of hp
    have hk := (List.getElem?_eq_some_iff.1 ha).1
    have H := Lib.hid (ofS_at hp ha)
    have hc := partWith_any A _ c B xs s w h hB
    rw [posI_some hp] at hc
    have HA := Lib.hid ha
    clear ha
    go_enter Try.func54, Try.ntmps54
    go_wp2_with fail
    refine hc.mono ?_
    rintro e w1 ⟨rfl, hb⟩
    obtain ⟨b, off, a, rfl, _, _, HX, e0, e1⟩ := DyePartR_at (F := dyePartF) rfl (fun _ => rfl) (fun _ => rfl) (h.all hb hB) hk
    obtain rfl : p = a := Option.some.inj (HA.out.symm.trans HX.out)
    have hki : (0 : Int) ≤ (k : Int) := by omega
    have hkn : (k : Int) < (xs.length : Int) := by omega
    go_wp2
    go_ret
    exact ⟨ret_int H.out.symm, hb⟩
set_option maxRecDepth 100000 in
set_option maxHeartbeats 1000000 in
theorem l7Of_any (A : Option Addr) (n c B : Nat) (xs : List DyePartR) (s : ByteArray) (w : World) (h : RdF dyePartF w B A n c xs) :
    Calls Try.prog 51 #[.slice A n c, .string s] w fun e w' => e = .returned (.int .i64 (ofS xs s)) ∧ w = w' := by
  have hlt := h.len_lt
  obtain rfl := h.len
  go_enter Try.func51, Try.ntmps51
  go_wp2
  go_loopw [5, 4] (fun i r wr => ∃ k : Nat, k ≤ xs.length ∧ i = .int .i64 k ∧ r = .int .i64 0 ∧ NoN xs s k ∧ wr = w) (fun i _ _ => xs.length - (intOf i).toNat)
  case atStart => exact ⟨0, Nat.zero_le _, rfl, rfl, noN_zero _ _, rfl⟩
  case round =>
    obtain ⟨k, hk, rfl, rfl, hno, rfl⟩ := hrel
    have HN := Lib.hid hno
    clear hno
    by_cases hkn : k < xs.length
    · obtain ⟨b, off, a, rfl, _, _, HX, e0, e1⟩ := DyePartR_at (F := dyePartF) rfl (fun _ => rfl) (fun _ => rfl) h hkn
      have hki : (0 : Int) ≤ (k : Int) := by omega
      have hkm : (k : Int) < (xs.length : Int) := by omega
      cases hq : (a.f0.toList == s.toList) with
      | true =>
        have H := Lib.hid (ofS_at (posS_some HX.out (show nameB s a = true from hq) HN.out) HX.out)
        go_wp2
        go_ret
        exact ⟨ret_int H.out.symm, rfl⟩
      | false =>
        have H := Lib.hid (noN_step HN.out HX.out (show nameB s a = false from hq))
        go_wp2
        go_roundw
        case rel => exact ⟨k + 1, by omega, by go_num, rfl, H.out, by first | rfl | trivial⟩
        case measure => simp [intOf]; omega
    · obtain rfl : k = xs.length := by omega
      have H := Lib.hid (ofS_none (posS_none HN.out))
      go_wp2
      go_ret
      exact ⟨ret_int H.out.symm, rfl⟩
/-- What the sort and the compaction leave. -/
theorem left_own {w1 : World} {lo g cap n nn q : Nat} {os : Array Obj} {ss : List (List UInt8)} (hown : w1.ownsRow lo 9 1 (.slice (some ⟨g, 0, none⟩) n cap) n (ss.map encStr)) (hlen : ss.length = n) (hlo : lo ≤ w1.heap.size) :
    (Go.Sort.putRow encStr (Go.Sort.ahead (Go.Sort.grow (Go.Sort.putRow encStr (Go.Sort.ahead w1 nn) g 0 (ss.mergeSort fun x y => decide (x ≤ y)).toArray) os) q) g 0 (Lib.compact (ss.mergeSort fun x y => decide (x ≤ y)) ++ List.replicate (n - (Lib.compact (ss.mergeSort fun x y => decide (x ≤ y))).length) []).toArray).ownsRow lo 9 1 (.slice (some ⟨g, 0, none⟩) (Lib.compact (ss.mergeSort fun x y => decide (x ≤ y))).length cap) (Lib.compact (ss.mergeSort fun x y => decide (x ≤ y))).length ((Lib.compact (ss.mergeSort fun x y => decide (x ≤ y))).map encStr) ∧
    Below lo w1 (Go.Sort.putRow encStr (Go.Sort.ahead (Go.Sort.grow (Go.Sort.putRow encStr (Go.Sort.ahead w1 nn) g 0 (ss.mergeSort fun x y => decide (x ≤ y)).toArray) os) q) g 0 (Lib.compact (ss.mergeSort fun x y => decide (x ≤ y)) ++ List.replicate (n - (Lib.compact (ss.mergeSort fun x y => decide (x ≤ y))).length) []).toArray) := by
  have hl2 : (ss.mergeSort fun x y => decide (x ≤ y)).length = ss.length := List.length_mergeSort ss
  have hle := Lib.compact_length_le (ss.mergeSort fun x y => decide (x ≤ y))
  subst hlen
  rcases hown.2 with ⟨h0, _⟩ | ⟨g', cap', cur, hv, hbase, hb, h1, h2, h3, h4⟩
  · cases h0
  cases hv
  have hs := ownsRow_sorted (n := nn) (os := os) (ts := ss.mergeSort fun x y => decide (x ≤ y)) hl2 hbase hb h1 h2 h3
  have hc := Lib.ownsRow_putRow (q := q) (k := (Lib.compact (ss.mergeSort fun x y => decide (x ≤ y))).length) (ys := Lib.compact (ss.mergeSort fun x y => decide (x ≤ y)) ++ List.replicate (ss.length - (Lib.compact (ss.mergeSort fun x y => decide (x ≤ y))).length) []) hs (by simp; omega) (by omega)
  rw [List.take_left] at hc
  exact ⟨hc, Lib.below_putRow ((Below.refl lo w1).grown (grownBy_sorted _) hlo (fun j hj => by cases hj; exact hbase)) hbase⟩
end Go.Proofs.Ytnfleambfidllaa
