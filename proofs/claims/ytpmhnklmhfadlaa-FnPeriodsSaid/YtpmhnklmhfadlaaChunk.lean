/- The walk of slices.Chunk over a chart's knots: an iterator over the rows. Condition: whole rows. -/
import Derived.RangeFuncNested
import Derived.RangeFuncBound
import Derived.RangeFuncCalls
import Derived.RangeFuncLeaves
import Derived.RangeFuncBox
import Derived.Shelf.Abstract
import Derived.Shelf.RegionOpen
import Derived.WalkKit
import Derived.OwnWalkIn
import Derived.TacticsInMore
import Derived.LoopNIn
import Derived.LoopIn
import Derived.Sort.QuietIn
import Derived.Maps.AppendAt
import Derived.Test.YtpmhnklmhfadlaaMgPs
import Derived.Test.YtpmhnklmhfadlaaMgSeq
namespace Go.Proofs.Ytpmhnklmhfadlaa
open Go.RowKit Go.Shelf
attribute [local go_sem] Oper.semAt_some

/-- What a round keeps: the two boxes that the iterator reads. -/
def Kp2 (p : Nat) (W W' : World) : Prop := W'.heap[p]? = W.heap[p]? ∧ W'.heap[p + 1]? = W.heap[p + 1]?
theorem kp2_t {p : Nat} {A B C : World} (h : Kp2 p A B) (k : Kp2 p B C) : Kp2 p A C := ⟨k.1.trans h.1, k.2.trans h.2⟩
theorem kp2_b {p n : Nat} (hp : p + 1 < n) (W : World) (l : Nat) (o o' : Obj) (hl : n ≤ l) (_ : W.heap[l]? = some o) (_ : o.isCells = false) (_ : o.isWalk = false) : Kp2 p W (W.putObj l o') :=
  ⟨World.putObj_heap_other (by omega), World.putObj_heap_other (by omega)⟩
def chunkAt (b off m r : Nat) : SlR := ⟨some ⟨b, off + r * m, none⟩, m, m⟩
def chunkL (b off m k : Nat) : List SlR := (List.range k).map (chunkAt b off m)
theorem chunkL_len (b off m k : Nat) : (chunkL b off m k).length = k := by simp [chunkL]
theorem chunkL_snoc (b off m k : Nat) : chunkL b off m k ++ [chunkAt b off m k] = chunkL b off m (k + 1) := by simp [chunkL, List.range_succ]

set_option maxRecDepth 100000 in
set_option maxHeartbeats 1000000 in
theorem chunk_in (F : Fence) (n : Nat) (h5 : F.fn 59) (hro : F.round = none) (A : Option Addr) (N c m : Nat) (m1 : 1 ≤ m) (w : World) :
    CallsIn F n Try.prog 59 #[.slice A N c, .int .i64 m] w fun e w' => e = .returned (.func (.func 85) #[] #[.pointer (some ⟨w.heap.size, 0, none⟩), .pointer (some ⟨w.heap.size + 1, 0, none⟩)]) ∧ w' = (w.alloc (.cells #[.slice A N c] 24)).alloc (.cells #[.int .i64 m] 3) := by
  refine callsIn_of_wp Try.func59 rfl h5 ?_ hro
  simp only [Try.ntmps59, List.size_toArray, List.length_cons, List.length_nil, Nat.reduceAdd, Nat.reduceSub, Array.replicate_succ, Array.replicate_zero, List.push_toArray, List.append_toArray, List.nil_append, List.cons_append]
  have hm1 : ¬ (m : Int) < 1 := by omega
  gi_wp2
  go_ret
  exact ⟨rfl, rfl⟩

set_option maxRecDepth 100000 in
set_option maxHeartbeats 2000000 in
theorem chunk1_in (n : Nat) (hn : 1 ≤ n) (l p b off N c m k : Nat) (m1 : 1 ≤ m) (m8 : m ≤ 8) (k8 : k ≤ 8) (hN : Hid (N = k * m)) (hc : N ≤ c) (J Jx : List SlR → World → Prop) (W : World) (hJ : AbidesFrom W.heap.size J)
    (hY : ∀ pre x W1, J pre W1 → pre.length < k + 1 → YieldAt Fence.wide (n - 1) Try.prog l #[.slice x.A x.n x.c] W1 fun e W' =>
      (e = .returned (.bool true) ∧ J (pre ++ [x]) W' ∧ Kp2 p W1 W') ∨ (e = .returned (.bool false) ∧ Jx (pre ++ [x]) W'))
    (h1 : Blk W p 24 #[.slice (some ⟨b, off, none⟩) N c]) (h2 : Blk W (p + 1) 3 #[.int .i64 m]) (h0 : J [] W) :
    CallsIn Fence.wide n Try.prog 85 #[.func (.yield l) #[] #[], .pointer (some ⟨p, 0, none⟩), .pointer (some ⟨p + 1, 0, none⟩)] W fun e W' => (∃ v, e = .returned v) ∧
      ((∃ ys, ys = chunkL b off m k ∧ J ys W') ∨ (∃ pre, True ∧ Jx pre W')) := by
  have hJd : Hid (∀ pre X q, J pre X → J pre (X.drewN q)) := Lib.hid fun pre X q h => hJ pre X (X.drewN q) none h ⟨rfl, rfl, rfl, Nat.le_refl _, fun _ _ _ => rfl⟩ (fun r e => by cases e)
  have hN64 : N ≤ 64 := by rw [hN.out]; exact Nat.mul_le_mul k8 m8
  refine callsIn_of_wp Try.func85 rfl trivial ?_ rfl
  simp only [Try.ntmps85, List.size_toArray, List.length_cons, List.length_nil, Nat.reduceAdd, Nat.reduceSub, Array.replicate_succ, Array.replicate_zero, List.push_toArray, List.append_toArray, List.nil_append, List.cons_append]
  gi_wp2
  gi_loopw [4] (fun s4 wr => ∃ (r i : Nat), r ≤ k ∧ Hid (i = r * m) ∧ s4 = .int .i64 i ∧ J (chunkL b off m r) wr ∧ Blk wr p 24 #[.slice (some ⟨b, off, none⟩) N c] ∧ Blk wr (p + 1) 3 #[.int .i64 m])
    (fun s4 _ => N - (intOf s4).toNat)
  case atStart => exact ⟨0, 0, Nat.zero_le _, Lib.hid (by simp), rfl, h0, h1, h2⟩
  case round =>
    obtain ⟨r, i, hr, HI, rfl, hJs, h1', h2'⟩ := hrel
    have c1 := h1'.cell 0
    have c2 := h2'.cell 0
    have him : i + m ≤ N ↔ r < k := by
      rw [HI.out, hN.out]
      constructor
      · intro h
        refine Nat.lt_of_not_le fun h' => ?_
        have := Nat.mul_le_mul_right m h'
        omega
      · intro h
        have := Nat.mul_le_mul_right m (Nat.succ_le_of_lt h)
        rw [Nat.succ_mul] at this
        exact this
    by_cases hlt : r < k
    · have hle : i + m ≤ N := him.2 hlt
      clear him
      have hiN : (i : Int) < (N : Int) := by omega
      have hw1 : IntKind.i64.wrap ((i : Int) + (m : Int)) = (i : Int) + (m : Int) := IntWalk.i64_in _ (by omega)
      have hi0 : (0 : Int) ≤ (i : Int) := by omega
      have hile : (i : Int) ≤ (N : Int) := by omega
      have hYQ : Hid (∀ q, YieldAt Fence.wide (n - 1) Try.prog l #[.slice (some ⟨b, off + i, none⟩) m m] (wr.drewN q) fun e W' => (e = .returned (.bool true) ∧ J (chunkL b off m (r + 1)) W' ∧ Kp2 p (wr.drewN q) W') ∨ (e = .returned (.bool false) ∧ Jx (chunkL b off m (r + 1)) W')) := Lib.hid fun q => by
        have := hY (chunkL b off m r) (chunkAt b off m r) (wr.drewN q) (hJd.out _ _ q hJs) (by rw [chunkL_len]; omega)
        rw [chunkL_snoc] at this
        simpa [chunkAt, HI.out] using this
      gi_wp2
      gi_quiet (fail)
      obtain ⟨fn, tmps, assign, body, hy, hR⟩ := hYQ.out nq
      gi_wp2
      refine hR.mono ?_
      rintro e W3 (⟨rfl, hJ3, hk3⟩ | ⟨rfl, hJx3⟩)
      · have h13 : Blk W3 p 24 #[.slice (some ⟨b, off, none⟩) N c] := hk3.1.trans h1'
        have h23 : Blk W3 (p + 1) 3 #[.int .i64 m] := hk3.2.trans h2'
        have e1 := h13.cell 0
        have e2 := h23.cell 0
        gi_wp2
        go_roundw
        case rel => exact ⟨r + 1, i + m, by omega, Lib.hid (by rw [HI.out, Nat.succ_mul]), by go_num, hJ3, h13, h23⟩
        case measure => simp [intOf]; omega
      · gi_wp2
        refine bodyPost_ret (results_none rfl _ _ _) rfl ?_
        exact ⟨⟨_, rfl⟩, .inr ⟨_, trivial, hJx3⟩⟩
    · have hge : ¬ (i : Int) < (N : Int) := by
        have : ¬ i + m ≤ N := fun h => hlt (him.1 h)
        have e : r = k := by omega
        have e2 : i = N := by rw [HI.out, hN.out, e]
        omega
      obtain rfl : r = k := by omega
      clear him
      gi_wp2
      go_end0
      exact ⟨⟨_, rfl⟩, .inl hJs⟩
theorem chunk_stops (n : Nat) (hn : 1 ≤ n) (p b off N c m k : Nat) (m1 : 1 ≤ m) (m8 : m ≤ 8) (k8 : k ≤ 8) (hN : Hid (N = k * m)) (hc : N ≤ c) (w : World) (h1 : Blk w p 24 #[.slice (some ⟨b, off, none⟩) N c]) (h2 : Blk w (p + 1) 3 #[.int .i64 m]) :
    SeqStopsK Fence.wide n Try.prog 85 #[.pointer (some ⟨p, 0, none⟩), .pointer (some ⟨p + 1, 0, none⟩)] (fun x : SlR => #[.slice x.A x.n x.c]) (Kp2 p) (fun ys => ys = chunkL b off m k) (fun _ => True) (k + 1) w := fun l J Jx W hW hJ _ hY h0 =>
  chunk1_in n hn l p b off N c m k m1 m8 k8 hN hc J Jx W hJ hY (h1.all hW) (h2.all hW) h0
end Go.Proofs.Ytpmhnklmhfadlaa
