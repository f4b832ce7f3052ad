/- The walk of the program's partsBetween: an iterator over the parts of a text between the bytes that are named. Condition: a text of at most 4000 bytes. -/
import Derived.RangeFuncNested
import Derived.RangeFuncBound
import Derived.RangeFuncCalls
import Derived.RangeFuncLeaves
import Derived.RangeFuncBox
import Derived.Shelf.Abstract
import Derived.Shelf.RegionOpen
import Derived.WalkKit
import Derived.OwnWalkIn
import Derived.TacticsInMore
import Derived.LoopNIn
import Derived.LoopIn
import Derived.Sort.QuietIn
import Derived.Maps.AppendAt
import Derived.Test.YteiaanaljimghaaSplit
import Derived.Test.YteiaanaljimghaaStrs
namespace Go.Proofs.Yteiaanaljimghaa
open Go.RowKit Go.Shelf
attribute [local go_sem] Oper.semAt_some

abbrev Part := { x : ByteArray // x.size ≤ 4000 }
def partsD (ps : List Part) : List (List UInt8) := ps.map (·.1.data.toList)
theorem partsD_snoc (ps : List Part) (x : Part) : partsD (ps ++ [x]) = partsD ps ++ [x.1.data.toList] := by simp [partsD]
/-- What a round keeps: the two boxes that the iterator reads. -/
def Kp2 (p : Nat) (W W' : World) : Prop := W'.heap[p]? = W.heap[p]? ∧ W'.heap[p + 1]? = W.heap[p + 1]?
theorem kp2_t {p : Nat} {A B C : World} (h : Kp2 p A B) (k : Kp2 p B C) : Kp2 p A C := ⟨k.1.trans h.1, k.2.trans h.2⟩
theorem kp2_b {p n : Nat} (hp : p + 1 < n) (W : World) (l : Nat) (o o' : Obj) (hl : n ≤ l) (_ : W.heap[l]? = some o) (_ : o.isCells = false) (_ : o.isWalk = false) : Kp2 p W (W.putObj l o') :=
  ⟨World.putObj_heap_other (by omega), World.putObj_heap_other (by omega)⟩

set_option maxRecDepth 100000 in
set_option maxHeartbeats 1000000 in
theorem between_in (F : Fence) (n : Nat) (h5 : F.fn 71) (hro : F.round = none) (s : ByteArray) (b : UInt8) (w : World) :
    CallsIn F n Try.prog 71 #[.string s, .int .u8 (b.toNat : Int)] w fun e w' => e = .returned (.func (.func 76) #[] #[.pointer (some ⟨w.heap.size, 0, none⟩), .pointer (some ⟨w.heap.size + 1, 0, none⟩)]) ∧ w' = (w.alloc (.cells #[.string s] 9)).alloc (.cells #[.int .u8 (b.toNat : Int)] 5) := by
  refine callsIn_of_wp Try.func71 rfl h5 ?_ hro
  simp only [Try.ntmps71, List.size_toArray, List.length_cons, List.length_nil, Nat.reduceAdd, Nat.reduceSub, Array.replicate_succ, Array.replicate_zero, List.push_toArray, List.append_toArray, List.nil_append, List.cons_append]
  gi_wp2
  go_ret
  exact ⟨rfl, rfl⟩

theorem ext_size {s : ByteArray} {a c : Nat} (hs : s.size ≤ 4000) : (s.extract a c).size ≤ 4000 := by
  rw [ByteArray.size_extract]; omega
set_option maxRecDepth 100000 in
set_option maxHeartbeats 2000000 in
theorem parts1_in (n : Nat) (hn : 1 ≤ n) (l p : Nat) (s : ByteArray) (b : UInt8) (hs : s.size ≤ 4000) (J Jx : List Part → World → Prop) (W : World) (hJ : AbidesFrom W.heap.size J)
    (hY : ∀ pre x W1, J pre W1 → pre.length < s.size + 1 → YieldAt Fence.wide (n - 1) Try.prog l #[.string x.1] W1 fun e W' =>
      (e = .returned (.bool true) ∧ J (pre ++ [x]) W' ∧ Kp2 p W1 W') ∨ (e = .returned (.bool false) ∧ Jx (pre ++ [x]) W'))
    (h1 : Blk W p 9 #[.string s]) (h2 : Blk W (p + 1) 5 #[.int .u8 (b.toNat : Int)]) (h0 : J [] W) :
    CallsIn Fence.wide n Try.prog 76 #[.func (.yield l) #[] #[], .pointer (some ⟨p, 0, none⟩), .pointer (some ⟨p + 1, 0, none⟩)] W fun e W' => (∃ v, e = .returned v) ∧
      ((∃ ys, partsD ys = splitL b s.data.toList ∧ J ys W') ∨ (∃ pre, True ∧ Jx pre W')) := by
  have hJd : Hid (∀ pre X q, J pre X → J pre (X.drewN q)) := Lib.hid fun pre X q h => hJ pre X (X.drewN q) none h ⟨rfl, rfl, rfl, Nat.le_refl _, fun _ _ _ => rfl⟩ (fun r e => by cases e)
  refine callsIn_of_wp Try.func76 rfl trivial ?_ rfl
  simp only [Try.ntmps76, List.size_toArray, List.length_cons, List.length_nil, Nat.reduceAdd, Nat.reduceSub, Array.replicate_succ, Array.replicate_zero, List.push_toArray, List.append_toArray, List.nil_append, List.cons_append]
  have c1 := h1.cell 0
  gi_wp2
  gi_loopw [8, 4, 5] (fun i st _ wr => ∃ (k fr : Nat) (pre : List Part), k ≤ s.size ∧ fr ≤ k ∧ i = .int .i64 k ∧ st = .int .i64 fr ∧ J pre wr ∧ pre.length ≤ fr ∧
      splitL b s.data.toList = partsD pre ++ splitGo b ((s.data.toList.drop fr).take (k - fr)) (s.data.toList.drop k) ∧ Blk wr p 9 #[.string s] ∧ Blk wr (p + 1) 5 #[.int .u8 (b.toNat : Int)])
    (fun i _ _ _ => s.size - (intOf i).toNat)
  case atStart => exact ⟨0, 0, [], Nat.zero_le _, Nat.le_refl _, rfl, rfl, h0, Nat.le_refl _, by simp [splitL, partsD], h1, h2⟩
  case round =>
    obtain ⟨k, fr, pre, hk, hle, rfl, rfl, hJs, hnum, heq, h1', h2'⟩ := hrel
    have HE := Lib.hid heq
    clear heq c1
    have c1 := h1'.cell 0
    have c2 := h2'.cell 0
    by_cases hlt : k < s.size
    · have hl : k < s.data.toList.length := by rw [sizeL]; exact hlt
      by_cases hc : s[k] = b
      · have hq : ((s[k].toNat : Int) == (b.toNat : Int)) = true := by rw [hc]; exact beq_self_eq_true _
        have HN := Lib.hid (show splitL b s.data.toList = partsD (pre ++ [⟨s.extract fr k, ext_size hs⟩]) ++ splitGo b ((s.data.toList.drop (k + 1)).take (k + 1 - (k + 1))) (s.data.toList.drop (k + 1)) by
          rw [HE.out, splitGo_hit b _ s.data.toList k hl hc, partsD_snoc, List.append_assoc]
          simp)
        have HYQ : Hid (∀ q, _) := Lib.hid fun q => hY pre ⟨s.extract fr k, ext_size hs⟩ (wr.drewN q) (hJd.out _ _ q hJs) (by omega)
        clear hc
        gi_wp2
        gi_quiet (fail)
        obtain ⟨fn, tmps, assign, body, hy, hR⟩ := HYQ.out nq
        gi_wp2
        refine hR.mono ?_
        rintro e W3 (⟨rfl, hJ3, hk3⟩ | ⟨rfl, hJx3⟩)
        · have h13 : Blk W3 p 9 #[.string s] := hk3.1.trans h1'
          have h23 : Blk W3 (p + 1) 5 #[.int .u8 (b.toNat : Int)] := hk3.2.trans h2'
          gi_wp2
          go_roundw
          case rel => exact ⟨k + 1, k + 1, _, by omega, Nat.le_refl _, by go_num, by go_num, hJ3, by simp; omega, HN.out, h13, h23⟩
          case measure => simp [intOf]; omega
        · gi_wp2
          refine bodyPost_ret (results_none rfl _ _ _) rfl ?_
          exact ⟨⟨_, rfl⟩, .inr ⟨_, trivial, hJx3⟩⟩
      · have hq := byteNe hc
        have HN := Lib.hid (show splitL b s.data.toList = partsD pre ++ splitGo b ((s.data.toList.drop fr).take (k + 1 - fr)) (s.data.toList.drop (k + 1)) by
          rw [HE.out, splitGo_miss b _ s.data.toList k hl hc, piece_snoc _ _ _ hl hle])
        clear hc
        gi_wp2
        gi_quiet (fail)
        have hJ3 := hJd.out _ _ nq hJs
        gi_wp2
        go_roundw
        case rel => exact ⟨k + 1, fr, pre, by omega, by omega, by go_num, rfl, hJ3, hnum, HN.out, h1', h2'⟩
        case measure => simp [intOf]; omega
    · obtain rfl : k = s.size := by omega
      have HN := Lib.hid (show partsD (pre ++ [⟨s.extract fr s.size, ext_size hs⟩]) = splitL b s.data.toList by
        have e0 : s.data.toList.drop s.size = [] := List.drop_of_length_le (by rw [sizeL]; exact Nat.le_refl _)
        rw [HE.out, e0, splitGo, partsD_snoc]
        simp)
      obtain ⟨fn, tmps, assign, body, hy, hR⟩ := hY pre ⟨s.extract fr s.size, ext_size hs⟩ wr hJs (by omega)
      gi_wp2
      refine hR.mono ?_
      rintro e W3 (⟨rfl, hJ3, hk3⟩ | ⟨rfl, hJx3⟩)
      · gi_wp2
        go_end0
        exact ⟨⟨_, rfl⟩, .inl ⟨_, HN.out, hJ3⟩⟩
      · gi_wp2
        go_end0
        exact ⟨⟨_, rfl⟩, .inr ⟨_, trivial, hJx3⟩⟩
end Go.Proofs.Yteiaanaljimghaa
