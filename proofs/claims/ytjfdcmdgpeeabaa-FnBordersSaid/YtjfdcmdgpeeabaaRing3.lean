/- The walk of the program's ringPlaces: an iterator over the numbers and places of a ring. Condition: two sides from 2 to 8. -/
import Derived.RangeFuncNested
import Derived.RangeFuncBound
import Derived.RangeFuncCalls
import Derived.RangeFuncLeaves
import Derived.RangeFuncBox
import Derived.Shelf.Abstract
import Derived.Shelf.RegionOpen
import Derived.WalkKit
import Derived.OwnWalkIn
import Derived.TacticsInMore
import Derived.LoopNIn
import Derived.LoopIn
import Derived.Sort.QuietIn
import Derived.Maps.AppendAt
import Derived.Test.YtjfdcmdgpeeabaaRing2
namespace Go.Proofs.Ytjfdcmdgpeeabaa
open Go.RowKit Go.Shelf
attribute [local go_sem] Oper.semAt_some

/-- What a round keeps: all cells from block p on. -/
def KpC (p : Nat) (A B : World) : Prop := ∀ j cs t fz, p ≤ j → A.heap[j]? = some (.cells cs t fz) → B.heap[j]? = some (.cells cs t fz)
theorem kpC_t {p : Nat} {A B C : World} (h : KpC p A B) (k : KpC p B C) : KpC p A C := fun j cs t fz hj ha => k j cs t fz hj (h j cs t fz hj ha)
theorem kpC_b {p n : Nat} (W : World) (l : Nat) (o o' : Obj) (_ : n ≤ l) (h : W.heap[l]? = some o) (hc : o.isCells = false) (_ : o.isWalk = false) : KpC p W (W.putObj l o') := fun j cs t fz _ hj => by
  have hne : j ≠ l := by rintro rfl; rw [h] at hj; cases hj; cases hc
  rw [World.putObj_heap_other hne]; exact hj
theorem KpC.blk {p q : Nat} {A B : World} {t : TypeId} {cs : Array Value} (h : KpC p A B) (hb : Blk A q t cs) (hq : p ≤ q) : Blk B q t cs := h q cs t (0, 0) hq hb
abbrev RPt (L N : Nat) := { x : Nat × Nat // x.1 < L ∧ x.2 < N }
def sidesC (m k : Nat) : Array Value := #[.int .i64 ((m : Int) - 1), .int .i64 1, .int .i64 ((k : Int) - 1), .int .i64 m, .int .i64 ((m : Int) - 1), .int .i64 (-1), .int .i64 ((k : Int) - 1), .int .i64 (-(m : Int))]
def sideI (m k s : Nat) : Int := if s % 2 = 0 then (m : Int) - 1 else (k : Int) - 1
theorem sideI_eq {m k s : Nat} (m2 : 2 ≤ m) (k2 : 2 ≤ k) : sideI m k s = (sideN m k s : Int) := by unfold sideI sideN; split <;> omega
theorem lt4 {s : Nat} (h : s < 4) : s = 0 ∨ s = 1 ∨ s = 2 ∨ s = 3 := by omega
theorem index_side {m k s : Nat} (h : s < 4) (w : World) :
    (Instr.index 86 (.agg #[.int .i64 ((m : Int) - 1), .int .i64 1, .int .i64 ((k : Int) - 1), .int .i64 m, .int .i64 ((m : Int) - 1), .int .i64 (-1), .int .i64 ((k : Int) - 1), .int .i64 (-(m : Int))]) (.int .i64 (s : Int))).run Try.prog w = .ok (.agg #[.int .i64 (sideI m k s), .int .i64 (sideS m s)]) w := by
  rcases lt4 h with rfl | rfl | rfl | rfl <;> rfl

set_option maxRecDepth 100000 in
set_option maxHeartbeats 1000000 in
theorem ringPlaces_in (F : Fence) (n : Nat) (h5 : F.fn 67) (hro : F.round = none) (m k : Nat) (v : Value) (m2 : 2 ≤ m) (m8 : m ≤ 8) (k2 : 2 ≤ k) (k8 : k ≤ 8) (w : World) :
    CallsIn F n Try.prog 67 #[chartV m k v] w fun e w' => e = .returned (.func (.func 77) #[] #[.pointer (some ⟨w.heap.size + 1, 0, none⟩)]) ∧ w' = (w.alloc (.cells #[.int .i64 m, .int .i64 k, v] 26)).alloc (.cells (sidesC m k) 86) := by
  refine callsIn_of_wp Try.func67 rfl h5 ?_ hro
  simp only [Try.ntmps67, List.size_toArray, List.length_cons, List.length_nil, Nat.reduceAdd, Nat.reduceSub, Array.replicate_succ, Array.replicate_zero, List.push_toArray, List.append_toArray, List.nil_append, List.cons_append]
  have hw1 : IntKind.i64.wrap ((m : Int) - 1) = (m : Int) - 1 := IntWalk.i64_in _ (by omega)
  have hw2 : IntKind.i64.wrap ((k : Int) - 1) = (k : Int) - 1 := IntWalk.i64_in _ (by omega)
  have hw3 : IntKind.i64.wrap (-(m : Int)) = -(m : Int) := IntWalk.i64_in _ (by omega)
  gi_wp2
  go_ret
  exact ⟨rfl, rfl⟩

set_option maxRecDepth 100000 in
set_option maxHeartbeats 4000000 in
theorem ring1_in (n : Nat) (hn : 1 ≤ n) (l p m k : Nat) (m2 : 2 ≤ m) (m8 : m ≤ 8) (k2 : 2 ≤ k) (k8 : k ≤ 8) (J Jx : List (RPt (ringN m k) (m * k)) → World → Prop) (W : World) (hJ : AbidesFrom W.heap.size J)
    (hY : ∀ pre x W1, J pre W1 → pre.length < ringN m k + 1 → YieldAt Fence.wide (n - 1) Try.prog l #[.int .i64 x.1.1, .int .i64 x.1.2] W1 fun e W' =>
      (e = .returned (.bool true) ∧ J (pre ++ [x]) W' ∧ KpC p W1 W') ∨ (e = .returned (.bool false) ∧ Jx (pre ++ [x]) W'))
    (h1 : Blk W p 86 (sidesC m k)) (h0 : J [] W) :
    CallsIn Fence.wide n Try.prog 77 #[.func (.yield l) #[] #[], .pointer (some ⟨p, 0, none⟩)] W fun e W' => (∃ v, e = .returned v) ∧
      ((∃ ys, ys.map (fun x : RPt (ringN m k) (m * k) => x.1) = ringQ m k ∧ J ys W') ∨ (∃ pre, True ∧ Jx pre W')) := by
  have hJA : Hid (∀ pre X o, J pre X → J pre (X.alloc o)) := Lib.hid fun pre X o h => hJ pre X (X.alloc o) none h (World.grownBy_alloc X o none) (fun r e => by cases e)
  have HSIDE := Lib.hid (fun s i (hs : s < 4) (hi : i < sideN m k s) => side_at m2 m8 k2 k8 hs hi)
  have HNEXT := Lib.hid (fun s => side_next (s := s) m2 m8 k2 k8)
  have hN28 := ringN_bd m2 m8 k2 k8
  have hmk : m * k ≤ 8 * 8 := Nat.mul_le_mul m8 k8
  refine callsIn_of_wp Try.func77 rfl trivial ?_ rfl
  simp only [Try.ntmps77, List.size_toArray, List.length_cons, List.length_nil, Nat.reduceAdd, Nat.reduceSub, Array.replicate_succ, Array.replicate_zero, List.push_toArray, List.append_toArray, List.nil_append, List.cons_append]
  have c0 : W.cell? ⟨p, 0, none⟩ = some (.int .i64 ((m : Int) - 1)) := h1.cell 0
  have c1 : W.cell? ⟨p, 1, none⟩ = some (.int .i64 1) := h1.cell 1
  have c2 : W.cell? ⟨p, 2, none⟩ = some (.int .i64 ((k : Int) - 1)) := h1.cell 2
  have c3 : W.cell? ⟨p, 3, none⟩ = some (.int .i64 m) := h1.cell 3
  have c4 : W.cell? ⟨p, 4, none⟩ = some (.int .i64 ((m : Int) - 1)) := h1.cell 4
  have c5 : W.cell? ⟨p, 5, none⟩ = some (.int .i64 (-1)) := h1.cell 5
  have c6 : W.cell? ⟨p, 6, none⟩ = some (.int .i64 ((k : Int) - 1)) := h1.cell 6
  have c7 : W.cell? ⟨p, 7, none⟩ = some (.int .i64 (-(m : Int))) := h1.cell 7
  gi_wp2
  clear c0 c1 c2 c3 c4 c5 c6 c7
  gi_loopw [8, 3, 4] (fun s8 s3 s4 wr => ∃ (s pl : Nat) (pre : List (RPt (ringN m k) (m * k))), s ≤ 4 ∧ s8 = .int .i64 s ∧ s3 = .int .i64 (offN m k s : Nat) ∧ s4 = .int .i64 pl ∧ Hid (s < 4 → pl = sideP m k s 0) ∧ J pre wr ∧ Hid (pre.map (fun x : RPt (ringN m k) (m * k) => x.1) = (ringQ m k).take (offN m k s)) ∧ Blk wr p 86 (sidesC m k)) (fun s8 _ _ _ => 4 - (intOf s8).toNat)
  case atStart => exact ⟨0, 0, [], by omega, rfl, rfl, rfl, Lib.hid (fun _ => rfl), h0, Lib.hid (by simp [offN]), h1⟩
  case round =>
    clear h0
    obtain ⟨s, pl, pre, hs4, rfl, rfl, rfl, hpl, hJs, hpre, h1'⟩ := hrel
    by_cases hlt : s < 4
    · obtain rfl := hpl.out hlt
      obtain ⟨S, hS⟩ : ∃ S, sideN m k s = S := ⟨_, rfl⟩
      obtain ⟨O, hO⟩ : ∃ O, offN m k s = O := ⟨_, rfl⟩
      obtain ⟨stp, hstp⟩ : ∃ x, sideS m s = x := ⟨_, rfl⟩
      have hSI : sideI m k s = (S : Int) := by rw [sideI_eq m2 k2, hS]
      have hplt := h1'.lt
      have hJ1 := hJA.out pre wr (.cells #[.int .i64 (S : Int), .int .i64 stp] 85) hJs
      have h1a := h1'.alloc (.cells #[.int .i64 (S : Int), .int .i64 stp] 85)
      have hq := Blk.new wr #[.int .i64 (S : Int), .int .i64 stp] 85
      have hslt : (s : Int) < 4 := by omega
      clear hpl
      gi_wp2
      rw [index_side hlt, hSI, hstp]
      gi_wp2
      obtain ⟨q, hqe⟩ : ∃ q, wr.heap.size = q := ⟨_, rfl⟩
      obtain ⟨wa, hwa⟩ : ∃ v, wr.alloc (.cells #[.int .i64 (S : Int), .int .i64 stp] 85) = v := ⟨_, rfl⟩
      rw [hwa] at hJ1 h1a hq ⊢
      rw [hqe] at hq hplt ⊢
      clear hwa hqe hJs h1' hSI
      gi_loopw [13, 3, 4] (fun s13 s3 s4 wr => ∃ (i : Nat) (pre : List (RPt (ringN m k) (m * k))), i ≤ S ∧ s13 = .int .i64 i ∧ s3 = .int .i64 (O + i : Nat) ∧ s4 = .int .i64 (sideP m k s i : Nat) ∧ J pre wr ∧ Hid (pre.map (fun x : RPt (ringN m k) (m * k) => x.1) = (ringQ m k).take (O + i)) ∧ Blk wr p 86 (sidesC m k) ∧ Blk wr q 85 #[.int .i64 (S : Int), .int .i64 stp]) (fun s13 _ _ _ => S - (intOf s13).toNat)
      case atStart => exact ⟨0, pre, Nat.zero_le _, rfl, rfl, rfl, hJ1, Lib.hid (by rw [Nat.add_zero, ← hO]; exact hpre.out), h1a, hq⟩
      case round =>
        clear hJ1 h1a hq hpre
        obtain ⟨i, pre, hiS, rfl, rfl, rfl, hJs, hpre, h1', hq'⟩ := hrel
        by_cases hlt2 : i < S
        · obtain ⟨f1, f2, f3, f4⟩ := HSIDE.out s i hlt (by rw [hS]; exact hlt2)
          rw [hO] at f1 f4
          rw [hstp] at f2
          obtain ⟨P, hP⟩ : ∃ P, sideP m k s i = P := ⟨_, rfl⟩
          rw [hP] at f1 f2 f3 ⊢
          obtain ⟨P2, hP2⟩ : ∃ P, sideP m k s (i + 1) = P := ⟨_, rfl⟩
          rw [hP2] at f2
          have hP2b : P2 < 100 := by
            have : (P2 : Int) ≤ 99 := by
              rw [← f2, ← hstp]
              have e1 : sideS m s ≤ 8 := by
                rcases lt4 hlt with rfl | rfl | rfl | rfl <;> simp [sideS] <;> omega
              omega
            omega
          have hw1 : IntKind.i64.wrap ((P : Int) + stp) = (P2 : Int) := by rw [f2]; exact IntWalk.i64_in _ (by omega)
          have HN := Lib.hid (show (pre ++ [(⟨(O + i, P), f4, f3⟩ : RPt (ringN m k) (m * k))]).map (fun x : RPt (ringN m k) (m * k) => x.1) = (ringQ m k).take (O + (i + 1)) by
            rw [List.map_append, hpre.out, ← Nat.add_assoc, ringQ_snoc f4, f1]; rfl)
          have hpl : pre.length < ringN m k + 1 := by
            have := congrArg List.length hpre.out
            rw [List.length_map, List.length_take, ringQ_len] at this
            omega
          obtain ⟨x, HX, hYx⟩ : ∃ x : RPt (ringN m k) (m * k), Hid ((pre ++ [x]).map (fun x : RPt (ringN m k) (m * k) => x.1) = (ringQ m k).take (O + (i + 1))) ∧ YieldAt Fence.wide (n - 1) Try.prog l #[.int .i64 ((O + i : Nat) : Int), .int .i64 (P : Int)] wr fun e W' =>
              (e = .returned (.bool true) ∧ J (pre ++ [x]) W' ∧ KpC p wr W') ∨ (e = .returned (.bool false) ∧ Jx (pre ++ [x]) W') := ⟨⟨(O + i, P), f4, f3⟩, HN, hY pre ⟨(O + i, P), f4, f3⟩ wr hJs hpl⟩
          clear HN
          rw [show ((O + i : Nat) : Int) = (O : Int) + (i : Int) from Int.natCast_add _ _] at hYx
          obtain ⟨fn, tmps, assign, body, hy, hR⟩ := hYx
          have hw2 : IntKind.i64.wrap ((O : Int) + (i : Int) + 1) = (O : Int) + (i : Int) + 1 := IntWalk.i64_in _ (by omega)
          have hOi : O + i < 28 := by omega
          have cq0 := hq'.cell 0
          have hi1 : (i : Int) < (S : Int) := by omega
          clear f1 f2 f3 f4 hpre
          gi_wp2
          refine hR.mono ?_
          rintro e W3 (⟨rfl, hJ3, hk3⟩ | ⟨rfl, hJx3⟩)
          · have h13 := hk3.blk h1' (Nat.le_refl _)
            have hq3 := hk3.blk hq' (Nat.le_of_lt hplt)
            have d1 := hq3.cell 1
            gi_wp2
            go_roundw
            case rel => exact ⟨i + 1, _, by omega, by go_num, by first | go_num | (congr 1; omega), by rw [hP2], hJ3, HX, h13, hq3⟩
            case measure => simp [intOf]; omega
          · gi_wp2
            refine bodyPost_ret (results_none rfl _ _ _) rfl ?_
            exact ⟨⟨_, rfl⟩, .inr ⟨_, trivial, hJx3⟩⟩
        · obtain rfl : S = i := by omega
          obtain ⟨pn, hpn, hpn2⟩ := HNEXT.out s
          rw [hS] at hpn
          have hoff : offN m k (s + 1) = O + S := by rw [offN, hO, hS]
          rw [hpn]
          clear HNEXT
          gi_wp2
          go_roundw
          case rel => exact ⟨s + 1, pn, pre, by omega, by go_num, by rw [hoff], rfl, Lib.hid (fun h => hpn2 (by omega)), hJs, by rw [hoff]; exact hpre, h1'⟩
          case measure => simp [intOf]; omega
    · obtain rfl : s = 4 := by omega
      have HN := Lib.hid (show pre.map (fun x : RPt (ringN m k) (m * k) => x.1) = ringQ m k by rw [hpre.out, offN_end]; exact ringQ_all (Nat.le_refl _))
      gi_wp2
      go_end0
      exact ⟨⟨_, rfl⟩, .inl ⟨_, HN.out, hJs⟩⟩
theorem ring_stops (n : Nat) (hn : 1 ≤ n) (p m k : Nat) (m2 : 2 ≤ m) (m8 : m ≤ 8) (k2 : 2 ≤ k) (k8 : k ≤ 8) (w : World) (h1 : Blk w p 86 (sidesC m k)) :
    SeqStopsK Fence.wide n Try.prog 77 #[.pointer (some ⟨p, 0, none⟩)] (fun x : RPt (ringN m k) (m * k) => #[.int .i64 x.1.1, .int .i64 x.1.2]) (KpC p) (fun ys => ys.map (fun x : RPt (ringN m k) (m * k) => x.1) = ringQ m k) (fun _ => True) (ringN m k + 1) w := fun l J Jx W hW hJ _ hY h0 =>
  ring1_in n hn l p m k m2 m8 k2 k8 J Jx W hJ hY (h1.all hW) h0
end Go.Proofs.Ytjfdcmdgpeeabaa
