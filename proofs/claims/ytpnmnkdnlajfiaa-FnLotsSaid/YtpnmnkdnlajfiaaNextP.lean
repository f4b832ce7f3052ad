/- The walk of the program's placesNextTo: the places beside a place. Condition: the place is within a chart whose sides are sides. -/
import Derived.Test.YtpnmnkdnlajfiaaAreasM
import Derived.Test.YtpnmnkdnlajfiaaKnot
namespace Go.Proofs.Ytpnmnkdnlajfiaa
open Go.RowKit

def stP (m k i : Nat) : Nat → List Nat
  | 0 => if 0 < i / m then [i - m] else []
  | 1 => if i / m + 1 < k then [i + m] else []
  | 2 => if 0 < i % m then [i - 1] else []
  | _ => if i % m + 1 < m then [i + 1] else []
def nextPs (m k i j : Nat) : List Nat := (List.range j).flatMap (stP m k i)
theorem nextPs_four (m k i : Nat) : nextPs m k i 4 = nextP m k i := by simp [nextPs, nextP, List.range_succ, stP]
theorem nextPs_succ (m k i j : Nat) : nextPs m k i (j + 1) = nextPs m k i j ++ stP m k i j := by simp [nextPs, List.range_succ]
theorem stP_len (m k i j : Nat) : (stP m k i j).length ≤ 1 := by unfold stP; split <;> split <;> simp
theorem nextPs_len (m k i : Nat) : ∀ j, (nextPs m k i j).length ≤ j
  | 0 => by simp [nextPs]
  | j + 1 => by
    rw [nextPs_succ, List.length_append]
    have := nextPs_len m k i j
    have := stP_len m k i j
    omega
def stepC : Array Value := #[.int .i64 (-1), .int .i64 0, .int .i64 1, .int .i64 0, .int .i64 0, .int .i64 (-1), .int .i64 0, .int .i64 1]
theorem step_at {m k i : Nat} (hm : 1 ≤ m) (hm8 : m ≤ 8) (hk8 : k ≤ 8) (hi : i < m * k) {j : Nat} (hj : j < 4) :
    ∃ d0 d1 : Int, stepC[j * 2]? = some (.int .i64 d0) ∧ stepC[j * 2 + 1]? = some (.int .i64 d1) ∧ (-1 ≤ d0 ∧ d0 ≤ 1) ∧ (-1 ≤ d1 ∧ d1 ≤ 1) ∧
      (withinB m k (((i / m : Nat) : Int) + d0) (((i % m : Nat) : Int) + d1) 1 1 = true → ∃ y : Nat, (((i / m : Nat) : Int) + d0) * (m : Int) + (((i % m : Nat) : Int) + d1) = (y : Int) ∧ y ≤ 64 ∧ (0 ≤ (((i / m : Nat) : Int) + d0) * (m : Int) ∧ (((i / m : Nat) : Int) + d0) * (m : Int) ≤ 64) ∧ stP m k i j = [y]) ∧
      (withinB m k (((i / m : Nat) : Int) + d0) (((i % m : Nat) : Int) + d1) 1 1 = false → stP m k i j = []) := by
  have hc : m = 1 ∨ m = 2 ∨ m = 3 ∨ m = 4 ∨ m = 5 ∨ m = 6 ∨ m = 7 ∨ m = 8 := by omega
  have hd : j = 0 ∨ j = 1 ∨ j = 2 ∨ j = 3 := by omega
  rcases hd with rfl | rfl | rfl | rfl
  · refine ⟨-1, 0, rfl, rfl, by omega, by omega, fun h => ?_, fun h => ?_⟩
    · simp only [withinB, decide_eq_true_eq] at h
      refine ⟨i - m, ?_, ?_, ?_, if_pos ?_⟩ <;> rcases hc with rfl | rfl | rfl | rfl | rfl | rfl | rfl | rfl <;> omega
    · simp only [withinB, decide_eq_false_iff_not] at h
      refine if_neg fun g => h ?_
      rcases hc with rfl | rfl | rfl | rfl | rfl | rfl | rfl | rfl <;> omega
  · refine ⟨1, 0, rfl, rfl, by omega, by omega, fun h => ?_, fun h => ?_⟩
    · simp only [withinB, decide_eq_true_eq] at h
      refine ⟨i + m, ?_, ?_, ?_, if_pos ?_⟩ <;> rcases hc with rfl | rfl | rfl | rfl | rfl | rfl | rfl | rfl <;> omega
    · simp only [withinB, decide_eq_false_iff_not] at h
      refine if_neg fun g => h ?_
      rcases hc with rfl | rfl | rfl | rfl | rfl | rfl | rfl | rfl <;> omega
  · refine ⟨0, -1, rfl, rfl, by omega, by omega, fun h => ?_, fun h => ?_⟩
    · simp only [withinB, decide_eq_true_eq] at h
      refine ⟨i - 1, ?_, ?_, ?_, if_pos ?_⟩ <;> rcases hc with rfl | rfl | rfl | rfl | rfl | rfl | rfl | rfl <;> omega
    · simp only [withinB, decide_eq_false_iff_not] at h
      refine if_neg fun g => h ?_
      rcases hc with rfl | rfl | rfl | rfl | rfl | rfl | rfl | rfl <;> omega
  · refine ⟨0, 1, rfl, rfl, by omega, by omega, fun h => ?_, fun h => ?_⟩
    · simp only [withinB, decide_eq_true_eq] at h
      refine ⟨i + 1, ?_, ?_, ?_, if_pos ?_⟩ <;> rcases hc with rfl | rfl | rfl | rfl | rfl | rfl | rfl | rfl <;> omega
    · simp only [withinB, decide_eq_false_iff_not] at h
      refine if_neg fun g => h ?_
      rcases hc with rfl | rfl | rfl | rfl | rfl | rfl | rfl | rfl <;> omega
set_option maxRecDepth 100000 in
set_option maxHeartbeats 4000000 in
theorem placesNextTo_any (m k i : Nat) (v : Value) (w : World) (hm : 1 ≤ m) (hm8 : m ≤ 8) (hk1 : 1 ≤ k) (hk8 : k ≤ 8) (hi : i < m * k) :
    Calls Try.prog 74 #[chartV m k v, .int .i64 i] w fun e w' => ∃ A c, e = .returned (.slice A (nextP m k i).length c) ∧ Own w' w.heap.size (.slice A (nextP m k i).length c) (upI (nextP m k i)) ∧ Below w.heap.size w w' := by
  have hN : m * k ≤ 8 * 8 := Nat.mul_le_mul hm8 hk8
  have hal : i / m ≤ 64 := Nat.le_trans (Nat.div_le_self _ _) (by omega)
  have hbl : i % m ≤ 64 := Nat.le_trans (Nat.mod_le _ _) (by omega)
  have HST := Lib.hid (fun (j : Nat) (hj : j < 4) => step_at hm hm8 hk8 hi hj)
  have hq : Int.tdiv (i : Int) (m : Int) = ((i / m : Nat) : Int) := rfl
  have hr : Int.tmod (i : Int) (m : Int) = ((i % m : Nat) : Int) := rfl
  have hm0 : ¬ (m : Int) = 0 := by omega
  have HRES := Lib.hid (nextPs_four m k i)
  have x0 : Blk ((w.alloc (.cells #[.int .i64 m, .int .i64 k, v] 26)).alloc (.cells stepC 98)) w.heap.size 26 #[.int .i64 m, .int .i64 k, v] := (Blk.new w _ _).alloc _
  have y0 : Blk ((w.alloc (.cells #[.int .i64 m, .int .i64 k, v] 26)).alloc (.cells stepC 98)) (w.heap.size + 1) 98 stepC := (Blk.new (w.alloc (.cells #[.int .i64 m, .int .i64 k, v] 26)) stepC 98).at_ (by simp)
  have hb0 : Below w.heap.size w ((w.alloc (.cells #[.int .i64 m, .int .i64 k, v] 26)).alloc (.cells stepC 98)) := ((Below.refl _ _).alloc (Nat.le_refl _) _).alloc (by simp) _
  generalize i / m = a at *
  generalize i % m = b at *
  have hwa : wrap64 (a : Int) = (a : Int) := by unfold wrap64; omega
  have hwa' : IntKind.i64.wrap (a : Int) = (a : Int) := IntWalk.i64_in _ (by omega)
  go_enter Try.func74, Try.ntmps74
  go_wp2
  rw [show (#[.int .i64 (-1), .int .i64 0, .int .i64 1, .int .i64 0, .int .i64 0, .int .i64 (-1), .int .i64 0, .int .i64 1] : Array Value) = stepC from rfl]
  generalize (w.alloc (.cells #[.int .i64 m, .int .i64 k, v] 26)).alloc (.cells stepC 98) = W0 at *
  go_loopw [5, 16] (fun s5 s16 wr => ∃ (j : Nat) (A : Option Addr) (c : Nat) (L : List Nat), j ≤ 4 ∧ s16 = .int .i64 j ∧ s5 = .slice A L.length c ∧ Hid (L = nextPs m k i j) ∧ Own wr (w.heap.size + 2) (.slice A L.length c) (upI L) ∧ w.heap.size + 2 ≤ wr.heap.size ∧
      Blk wr w.heap.size 26 #[.int .i64 m, .int .i64 k, v] ∧ Blk wr (w.heap.size + 1) 98 stepC ∧ Hid (Below w.heap.size w wr)) (fun _ s16 _ => 4 - (intOf s16).toNat)
  case atStart => exact ⟨0, none, 0, [], by omega, rfl, rfl, rfl, Own.nil _ _, y0.lt, x0, y0, hb0⟩
  case round =>
    clear x0 y0 hb0
    obtain ⟨j, A, c, L, hj, rfl, rfl, HL, ho, hz, x1, y1, HB⟩ := hrel
    have hL4 := Lib.hid (show L.length ≤ 4 by rw [HL.out]; exact Nat.le_trans (nextPs_len m k i j) hj)
    by_cases hlt : j < 4
    · obtain ⟨d0, d1, hs0, hs1, hd0, hd1, hyes, hno⟩ := HST.out j hlt
      have f0 := y1.cell (j * 2)
      have f1 := y1.cell (j * 2 + 1)
      rw [hs0] at f0
      rw [hs1] at f1
      clear hs0 hs1
      have e0 := x1.cell 0
      have e1 := x1.cell 1
      have e2 := x1.cell 2
      obtain ⟨d, hd⟩ : ∃ d, withinB m k ((a : Int) + d0) ((b : Int) + d1) 1 1 = d := ⟨_, rfl⟩
      have HD := Lib.hid hd
      rw [hd] at hyes hno
      have HY := Lib.hid hyes
      have HN := Lib.hid hno
      clear hd hyes hno
      have hw1 : IntKind.i64.wrap ((a : Int) + d0) = (a : Int) + d0 := IntWalk.i64_in _ (by omega)
      have hw2 : IntKind.i64.wrap ((b : Int) + d1) = (b : Int) + d1 := IntWalk.i64_in _ (by omega)
      go_upto_region 5 with fail
      have z1 := Blk.new wr #[.int .i64 d0, .int .i64 d1] 98
      have xA := x1.alloc (.cells #[.int .i64 d0, .int .i64 d1] 98)
      have yA := y1.alloc (.cells #[.int .i64 d0, .int .i64 d1] 98)
      have oA := ho.alloc (.cells #[.int .i64 d0, .int .i64 d1] 98)
      have HBA := Lib.hid (HB.out.alloc (by omega) (.cells #[.int .i64 d0, .int .i64 d1] 98))
      have hzA : w.heap.size + 2 ≤ (wr.alloc (.cells #[.int .i64 d0, .int .i64 d1] 98)).heap.size := by simp; omega
      clear x1 y1 ho HB hz f0 f1 e0 e1 e2
      generalize wr.alloc (.cells #[.int .i64 d0, .int .i64 d1] 98) = W1 at *
      generalize wr.heap.size = P at *
      have f0 := z1.cell 0
      have f1 := z1.cell 1
      have e0 := xA.cell 0
      have e1 := xA.cell 1
      have e2 := xA.cell 2
      go_quiet (fail)
      have xB := xA.all (low_drewN W1 nq)
      have yB := yA.all (low_drewN W1 nq)
      have oB := oA.drewN nq
      have HBB := Lib.hid (belowN HBA.out nq)
      have hzB : w.heap.size + 2 ≤ (W1.drewN nq).heap.size := hzA
      clear xA yA oA HBA hzA f0 f1 e0 e1 e2 z1
      generalize W1.drewN nq = W2 at *
      have e0 := xB.cell 0
      have e1 := xB.cell 1
      have e2 := xB.cell 2
      go_wp2_with fail
      refine (isWithin_any (m : Int) (k : Int) ((a : Int) + d0) ((b : Int) + d1) 1 1 v W2 ⟨by omega, by omega⟩ ⟨by omega, by omega⟩ ⟨by omega, by omega⟩ ⟨by omega, by omega⟩).mono ?_
      rintro e w3 ⟨rfl, hb3⟩
      rw [HD.out]
      have xC := xB.all hb3
      have yC := yB.all hb3
      have oC := oB.all hb3
      have hzC := Nat.le_trans hzB hb3.size
      have HBC := Lib.hid (HBB.out.trans (hb3.mono (by omega)))
      clear xB yB oB HBB hzB hb3 e0 e1 e2
      have e0 := xC.cell 0
      have e1 := xC.cell 1
      cases d with
      | true =>
        obtain ⟨y, hy, hy64, hp, hst⟩ := HY.out rfl
        have HLN := Lib.hid (show L ++ [y] = nextPs m k i (j + 1) by rw [nextPs_succ, HL.out, hst])
        have hw3 : wrap64 (((a : Int) + d0) * (m : Int)) = ((a : Int) + d0) * (m : Int) := IntWalk.wrap64_in _ (by omega)
        have hw4 : wrap64 (((a : Int) + d0) * (m : Int) + ((b : Int) + d1)) = ((a : Int) + d0) * (m : Int) + ((b : Int) + d1) := by rw [hy]; exact IntWalk.wrap64_in _ (by omega)
        have HYE := Lib.hid hy
        have hI : I64 (((a : Int) + d0) * (m : Int) + ((b : Int) + d1)) := by rw [hy]; exact ⟨by omega, by omega⟩
        have hl30 : L.length ≤ 1073741824 := by have := hL4.out; omega
        have hbd := oC.bd
        clear hst hy
        go_wp2_with (at_builtin; refine wpList_append_one_at w3 rfl (.tmp 38) (.tmp 45) 24 rfl Try.underlying24 info_int (w.heap.size + 2) L.length _ (upI L) (((a : Int) + d0) * (m : Int) + ((b : Int) + d1)) (upI_len L) rfl rfl oC hl30 hI hzC ?_)
        intro A9 c9 w9 ho9 hg9 _
        have x9 := xC.mark hg9 (fun q hq e => by have := (hbd q hq).1; omega)
        have y9 := yC.mark hg9 (fun q hq e => by have := (hbd q hq).1; omega)
        have HB9 := Lib.hid (HBC.out.grown hg9 (by omega) (fun q hq => by have := (hbd q hq).1; omega))
        have hz9 := Nat.le_trans hzC hg9.size
        rw [HYE.out, ← upI_app] at ho9
        clear hg9 hbd xC yC oC HBC hzC e0 e1
        go_wp2
        go_roundw
        case rel => exact ⟨j + 1, A9, c9, L ++ [y], hlt, by go_num, by rw [List.length_append]; rfl, HLN, by rw [List.length_append]; exact ho9, hz9, x9, y9, HB9⟩
        case measure => simp [intOf]; omega
      | false =>
        have HLN := Lib.hid (show L = nextPs m k i (j + 1) by rw [nextPs_succ, HN.out rfl, List.append_nil]; exact HL.out)
        clear HL
        go_wp2
        go_roundw
        case rel => exact ⟨j + 1, A, c, L, hlt, by go_num, rfl, HLN, oC, hzC, xC, yC, HBC⟩
        case measure => simp [intOf]; omega
    · have HF := Lib.hid (show L = nextP m k i by rw [HL.out, show j = 4 by omega, HRES.out])
      go_wp2
      go_ret
      rw [← HF.out]
      exact ⟨A, c, rfl, ho.mono (by omega), HB.out⟩
end Go.Proofs.Ytpnmnkdnlajfiaa
