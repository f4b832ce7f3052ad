/- The walks of the model's l12Different and l12Search. Condition: the lots are valid, the sizes those of a chart. -/
import Derived.Test.YtacnbbdaacfacaaSearchMath2
import Derived.Test.YtacnbbdaacfacaaAssign
import Derived.Test.YtacnbbdaacfacaaHas1
namespace Go.Proofs.Ytacnbbdaacfacaa
open Go.RowKit

theorem Rd.headI {w : World} {B n c q : Nat} {A : Option Addr} {xs : List Int} (h : Rd w B A n c xs) (hq : q ≤ n) : Rd w B A q c (xs.take q) :=
  ⟨by rw [List.length_take, h.len]; omega, by have := h.cap; omega, h.max, fun hp => by
    obtain ⟨b, off, e, hb, hc⟩ := h.cells (by omega)
    refine ⟨b, off, e, hb, fun j hj => ?_⟩
    rw [hc j (by omega)]
    congr 2
    rw [List.getD_eq_getElem?_getD, List.getD_eq_getElem?_getD, List.getElem?_take, if_pos hj], fun x hx => h.fits x (List.mem_of_mem_take hx), fun e => by
    have := h.nil e
    omega⟩
theorem mem_upI {l : List Nat} {x : Nat} : (x : Int) ∈ upI l ↔ x ∈ l := by
  simp only [upI, List.mem_map]
  exact ⟨fun ⟨y, hy, e⟩ => by rw [← Int.ofNat_inj.1 e]; exact hy, fun h => ⟨x, h, rfl⟩⟩
theorem upI_take (l : List Nat) (k : Nat) : (upI l).take k = upI (l.take k) := by simp [upI]
set_option maxRecDepth 100000 in
set_option maxHeartbeats 2000000 in
theorem l12Different_any (A : Option Addr) (c B : Nat) (bl : List Nat) (w : World) (h : Rd w B A bl.length c (upI bl)) (hB : B ≤ w.heap.size) (hl : bl.length ≤ 1000) :
    Calls Try.prog 79 #[.slice A bl.length c] w (Out w (.int .i64 (dif12 bl : Nat))) := by
  go_enter Try.func79, Try.ntmps79
  go_wp2
  go_loopw [3, 4] (fun s3 s4 wr => ∃ i d : Nat, i ≤ bl.length ∧ s4 = .int .i64 i ∧ s3 = .int .i64 d ∧ Hid (d = dif12 (bl.take i)) ∧ d ≤ i ∧ Hid (Below w.heap.size w wr)) (fun _ s4 _ => bl.length - (intOf s4).toNat)
  case atStart => exact ⟨0, 0, Nat.zero_le _, rfl, rfl, Lib.hid (by simp [dif12]), Nat.le_refl _, Lib.hid (Below.refl _ _)⟩
  case round =>
    obtain ⟨i, d, hi, rfl, rfl, HD, hdi, HB⟩ := hrel
    by_cases hlt : i < bl.length
    · have R := h.all HB.out hB
      obtain ⟨x, hx⟩ : ∃ x, bl[i]? = some x := ⟨bl[i], List.getElem?_eq_getElem hlt⟩
      obtain ⟨b, off, y, rfl, _, hc, _, _, HY⟩ := R.at hlt
      obtain rfl : y = (x : Int) := HY.out.symm.trans (upI_get hx)
      obtain ⟨dm, hdm⟩ : ∃ dm, decide (x ∈ bl.take i) = dm := ⟨_, rfl⟩
      have hd2 : decide ((x : Int) ∈ (upI bl).take i) = dm := by rw [upI_take, ← hdm]; simp only [mem_upI]
      have RH := R.headI (q := i) (by omega)
      have hiI : (i : Int) < (bl.length : Int) := by omega
      have hcc := R.cap
      have hmm := R.max
      unfold maxLen at hmm
      have e : bl.take (i + 1) = bl.take i ++ [x] := by rw [List.take_add_one, hx]; rfl
      cases dm with
      | true =>
        have HD2 := Lib.hid (show d = dif12 (bl.take (i + 1)) by rw [e, dif_snoc, if_pos (of_decide_eq_true hdm)]; exact HD.out)
        have HDM := Lib.hid hd2
        clear HD hdm hd2 e hx R
        go_wp2
        go_quiet ((go_at_call 50; exact quiet_same (l1Has_eq _ _ _ _ _ _ _ (RH.drewN _) true HDM.out)))
        have HB3 := Lib.hid (belowN HB.out nq)
        clear HB RH hc
        generalize wr.drewN nq = wq at *
        go_wp2
        go_roundw
        case rel => exact ⟨i + 1, d, hlt, by go_num, rfl, HD2, by omega, HB3⟩
        case measure => simp [intOf]; omega
      | false =>
        have HD2 := Lib.hid (show d + 1 = dif12 (bl.take (i + 1)) by rw [e, dif_snoc, if_neg (of_decide_eq_false hdm), ← HD.out])
        have HDM := Lib.hid hd2
        clear HD hdm hd2 e hx R
        go_wp2
        go_quiet ((go_at_call 50; exact quiet_same (l1Has_eq _ _ _ _ _ _ _ (RH.drewN _) false HDM.out)))
        have HB3 := Lib.hid (belowN HB.out nq)
        clear HB RH hc
        generalize wr.drewN nq = wq at *
        go_wp2
        go_roundw
        case rel => exact ⟨i + 1, d + 1, hlt, by go_num, by go_num, HD2, by omega, HB3⟩
        case measure => simp [intOf]; omega
    · have HF := Lib.hid (show ((dif12 bl : Nat) : Int) = (d : Int) by rw [HD.out, List.take_of_length_le (by omega)])
      go_wp2
      go_ret
      rw [HF.out]
      exact ⟨rfl, HB.out⟩
end Go.Proofs.Ytacnbbdaacfacaa
