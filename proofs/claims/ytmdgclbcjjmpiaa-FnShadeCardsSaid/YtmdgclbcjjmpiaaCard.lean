/- The walk of the program's IsShadeCard. No condition. -/
import Derived.Test.YtmdgclbcjjmpiaaCardMath
import Derived.IntWalk
namespace Go.Proofs.Ytmdgclbcjjmpiaa
open Go.RowKit

set_option maxRecDepth 100000 in
set_option maxHeartbeats 2000000 in
theorem implIsShadeCard_any (A : Option Addr) (n c B : Nat) (xs : List ShadeR) (w : World) (h : RdF shadeF w B A n c xs) (hB : B ≤ w.heap.size) :
    Calls Try.prog 22 #[.slice A n c] w (Tells w (cardB xs)) := by
  have hn := h.len_lt
  have hcap := h.cap
  obtain rfl := h.len
  by_cases hlong : 10 < xs.length
  · have H := Lib.hid (card_long hlong)
    go_enter Try.func22, Try.ntmps22
    go_wp2
    go_ret
    exact ⟨ret_bool H.out.symm, Below.refl _ _⟩
  · go_enter Try.func22, Try.ntmps22
    go_wp2
    go_loopw [12, 2] (fun i r wr => ∃ k : Nat, k ≤ xs.length ∧ i = .int .i64 k ∧ r = .bool false ∧ CardTo xs k ∧ Below w.heap.size w wr) (fun i _ _ => xs.length - (intOf i).toNat)
    case atStart => exact ⟨0, Nat.zero_le _, rfl, rfl, cardTo_zero _, Below.refl _ _⟩
    case round =>
      obtain ⟨k, hk, rfl, rfl, hct, hb⟩ := hrel
      have HC := Lib.hid hct
      clear hct
      by_cases hlt : k < xs.length
      · obtain ⟨b, off, a, rfl, hbB, ha, HX, hc0, hc1, hc2, hc3, hc4⟩ := ShadeR_at (F := shadeF) rfl (fun _ => rfl) (fun _ => rfl) h hlt
        have hx0 := (hb.cell (p := ⟨b, off + k * 5, none⟩) (by show b < _; omega)).trans hc0
        have hx1 := (hb.cell (p := ⟨b, off + k * 5 + 1, none⟩) (by show b < _; omega)).trans hc1
        have hx2 := (hb.cell (p := ⟨b, off + k * 5 + 2, none⟩) (by show b < _; omega)).trans hc2
        have hx3 := (hb.cell (p := ⟨b, off + k * 5 + 3, none⟩) (by show b < _; omega)).trans hc3
        have hx4 := (hb.cell (p := ⟨b, off + k * 5 + 4, none⟩) (by show b < _; omega)).trans hc4
        have hxb := (Blk.new wr #[.int .i64 a.f0, .string a.f1, .int .i64 a.f2, .int .i64 a.f3, .int .i64 a.f4] 30)
        have hzz := hb.size
        clear hc0 hc1 hc2 hc3 hc4
        by_cases hs : shadeB a = true
        · go_wp2_with fail
          refine (implIsShade_any a _ ha.2.1).mono ?_
          rintro e w1 ⟨rfl, hb1⟩
          have y1 := hxb.all hb1
          have HB1 : Below w.heap.size w w1 := (hb.alloc hb.size _).trans (hb1.mono (by simp; omega))
          have hz1 : wr.heap.size < w1.heap.size := y1.lt
          clear hb1 hx0 hx1 hx2 hx3 hx4 hxb
          generalize wr.heap.size = P at *
          go_wp2_with fail
          go_loopw [24, 2] (fun i r wr' => ∃ j : Nat, j ≤ k ∧ i = .int .i64 j ∧ r = .bool false ∧ Ahead xs j a ∧ Below w.heap.size w wr' ∧ Blk wr' P 30 #[.int .i64 a.f0, .string a.f1, .int .i64 a.f2, .int .i64 a.f3, .int .i64 a.f4]) (fun i _ _ => k - (intOf i).toNat)
          case atStart => exact ⟨0, Nat.zero_le _, rfl, rfl, ahead_zero _ _, HB1, y1⟩
          case round =>
            obtain ⟨j, hj, rfl, rfl, hah, hb2, y2⟩ := hrel
            have HA := Lib.hid hah
            clear hah
            have z0 := y2.cell 0
            have z1 := y2.cell 1
            have hz2 : P < wr.heap.size := y2.lt
            by_cases hjk : j < k
            · obtain ⟨_, _, p, he, _, hp, HP, hd0, hd1, hd2, hd3, hd4⟩ := ShadeR_at (F := shadeF) rfl (fun _ => rfl) (fun _ => rfl) h (show j < xs.length by omega)
              cases he
              have hu0 := (hb2.cell (p := ⟨b, off + j * 5, none⟩) (by show b < _; omega)).trans hd0
              have hu1 := (hb2.cell (p := ⟨b, off + j * 5 + 1, none⟩) (by show b < _; omega)).trans hd1
              have hu2 := (hb2.cell (p := ⟨b, off + j * 5 + 2, none⟩) (by show b < _; omega)).trans hd2
              have hu3 := (hb2.cell (p := ⟨b, off + j * 5 + 3, none⟩) (by show b < _; omega)).trans hd3
              have hu4 := (hb2.cell (p := ⟨b, off + j * 5 + 4, none⟩) (by show b < _; omega)).trans hd4
              have y3 := y2.alloc (.cells #[.int .i64 p.f0, .string p.f1, .int .i64 p.f2, .int .i64 p.f3, .int .i64 p.f4] 30)
              have hb3 := hb2.alloc hb2.size (.cells #[.int .i64 p.f0, .string p.f1, .int .i64 p.f2, .int .i64 p.f3, .int .i64 p.f4] 30)
              clear hd0 hd1 hd2 hd3 hd4
              by_cases hid : p.f0 < a.f0
              · by_cases hnm : (p.f1.toList == a.f1.toList) = true
                · have H := Lib.hid (card_bad2 HX.out HP.out hjk (fun hh => by rw [hnm] at hh; cases hh.2))
                  go_wp2
                  go_ret
                  exact ⟨ret_bool H.out.symm, hb3⟩
                · have hnm' := not_false hnm
                  have H := Lib.hid (ahead_step HA.out HP.out hid hnm')
                  go_wp2
                  go_roundw
                  case rel => exact ⟨j + 1, by omega, by go_num, rfl, H.out, hb3, y3⟩
                  case measure => simp [intOf]; omega
              · go_wp2
                go_ret
                exact ⟨ret_bool (card_bad2 HX.out HP.out hjk (fun hh => by have := hh.1; omega)).symm, hb3⟩
            · go_wp2
              go_roundw
              case rel => exact ⟨k + 1, by omega, by go_num, rfl, cardTo_step HC.out HX.out hs (by obtain rfl : j = k := (by omega); exact HA.out), hb2⟩
              case measure => simp [intOf]; omega
        · have H := Lib.hid (card_bad1 HX.out hs)
          have hs' := not_false hs
          go_wp2_with fail
          refine (implIsShade_any a _ ha.2.1).mono ?_
          rintro e w1 ⟨rfl, hb1⟩
          have HB1 : Below w.heap.size w w1 := (hb.alloc hb.size _).trans (hb1.mono (by simp; omega))
          clear hb1 hx0 hx1 hx2 hx3 hx4 hxb
          go_wp2
          go_ret
          exact ⟨ret_bool H.out.symm, HB1⟩
      · go_wp2
        go_ret
        exact ⟨ret_bool (cardB_yes ⟨by omega, by obtain rfl : k = xs.length := (by omega); exact HC.out⟩).symm, hb⟩

theorem l3One_eq (s : ShadeR) (w : World) (hm : s.f1.size ≤ maxLen) (b : Bool) (h : shadeB s = b) :
    Calls Try.prog 43 #[.agg #[.int .i64 s.f0, .string s.f1, .int .i64 s.f2, .int .i64 s.f3, .int .i64 s.f4]] w (Tells w b) := h ▸ l3One_any s w hm
set_option maxRecDepth 100000 in
set_option maxHeartbeats 4000000 in
theorem l3Good_any (A : Option Addr) (n c B : Nat) (xs : List ShadeR) (w : World) (h : RdF shadeF w B A n c xs) (hB : B ≤ w.heap.size) :
    Calls Try.prog 26 #[.slice A n c] w (Tells w (cardB xs)) := by
  have hn := h.len_lt
  have hcap := h.cap
  obtain rfl := h.len
  go_enter Try.func26, Try.ntmps26
  go_wp2
  go_loopw [3, 2] (fun i r wr => ∃ k : Nat, k ≤ xs.length ∧ k ≤ 11 ∧ i = .int .i64 k ∧ r = .bool false ∧ CardTo xs k ∧ Below w.heap.size w wr) (fun i _ _ => xs.length - (intOf i).toNat)
  case atStart => exact ⟨0, Nat.zero_le _, by omega, rfl, rfl, cardTo_zero _, Below.refl _ _⟩
  case round =>
    obtain ⟨k, hk, hk11, rfl, rfl, hct, hb⟩ := hrel
    have HC := Lib.hid hct
    clear hct
    by_cases hlt : k < xs.length
    · by_cases h10 : k ≤ 10
      · obtain ⟨b, off, a, rfl, hbB, ha, HX, hc0, hc1, hc2, hc3, hc4⟩ := ShadeR_at (F := shadeF) rfl (fun _ => rfl) (fun _ => rfl) h hlt
        have hx0 := (hb.cell (p := ⟨b, off + k * 5, none⟩) (by show b < _; omega)).trans hc0
        have hx1 := (hb.cell (p := ⟨b, off + k * 5 + 1, none⟩) (by show b < _; omega)).trans hc1
        have hx2 := (hb.cell (p := ⟨b, off + k * 5 + 2, none⟩) (by show b < _; omega)).trans hc2
        have hx3 := (hb.cell (p := ⟨b, off + k * 5 + 3, none⟩) (by show b < _; omega)).trans hc3
        have hx4 := (hb.cell (p := ⟨b, off + k * 5 + 4, none⟩) (by show b < _; omega)).trans hc4
        have hzz := hb.size
        have hbz : b < wr.heap.size := by omega
        have hk0 : (0 : Int) ≤ (k : Int) := by omega
        have hkn : (k : Int) < (xs.length : Int) := by omega
        clear hc0 hc1 hc2 hc3 hc4
        by_cases hs : shadeB a = true
        · by_cases hkp : 0 < k
          · obtain ⟨m, HM⟩ : ∃ m, Hid (m + 1 = k) := ⟨k - 1, show k - 1 + 1 = k by omega⟩
            obtain ⟨_, _, p, he, _, hp, HP, hd0, _, _, _, _⟩ := ShadeR_at (F := shadeF) rfl (fun _ => rfl) (fun _ => rfl) h (show m < xs.length by have := HM.out; omega)
            cases he
            have hu0 := (hb.cell (p := ⟨b, off + m * 5, none⟩) (by show b < _; omega)).trans hd0
            have hm0 : (0 : Int) ≤ (m : Int) := by omega
            have hm1 : (m : Int) < (xs.length : Int) := by have := HM.out; omega
            have hki : (0 : Int) < (k : Int) := by omega
            have hm := ha.2.1
            have e1 : IntKind.i64.wrap ((k : Int) - 1) = (m : Int) := by have := HM.out; rw [IntWalk.i64_in _ (by omega)]; omega
            clear hd0
            by_cases hid : p.f0 < a.f0
            · have HIDS := Lib.hid (ids_near HC.out (show xs[k - 1]? = some p by have := HM.out; rw [show k - 1 = m by omega]; exact HP.out) hkp hid)
              go_wp2
              go_region_held3 (fun w' => w'.cell? ⟨b, off + k * 5, none⟩ = some (.int .i64 a.f0) ∧ w'.cell? ⟨b, off + k * 5 + 1, none⟩ = some (.string a.f1) ∧ w'.cell? ⟨b, off + k * 5 + 2, none⟩ = some (.int .i64 a.f2) ∧ w'.cell? ⟨b, off + k * 5 + 3, none⟩ = some (.int .i64 a.f3) ∧ w'.cell? ⟨b, off + k * 5 + 4, none⟩ = some (.int .i64 a.f4) ∧ w'.cell? ⟨b, off + m * 5, none⟩ = some (.int .i64 p.f0)) (first | exact ⟨hx0, hx1, hx2, hx3, hx4, hu0⟩ | go_keep) ((go_at_call 43; (with_reducible refine (l3One_eq a _ hm _ hs).mono ?_); rintro e w1 ⟨rfl, hb1⟩; (try replace hb1 := below_drew' hb1); replace hx0 := cells_of hb1 hx0 hbz; replace hx1 := cells_of hb1 hx1 hbz; replace hx2 := cells_of hb1 hx2 hbz; replace hx3 := cells_of hb1 hx3 hbz; replace hx4 := cells_of hb1 hx4 hbz; replace hu0 := cells_of hb1 hu0 hbz))
              clear e1
              have HB1 : Below w.heap.size w w1 := hb.trans (hb1.mono hzz)
              have hbz1 : b < w1.heap.size := Nat.lt_of_lt_of_le hbz hb1.size
              go_wp2
              go_loopw [4, 2] (fun i r wr => ∃ j : Nat, j ≤ k ∧ i = .int .i64 j ∧ r = .bool false ∧ Ahead xs j a ∧ Below w.heap.size w wr ∧ Below w1.heap.size w1 wr) (fun i _ _ => k - (intOf i).toNat)
              case atStart => exact ⟨0, Nat.zero_le _, rfl, rfl, ahead_zero _ _, HB1, Below.refl _ _⟩
              case round =>
                obtain ⟨j, hj, rfl, rfl, hah, hb2, hb3⟩ := hrel
                have HA := Lib.hid hah
                clear hah
                by_cases hjk : j < k
                · obtain ⟨_, _, q, he, _, hq, HQ, _, hv1, _, _, _⟩ := ShadeR_at (F := shadeF) rfl (fun _ => rfl) (fun _ => rfl) h (show j < xs.length by omega)
                  cases he
                  have hw1 := (hb2.cell (p := ⟨b, off + j * 5 + 1, none⟩) (by show b < _; omega)).trans hv1
                  have hy1 := (hb3.cell (p := ⟨b, off + k * 5 + 1, none⟩) hbz1).trans hx1
                  have hj0 : (0 : Int) ≤ (j : Int) := by omega
                  have hjn : (j : Int) < (xs.length : Int) := by omega
                  have hid2 := HIDS.out j q hjk HQ.out
                  have hz2 := hb2.size
                  have hz3 := hb3.size
                  clear hv1
                  by_cases hnm : (q.f1.toList == a.f1.toList) = true
                  · have H := Lib.hid (card_bad2 HX.out HQ.out hjk (fun hh => by rw [hnm] at hh; cases hh.2))
                    go_wp2
                    go_quiet (fail)
                    go_wp2
                    go_ret
                    exact ⟨ret_bool H.out.symm, by repeat (first | assumption | exact Below.refl _ _ | refine belowN ?_ _ | refine belowD ?_ | (refine Below.setCell ?_ (by first | (simp; done) | (simp; omega) | omega) _) | (refine Below.alloc ?_ (by first | (simp; done) | (simp; omega) | omega) _))⟩
                  · have hnm' := not_false hnm
                    have H := Lib.hid (ahead_step HA.out HQ.out hid2 hnm')
                    go_wp2
                    go_quiet (fail)
                    go_wp2
                    go_roundw
                    case rel => exact ⟨j + 1, by omega, by go_num, rfl, H.out, by repeat (first | assumption | exact Below.refl _ _ | refine belowN ?_ _ | refine belowD ?_ | (refine Below.setCell ?_ (by first | (simp; done) | (simp; omega) | omega) _) | (refine Below.alloc ?_ (by first | (simp; done) | (simp; omega) | omega) _)), by repeat (first | assumption | exact Below.refl _ _ | refine belowN ?_ _ | refine belowD ?_ | (refine Below.setCell ?_ (by first | (simp; done) | (simp; omega) | omega) _) | (refine Below.alloc ?_ (by first | (simp; done) | (simp; omega) | omega) _))⟩
                    case measure => simp [intOf]; omega
                · go_wp2
                  go_roundw
                  case rel => exact ⟨k + 1, by omega, by omega, by go_num, rfl, cardTo_step HC.out HX.out hs (by obtain rfl : j = k := (by omega); exact HA.out), hb2⟩
                  case measure => simp [intOf]; omega
            · have H := Lib.hid (card_bad2 HX.out HP.out (show m < k by have := HM.out; omega) (fun hh => hid hh.1))
              go_wp2
              go_region_held3 (fun w' => w'.cell? ⟨b, off + k * 5, none⟩ = some (.int .i64 a.f0) ∧ w'.cell? ⟨b, off + k * 5 + 1, none⟩ = some (.string a.f1) ∧ w'.cell? ⟨b, off + k * 5 + 2, none⟩ = some (.int .i64 a.f2) ∧ w'.cell? ⟨b, off + k * 5 + 3, none⟩ = some (.int .i64 a.f3) ∧ w'.cell? ⟨b, off + k * 5 + 4, none⟩ = some (.int .i64 a.f4) ∧ w'.cell? ⟨b, off + m * 5, none⟩ = some (.int .i64 p.f0)) (first | exact ⟨hx0, hx1, hx2, hx3, hx4, hu0⟩ | go_keep) ((go_at_call 43; (with_reducible refine (l3One_eq a _ hm _ hs).mono ?_); rintro e w1 ⟨rfl, hb1⟩; (try replace hb1 := below_drew' hb1); replace hx0 := cells_of hb1 hx0 hbz; replace hx1 := cells_of hb1 hx1 hbz; replace hx2 := cells_of hb1 hx2 hbz; replace hx3 := cells_of hb1 hx3 hbz; replace hx4 := cells_of hb1 hx4 hbz; replace hu0 := cells_of hb1 hu0 hbz))
              clear e1
              have HB1 : Below w.heap.size w w1 := hb.trans (hb1.mono hzz)
              go_wp2
              go_ret
              exact ⟨ret_bool H.out.symm, HB1⟩
          · have hk0' : decide ((0 : Int) < (k : Int)) = false := by rw [decide_eq_false_iff_not]; omega
            have hk0'' : decide (0 < k) = false := by rw [decide_eq_false_iff_not]; omega
            have HIDS := Lib.hid (show ∀ i b, i < k → xs[i]? = some b → b.f0 < a.f0 from fun i b hi => by omega)
            have hm := ha.2.1
            go_wp2
            refine wp_region_noPanic ?_
            refine wp_region_held_drew (S := (fun w' => w'.cell? ⟨b, off + k * 5, none⟩ = some (.int .i64 a.f0) ∧ w'.cell? ⟨b, off + k * 5 + 1, none⟩ = some (.string a.f1) ∧ w'.cell? ⟨b, off + k * 5 + 2, none⟩ = some (.int .i64 a.f2) ∧ w'.cell? ⟨b, off + k * 5 + 3, none⟩ = some (.int .i64 a.f3) ∧ w'.cell? ⟨b, off + k * 5 + 4, none⟩ = some (.int .i64 a.f4))) (by kernel_rfl) (by go_keep) (fun hHeld => ?_)
            refine wpAnyH_take (i := 0) (v := ?_) rfl (by kernel_rfl) (by kernel_rfl) (by kernel_rfl) (fun _ _ _ h => h) (Or.inl ⟨by rfl, ?_⟩) (by assumption) ?_
            rotate_left
            · intro w hSw; (try dsimp only at hSw); go_simp; (try with_reducible rfl)
            (try simp only [Act.put, List.getElem_toArray, List.getElem_cons_zero, List.setIfInBounds_toArray, List.set_cons_zero, List.set_cons_succ])
            refine wpAnyH_take (i := 1) (v := ?_) rfl (by kernel_rfl) (by kernel_rfl) (by kernel_rfl) (fun _ _ _ h => h) (Or.inl ⟨by rfl, ?_⟩) (by assumption) ?_
            rotate_left
            · intro w hSw; (try dsimp only at hSw); go_simp; (try with_reducible rfl)
            (try simp only [Act.put, List.getElem_toArray, List.getElem_cons_zero, List.getElem_cons_succ, List.setIfInBounds_toArray, List.set_cons_zero, List.set_cons_succ])
            refine wpAnyH_take (i := 2) (v := ?_) rfl (by kernel_rfl) (by kernel_rfl) (by kernel_rfl) (fun _ _ _ h => h) (Or.inl ⟨by rfl, ?_⟩) (by assumption) ?_
            rotate_left
            · intro w hSw; (try dsimp only at hSw); go_simp; (try with_reducible rfl)
            (try simp only [Act.put, List.getElem_toArray, List.getElem_cons_zero, List.getElem_cons_succ, List.setIfInBounds_toArray, List.set_cons_zero, List.set_cons_succ])
            refine wpAnyH_take (i := 3) (v := ?_) rfl (by kernel_rfl) (by kernel_rfl) (by kernel_rfl) (fun _ _ _ h => h) (Or.inl ⟨by rfl, ?_⟩) (by assumption) ?_
            rotate_left
            · intro w hSw; (try dsimp only at hSw); go_simp; (try with_reducible rfl)
            (try simp only [Act.put, List.getElem_toArray, List.getElem_cons_zero, List.getElem_cons_succ, List.setIfInBounds_toArray, List.set_cons_zero, List.set_cons_succ])
            refine wpAnyH_ready (rs := [4]) (by kernel_rfl) (by simp) ?_
            refine AllReadyH.cons rfl (fun K hK => ?_) AllReadyH.nil
            go_simp
            ((with_reducible refine (l3One_eq a _ hm _ hs).mono ?_); rintro e w1 ⟨rfl, hb1⟩; (try replace hb1 := below_drew' hb1); replace hx0 := cells_of hb1 hx0 hbz; replace hx1 := cells_of hb1 hx1 hbz; replace hx2 := cells_of hb1 hx2 hbz; replace hx3 := cells_of hb1 hx3 hbz; replace hx4 := cells_of hb1 hx4 hbz; go_simp)
            refine hK.out _ _ (by exact ⟨hx0, hx1, hx2, hx3, hx4⟩) (fun hHeld => ?_)
            clear hK K
            (try simp only [Act.put, List.getElem_toArray, List.getElem_cons_zero, List.getElem_cons_succ, List.setIfInBounds_toArray, List.set_cons_zero, List.set_cons_succ])
            refine wpAnyH_take (i := 5) (v := ?_) rfl (by kernel_rfl) (by kernel_rfl) (by kernel_rfl) (fun _ _ _ h => h) (Or.inl ⟨by rfl, ?_⟩) (by assumption) ?_
            rotate_left
            · intro w hSw; (try dsimp only at hSw); go_simp; (try with_reducible rfl)
            (try simp only [Act.put, List.getElem_toArray, List.getElem_cons_zero, List.getElem_cons_succ, List.setIfInBounds_toArray, List.set_cons_zero, List.set_cons_succ])
            refine wpAnyH_take (i := 6) (v := ?_) rfl (by kernel_rfl) (by kernel_rfl) (by kernel_rfl) (fun _ _ _ h => h) (Or.inl ⟨by rfl, ?_⟩) (by assumption) ?_
            rotate_left
            · intro w hSw; (try dsimp only at hSw); go_simp; (try with_reducible rfl)
            (try simp only [Act.put, List.getElem_toArray, List.getElem_cons_zero, List.getElem_cons_succ, List.setIfInBounds_toArray, List.set_cons_zero, List.set_cons_succ])
            refine wpAnyH_take (i := 7) (v := ?_) rfl (by kernel_rfl) (by kernel_rfl) (by kernel_rfl) (fun _ _ _ h => h) (Or.inl ⟨by rfl, ?_⟩) (by assumption) ?_
            rotate_left
            · intro w hSw; (try dsimp only at hSw); go_simp; (try with_reducible rfl)
            (try simp only [Act.put, List.getElem_toArray, List.getElem_cons_zero, List.getElem_cons_succ, List.setIfInBounds_toArray, List.set_cons_zero, List.set_cons_succ])
            refine wpAnyH_take (i := 8) (v := ?_) rfl (by kernel_rfl) (by kernel_rfl) (by kernel_rfl) (fun _ _ _ h => h) (Or.inl ⟨by rfl, ?_⟩) (by assumption) ?_
            rotate_left
            · intro w hSw; (try dsimp only at hSw); go_simp; (try with_reducible rfl)
            (try simp only [Act.put, List.getElem_toArray, List.getElem_cons_zero, List.getElem_cons_succ, List.setIfInBounds_toArray, List.set_cons_zero, List.set_cons_succ])
            refine wpAnyH_take (i := 9) (v := ?_) rfl (by kernel_rfl) (by kernel_rfl) (by kernel_rfl) (fun _ _ _ h => h) (Or.inl ⟨by rfl, ?_⟩) (by assumption) ?_
            rotate_left
            · intro w hSw; (try dsimp only at hSw); go_simp; (try with_reducible rfl)
            (try simp only [Act.put, List.getElem_toArray, List.getElem_cons_zero, List.getElem_cons_succ, List.setIfInBounds_toArray, List.set_cons_zero, List.set_cons_succ])
            refine wpAnyH_take (i := 10) (v := undef) rfl (by kernel_rfl) (by kernel_rfl) (by kernel_rfl) (fun _ _ _ h => h) (Or.inr ⟨by rfl, rfl⟩) (by assumption) ?_
            (try simp only [Act.put, List.getElem_toArray, List.getElem_cons_zero, List.getElem_cons_succ, List.setIfInBounds_toArray, List.set_cons_zero, List.set_cons_succ])
            refine wpAnyH_take (i := 11) (v := undef) rfl (by kernel_rfl) (by kernel_rfl) (by kernel_rfl) (fun _ _ _ h => h) (Or.inr ⟨by rfl, rfl⟩) (by assumption) ?_
            (try simp only [Act.put, List.getElem_toArray, List.getElem_cons_zero, List.getElem_cons_succ, List.setIfInBounds_toArray, List.set_cons_zero, List.set_cons_succ])
            refine wpAnyH_take (i := 12) (v := undef) rfl (by kernel_rfl) (by kernel_rfl) (by kernel_rfl) (fun _ _ _ h => h) (Or.inr ⟨by rfl, rfl⟩) (by assumption) ?_
            (try simp only [Act.put, List.getElem_toArray, List.getElem_cons_zero, List.getElem_cons_succ, List.setIfInBounds_toArray, List.set_cons_zero, List.set_cons_succ])
            refine wpAnyH_take (i := 13) (v := undef) rfl (by kernel_rfl) (by kernel_rfl) (by kernel_rfl) (fun _ _ _ h => h) (Or.inr ⟨by rfl, rfl⟩) (by assumption) ?_
            (try simp only [Act.put, List.getElem_toArray, List.getElem_cons_zero, List.getElem_cons_succ, List.setIfInBounds_toArray, List.set_cons_zero, List.set_cons_succ])
            refine wpAnyH_take (i := 14) (v := undef) rfl (by kernel_rfl) (by kernel_rfl) (by kernel_rfl) (fun _ _ _ h => h) (Or.inr ⟨by rfl, rfl⟩) (by assumption) ?_
            (try simp only [Act.put, List.getElem_toArray, List.getElem_cons_zero, List.getElem_cons_succ, List.setIfInBounds_toArray, List.set_cons_zero, List.set_cons_succ])
            refine wpAnyH_take (i := 15) (v := undef) rfl (by kernel_rfl) (by kernel_rfl) (by kernel_rfl) (fun _ _ _ h => h) (Or.inr ⟨by rfl, rfl⟩) (by assumption) ?_
            (try simp only [Act.put, List.getElem_toArray, List.getElem_cons_zero, List.getElem_cons_succ, List.setIfInBounds_toArray, List.set_cons_zero, List.set_cons_succ])
            refine wpAnyH_take (i := 16) (v := undef) rfl (by kernel_rfl) (by kernel_rfl) (by kernel_rfl) (fun _ _ _ h => h) (Or.inr ⟨by rfl, rfl⟩) (by assumption) ?_
            (try simp only [Act.put, List.getElem_toArray, List.getElem_cons_zero, List.getElem_cons_succ, List.setIfInBounds_toArray, List.set_cons_zero, List.set_cons_succ])
            refine wpAnyH_take (i := 17) (v := undef) rfl (by kernel_rfl) (by kernel_rfl) (by kernel_rfl) (fun _ _ _ h => h) (Or.inr ⟨by rfl, rfl⟩) (by assumption) ?_
            (try simp only [Act.put, List.getElem_toArray, List.getElem_cons_zero, List.getElem_cons_succ, List.setIfInBounds_toArray, List.set_cons_zero, List.set_cons_succ])
            refine wpAnyH_take (i := 18) (v := undef) rfl (by kernel_rfl) (by kernel_rfl) (by kernel_rfl) (fun _ _ _ h => h) (Or.inr ⟨by rfl, rfl⟩) (by assumption) ?_
            (try simp only [Act.put, List.getElem_toArray, List.getElem_cons_zero, List.getElem_cons_succ, List.setIfInBounds_toArray, List.set_cons_zero, List.set_cons_succ])
            refine wpAnyH_take (i := 19) (v := undef) rfl (by kernel_rfl) (by kernel_rfl) (by kernel_rfl) (fun _ _ _ h => h) (Or.inr ⟨by rfl, rfl⟩) (by assumption) ?_
            (try simp only [Act.put, List.getElem_toArray, List.getElem_cons_zero, List.getElem_cons_succ, List.setIfInBounds_toArray, List.set_cons_zero, List.set_cons_succ])
            refine wpAnyH_take (i := 20) (v := undef) rfl (by kernel_rfl) (by kernel_rfl) (by kernel_rfl) (fun _ _ _ h => h) (Or.inr ⟨by rfl, rfl⟩) (by assumption) ?_
            (try simp only [Act.put, List.getElem_toArray, List.getElem_cons_zero, List.getElem_cons_succ, List.setIfInBounds_toArray, List.set_cons_zero, List.set_cons_succ])
            refine wpAnyH_take (i := 21) (v := undef) rfl (by kernel_rfl) (by kernel_rfl) (by kernel_rfl) (fun _ _ _ h => h) (Or.inr ⟨by rfl, rfl⟩) (by assumption) ?_
            (try simp only [Act.put, List.getElem_toArray, List.getElem_cons_zero, List.getElem_cons_succ, List.setIfInBounds_toArray, List.set_cons_zero, List.set_cons_succ])
            refine wpAnyH_take (i := 22) (v := ?_) rfl (by kernel_rfl) (by kernel_rfl) (by kernel_rfl) (fun _ _ _ h => h) (Or.inl ⟨by rfl, ?_⟩) (by assumption) ?_
            rotate_left
            · intro w hSw; (try dsimp only at hSw); go_simp; (try with_reducible rfl)
            (try simp only [Act.put, List.getElem_toArray, List.getElem_cons_zero, List.getElem_cons_succ, List.setIfInBounds_toArray, List.set_cons_zero, List.set_cons_succ])
            refine wpAnyH_take (i := 23) (v := ?_) rfl (by kernel_rfl) (by kernel_rfl) (by kernel_rfl) (fun _ _ _ h => h) (Or.inl ⟨by rfl, ?_⟩) (by assumption) ?_
            rotate_left
            · intro w hSw; (try dsimp only at hSw); go_simp; (try with_reducible rfl)
            (try simp only [Act.put, List.getElem_toArray, List.getElem_cons_zero, List.getElem_cons_succ, List.setIfInBounds_toArray, List.set_cons_zero, List.set_cons_succ])
            refine wpAnyH_done (by kernel_rfl) ?_ _
            refine NoPanic.normal ?_
            have HB1 : Below w.heap.size w w1 := hb.trans (hb1.mono hzz)
            have hbz1 : b < w1.heap.size := Nat.lt_of_lt_of_le hbz hb1.size
            go_wp2
            go_loopw [4, 2] (fun i r wr => ∃ j : Nat, j ≤ k ∧ i = .int .i64 j ∧ r = .bool false ∧ Ahead xs j a ∧ Below w.heap.size w wr ∧ Below w1.heap.size w1 wr) (fun i _ _ => k - (intOf i).toNat)
            case atStart => exact ⟨0, Nat.zero_le _, rfl, rfl, ahead_zero _ _, HB1, Below.refl _ _⟩
            case round =>
              obtain ⟨j, hj, rfl, rfl, hah, hb2, hb3⟩ := hrel
              have HA := Lib.hid hah
              clear hah
              by_cases hjk : j < k
              · obtain ⟨_, _, q, he, _, hq, HQ, _, hv1, _, _, _⟩ := ShadeR_at (F := shadeF) rfl (fun _ => rfl) (fun _ => rfl) h (show j < xs.length by omega)
                cases he
                have hw1 := (hb2.cell (p := ⟨b, off + j * 5 + 1, none⟩) (by show b < _; omega)).trans hv1
                have hy1 := (hb3.cell (p := ⟨b, off + k * 5 + 1, none⟩) hbz1).trans hx1
                have hj0 : (0 : Int) ≤ (j : Int) := by omega
                have hjn : (j : Int) < (xs.length : Int) := by omega
                have hid2 := HIDS.out j q hjk HQ.out
                have hz2 := hb2.size
                have hz3 := hb3.size
                clear hv1
                by_cases hnm : (q.f1.toList == a.f1.toList) = true
                · have H := Lib.hid (card_bad2 HX.out HQ.out hjk (fun hh => by rw [hnm] at hh; cases hh.2))
                  go_wp2
                  go_quiet (fail)
                  go_wp2
                  go_ret
                  exact ⟨ret_bool H.out.symm, by repeat (first | assumption | exact Below.refl _ _ | refine belowN ?_ _ | refine belowD ?_ | (refine Below.setCell ?_ (by first | (simp; done) | (simp; omega) | omega) _) | (refine Below.alloc ?_ (by first | (simp; done) | (simp; omega) | omega) _))⟩
                · have hnm' := not_false hnm
                  have H := Lib.hid (ahead_step HA.out HQ.out hid2 hnm')
                  go_wp2
                  go_quiet (fail)
                  go_wp2
                  go_roundw
                  case rel => exact ⟨j + 1, by omega, by go_num, rfl, H.out, by repeat (first | assumption | exact Below.refl _ _ | refine belowN ?_ _ | refine belowD ?_ | (refine Below.setCell ?_ (by first | (simp; done) | (simp; omega) | omega) _) | (refine Below.alloc ?_ (by first | (simp; done) | (simp; omega) | omega) _)), by repeat (first | assumption | exact Below.refl _ _ | refine belowN ?_ _ | refine belowD ?_ | (refine Below.setCell ?_ (by first | (simp; done) | (simp; omega) | omega) _) | (refine Below.alloc ?_ (by first | (simp; done) | (simp; omega) | omega) _))⟩
                  case measure => simp [intOf]; omega
              · go_wp2
                go_roundw
                case rel => exact ⟨k + 1, by omega, by omega, by go_num, rfl, cardTo_step HC.out HX.out hs (by obtain rfl : j = k := (by omega); exact HA.out), hb2⟩
                case measure => simp [intOf]; omega
        · have H := Lib.hid (card_bad1 HX.out hs)
          have hs' := not_false hs
          have hm := ha.2.1
          go_wp2
          refine wp_region_noPanic ?_
          refine wp_region_held_drew (S := (fun w' => w'.cell? ⟨b, off + k * 5, none⟩ = some (.int .i64 a.f0) ∧ w'.cell? ⟨b, off + k * 5 + 1, none⟩ = some (.string a.f1) ∧ w'.cell? ⟨b, off + k * 5 + 2, none⟩ = some (.int .i64 a.f2) ∧ w'.cell? ⟨b, off + k * 5 + 3, none⟩ = some (.int .i64 a.f3) ∧ w'.cell? ⟨b, off + k * 5 + 4, none⟩ = some (.int .i64 a.f4))) (by kernel_rfl) (by go_keep) (fun hHeld => ?_)
          refine wpAnyH_take (i := 0) (v := ?_) rfl (by kernel_rfl) (by kernel_rfl) (by kernel_rfl) (fun _ _ _ h => h) (Or.inl ⟨by rfl, ?_⟩) (by assumption) ?_
          rotate_left
          · intro w hSw; (try dsimp only at hSw); go_simp; (try with_reducible rfl)
          (try simp only [Act.put, List.getElem_toArray, List.getElem_cons_zero, List.setIfInBounds_toArray, List.set_cons_zero, List.set_cons_succ])
          refine wpAnyH_take (i := 1) (v := ?_) rfl (by kernel_rfl) (by kernel_rfl) (by kernel_rfl) (fun _ _ _ h => h) (Or.inl ⟨by rfl, ?_⟩) (by assumption) ?_
          rotate_left
          · intro w hSw; (try dsimp only at hSw); go_simp; (try with_reducible rfl)
          (try simp only [Act.put, List.getElem_toArray, List.getElem_cons_zero, List.getElem_cons_succ, List.setIfInBounds_toArray, List.set_cons_zero, List.set_cons_succ])
          refine wpAnyH_take (i := 2) (v := ?_) rfl (by kernel_rfl) (by kernel_rfl) (by kernel_rfl) (fun _ _ _ h => h) (Or.inl ⟨by rfl, ?_⟩) (by assumption) ?_
          rotate_left
          · intro w hSw; (try dsimp only at hSw); go_simp; (try with_reducible rfl)
          (try simp only [Act.put, List.getElem_toArray, List.getElem_cons_zero, List.getElem_cons_succ, List.setIfInBounds_toArray, List.set_cons_zero, List.set_cons_succ])
          refine wpAnyH_take (i := 3) (v := ?_) rfl (by kernel_rfl) (by kernel_rfl) (by kernel_rfl) (fun _ _ _ h => h) (Or.inl ⟨by rfl, ?_⟩) (by assumption) ?_
          rotate_left
          · intro w hSw; (try dsimp only at hSw); go_simp; (try with_reducible rfl)
          (try simp only [Act.put, List.getElem_toArray, List.getElem_cons_zero, List.getElem_cons_succ, List.setIfInBounds_toArray, List.set_cons_zero, List.set_cons_succ])
          refine wpAnyH_ready (rs := [4]) (by kernel_rfl) (by simp) ?_
          refine AllReadyH.cons rfl (fun K hK => ?_) AllReadyH.nil
          go_simp
          ((with_reducible refine (l3One_eq a _ hm _ hs').mono ?_); rintro e w1 ⟨rfl, hb1⟩; (try replace hb1 := below_drew' hb1); replace hx0 := cells_of hb1 hx0 hbz; replace hx1 := cells_of hb1 hx1 hbz; replace hx2 := cells_of hb1 hx2 hbz; replace hx3 := cells_of hb1 hx3 hbz; replace hx4 := cells_of hb1 hx4 hbz; go_simp)
          refine hK.out _ _ (by exact ⟨hx0, hx1, hx2, hx3, hx4⟩) (fun hHeld => ?_)
          clear hK K
          (try simp only [Act.put, List.getElem_toArray, List.getElem_cons_zero, List.getElem_cons_succ, List.setIfInBounds_toArray, List.set_cons_zero, List.set_cons_succ])
          refine wpAnyH_take (i := 5) (v := ?_) rfl (by kernel_rfl) (by kernel_rfl) (by kernel_rfl) (fun _ _ _ h => h) (Or.inl ⟨by rfl, ?_⟩) (by assumption) ?_
          rotate_left
          · intro w hSw; (try dsimp only at hSw); go_simp; (try with_reducible rfl)
          (try simp only [Act.put, List.getElem_toArray, List.getElem_cons_zero, List.getElem_cons_succ, List.setIfInBounds_toArray, List.set_cons_zero, List.set_cons_succ])
          refine wpAnyH_take (i := 6) (v := ?_) rfl (by kernel_rfl) (by kernel_rfl) (by kernel_rfl) (fun _ _ _ h => h) (Or.inl ⟨by rfl, ?_⟩) (by assumption) ?_
          rotate_left
          · intro w hSw; (try dsimp only at hSw); go_simp; (try with_reducible rfl)
          (try simp only [Act.put, List.getElem_toArray, List.getElem_cons_zero, List.getElem_cons_succ, List.setIfInBounds_toArray, List.set_cons_zero, List.set_cons_succ])
          refine wpAnyH_take (i := 7) (v := undef) rfl (by kernel_rfl) (by kernel_rfl) (by kernel_rfl) (fun _ _ _ h => h) (Or.inr ⟨by rfl, rfl⟩) (by assumption) ?_
          (try simp only [Act.put, List.getElem_toArray, List.getElem_cons_zero, List.getElem_cons_succ, List.setIfInBounds_toArray, List.set_cons_zero, List.set_cons_succ])
          refine wpAnyH_take (i := 8) (v := undef) rfl (by kernel_rfl) (by kernel_rfl) (by kernel_rfl) (fun _ _ _ h => h) (Or.inr ⟨by rfl, rfl⟩) (by assumption) ?_
          (try simp only [Act.put, List.getElem_toArray, List.getElem_cons_zero, List.getElem_cons_succ, List.setIfInBounds_toArray, List.set_cons_zero, List.set_cons_succ])
          refine wpAnyH_take (i := 9) (v := undef) rfl (by kernel_rfl) (by kernel_rfl) (by kernel_rfl) (fun _ _ _ h => h) (Or.inr ⟨by rfl, rfl⟩) (by assumption) ?_
          (try simp only [Act.put, List.getElem_toArray, List.getElem_cons_zero, List.getElem_cons_succ, List.setIfInBounds_toArray, List.set_cons_zero, List.set_cons_succ])
          refine wpAnyH_take (i := 10) (v := undef) rfl (by kernel_rfl) (by kernel_rfl) (by kernel_rfl) (fun _ _ _ h => h) (Or.inr ⟨by rfl, rfl⟩) (by assumption) ?_
          (try simp only [Act.put, List.getElem_toArray, List.getElem_cons_zero, List.getElem_cons_succ, List.setIfInBounds_toArray, List.set_cons_zero, List.set_cons_succ])
          refine wpAnyH_take (i := 11) (v := undef) rfl (by kernel_rfl) (by kernel_rfl) (by kernel_rfl) (fun _ _ _ h => h) (Or.inr ⟨by rfl, rfl⟩) (by assumption) ?_
          (try simp only [Act.put, List.getElem_toArray, List.getElem_cons_zero, List.getElem_cons_succ, List.setIfInBounds_toArray, List.set_cons_zero, List.set_cons_succ])
          refine wpAnyH_take (i := 12) (v := undef) rfl (by kernel_rfl) (by kernel_rfl) (by kernel_rfl) (fun _ _ _ h => h) (Or.inr ⟨by rfl, rfl⟩) (by assumption) ?_
          (try simp only [Act.put, List.getElem_toArray, List.getElem_cons_zero, List.getElem_cons_succ, List.setIfInBounds_toArray, List.set_cons_zero, List.set_cons_succ])
          refine wpAnyH_take (i := 13) (v := undef) rfl (by kernel_rfl) (by kernel_rfl) (by kernel_rfl) (fun _ _ _ h => h) (Or.inr ⟨by rfl, rfl⟩) (by assumption) ?_
          (try simp only [Act.put, List.getElem_toArray, List.getElem_cons_zero, List.getElem_cons_succ, List.setIfInBounds_toArray, List.set_cons_zero, List.set_cons_succ])
          refine wpAnyH_take (i := 14) (v := undef) rfl (by kernel_rfl) (by kernel_rfl) (by kernel_rfl) (fun _ _ _ h => h) (Or.inr ⟨by rfl, rfl⟩) (by assumption) ?_
          (try simp only [Act.put, List.getElem_toArray, List.getElem_cons_zero, List.getElem_cons_succ, List.setIfInBounds_toArray, List.set_cons_zero, List.set_cons_succ])
          refine wpAnyH_take (i := 15) (v := undef) rfl (by kernel_rfl) (by kernel_rfl) (by kernel_rfl) (fun _ _ _ h => h) (Or.inr ⟨by rfl, rfl⟩) (by assumption) ?_
          (try simp only [Act.put, List.getElem_toArray, List.getElem_cons_zero, List.getElem_cons_succ, List.setIfInBounds_toArray, List.set_cons_zero, List.set_cons_succ])
          refine wpAnyH_take (i := 16) (v := undef) rfl (by kernel_rfl) (by kernel_rfl) (by kernel_rfl) (fun _ _ _ h => h) (Or.inr ⟨by rfl, rfl⟩) (by assumption) ?_
          (try simp only [Act.put, List.getElem_toArray, List.getElem_cons_zero, List.getElem_cons_succ, List.setIfInBounds_toArray, List.set_cons_zero, List.set_cons_succ])
          refine wpAnyH_take (i := 17) (v := undef) rfl (by kernel_rfl) (by kernel_rfl) (by kernel_rfl) (fun _ _ _ h => h) (Or.inr ⟨by rfl, rfl⟩) (by assumption) ?_
          (try simp only [Act.put, List.getElem_toArray, List.getElem_cons_zero, List.getElem_cons_succ, List.setIfInBounds_toArray, List.set_cons_zero, List.set_cons_succ])
          refine wpAnyH_take (i := 18) (v := undef) rfl (by kernel_rfl) (by kernel_rfl) (by kernel_rfl) (fun _ _ _ h => h) (Or.inr ⟨by rfl, rfl⟩) (by assumption) ?_
          (try simp only [Act.put, List.getElem_toArray, List.getElem_cons_zero, List.getElem_cons_succ, List.setIfInBounds_toArray, List.set_cons_zero, List.set_cons_succ])
          refine wpAnyH_take (i := 19) (v := undef) rfl (by kernel_rfl) (by kernel_rfl) (by kernel_rfl) (fun _ _ _ h => h) (Or.inr ⟨by rfl, rfl⟩) (by assumption) ?_
          (try simp only [Act.put, List.getElem_toArray, List.getElem_cons_zero, List.getElem_cons_succ, List.setIfInBounds_toArray, List.set_cons_zero, List.set_cons_succ])
          refine wpAnyH_take (i := 20) (v := undef) rfl (by kernel_rfl) (by kernel_rfl) (by kernel_rfl) (fun _ _ _ h => h) (Or.inr ⟨by rfl, rfl⟩) (by assumption) ?_
          (try simp only [Act.put, List.getElem_toArray, List.getElem_cons_zero, List.getElem_cons_succ, List.setIfInBounds_toArray, List.set_cons_zero, List.set_cons_succ])
          refine wpAnyH_take (i := 21) (v := undef) rfl (by kernel_rfl) (by kernel_rfl) (by kernel_rfl) (fun _ _ _ h => h) (Or.inr ⟨by rfl, rfl⟩) (by assumption) ?_
          (try simp only [Act.put, List.getElem_toArray, List.getElem_cons_zero, List.getElem_cons_succ, List.setIfInBounds_toArray, List.set_cons_zero, List.set_cons_succ])
          refine wpAnyH_take (i := 22) (v := undef) rfl (by kernel_rfl) (by kernel_rfl) (by kernel_rfl) (fun _ _ _ h => h) (Or.inr ⟨by rfl, rfl⟩) (by assumption) ?_
          (try simp only [Act.put, List.getElem_toArray, List.getElem_cons_zero, List.getElem_cons_succ, List.setIfInBounds_toArray, List.set_cons_zero, List.set_cons_succ])
          refine wpAnyH_take (i := 23) (v := ?_) rfl (by kernel_rfl) (by kernel_rfl) (by kernel_rfl) (fun _ _ _ h => h) (Or.inl ⟨by rfl, ?_⟩) (by assumption) ?_
          rotate_left
          · intro w hSw; (try dsimp only at hSw); go_simp; (try with_reducible rfl)
          (try simp only [Act.put, List.getElem_toArray, List.getElem_cons_zero, List.getElem_cons_succ, List.setIfInBounds_toArray, List.set_cons_zero, List.set_cons_succ])
          refine wpAnyH_done (by kernel_rfl) ?_ _
          refine NoPanic.normal ?_
          have HB1 : Below w.heap.size w w1 := hb.trans (hb1.mono hzz)
          go_wp2
          go_ret
          exact ⟨ret_bool H.out.symm, HB1⟩
      · obtain rfl : k = 11 := by omega
        have H := Lib.hid (card_long (xs := xs) (by omega))
        go_wp2
        go_ret
        exact ⟨ret_bool (by rw [H.out]; simp; omega), hb⟩
    · go_wp2
      go_ret
      exact ⟨ret_bool (by
        obtain rfl : k = xs.length := (by omega)
        rcases Nat.lt_or_ge 10 xs.length with hl | hl
        · rw [card_long hl]; simp; omega
        · rw [cardB_yes ⟨hl, HC.out⟩]; simp; omega), hb⟩
end Go.Proofs.Ytmdgclbcjjmpiaa
