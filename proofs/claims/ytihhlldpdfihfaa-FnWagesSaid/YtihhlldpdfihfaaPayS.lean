/- The weavers with a sheet, and PayRoll: the walks of the model. Conditions: as they stand. -/
import Derived.Test.YtihhlldpdfihfaaPay
import Derived.Test.YtihhlldpdfihfaaWagesS
import Derived.Test.YtihhlldpdfihfaaHas1
import Derived.Test.YtihhlldpdfihfaaPut1
import Derived.Test.YtihhlldpdfihfaaStepZ
namespace Go.Proofs.Ytihhlldpdfihfaa
open Go.RowKit

set_option maxRecDepth 100000 in
set_option maxHeartbeats 4000000 in
theorem l14Weavers_any (A : Option Addr) (n c B : Nat) (xs : List WorkSheetR) (w : World) (h : RdF workSheetF w B A n c xs) (hB : B ≤ w.heap.size) (hn : n ≤ 1000) :
    Calls Try.prog 30 #[.slice A n c] w fun e w' => ∃ A' c', e = .returned (.slice A' (weavers14 xs).length c') ∧ Own w' w.heap.size (.slice A' (weavers14 xs).length c') (weavers14 xs) ∧ Below w.heap.size w w' := by
  obtain rfl := h.len
  have o0 : Own (w.alloc (.cells #[] 3)) w.heap.size (.slice (some ⟨w.heap.size, 0, none⟩) 0 0) [] := Own.empty (Nat.le_refl _)
  have HB0 : Below w.heap.size w (w.alloc (.cells #[] 3)) := (Below.refl _ _).alloc (Nat.le_refl _) _
  go_enter Try.func30, Try.ntmps30
  go_wp2
  generalize w.alloc (.cells #[] 3) = w1 at *
  go_loopw [4, 3] (fun i v wr => ∃ (k m : Nat) (M : List Int) (g c' : Nat), k ≤ xs.length ∧ i = .int .i64 k ∧ v = .slice (some ⟨g, 0, none⟩) m c' ∧ Hid (M.length = m) ∧ m ≤ k ∧ Own wr w.heap.size (.slice (some ⟨g, 0, none⟩) m c') M ∧ Hid (M.Pairwise (· < ·) ∧ ∀ y, y ∈ M ↔ y ∈ idsW (xs.take k)) ∧ Below w.heap.size w wr) (fun i _ _ => xs.length - (intOf i).toNat)
  case atStart => exact ⟨0, 0, [], _, 0, Nat.zero_le _, rfl, rfl, Lib.hid rfl, Nat.le_refl _, o0, Lib.hid ⟨List.Pairwise.nil, fun y => by simp [idsW]⟩, HB0⟩
  case round =>
    obtain ⟨k, m, M, g, c', hk, rfl, rfl, HL, hmk, own, HM, hb⟩ := hrel
    have hzz := hb.size
    by_cases hlt : k < xs.length
    · obtain ⟨b, off, a, rfl, hbB, ok, HX, hc0, hc1, hc2, hc3, hc4⟩ := WorkSheetR_at (F := workSheetF) rfl (fun _ => rfl) (fun _ => rfl) (h.all hb hB) hlt
      have hT := Lib.hid (fun y => idsW_take HX.out y)
      have hkn : (k : Int) < (xs.length : Int) := by omega
      have hki : (0 : Int) ≤ (k : Int) := by omega
      have hid : I64 a.f0 := ok.1
      by_cases hm : a.f0 ∈ M
      · have HN := Lib.hid (show M.Pairwise (· < ·) ∧ ∀ y, y ∈ M ↔ y ∈ idsW (xs.take (k + 1)) from ⟨HM.out.1, fun y => by
          rw [hT.out y, ← HM.out.2 y]
          exact ⟨.inr, fun hh => hh.elim (fun e => e ▸ hm) id⟩⟩)
        have HD := Lib.hid (show decide (a.f0 ∈ M) = true from decide_eq_true hm)
        clear hm
        go_wp2_with fail
        refine (l1Has_eq _ m c' _ M a.f0 _ own.rd true HD.out).mono ?_
        rintro e w2 ⟨rfl, rfl⟩
        go_wp2
        go_roundw
        case rel => exact ⟨k + 1, m, M, g, c', by omega, by go_num, rfl, HL, by omega, own, HN, hb⟩
        case measure => simp [intOf]; omega
      · have HN := Lib.hid (show (putI M a.f0).Pairwise (· < ·) ∧ ∀ y, y ∈ putI M a.f0 ↔ y ∈ idsW (xs.take (k + 1)) from ⟨putI_asc HM.out.1 hm, fun y => by rw [putI_mem, hT.out y, HM.out.2 y]⟩)
        have HD := Lib.hid (show decide (a.f0 ∈ M) = false from decide_eq_false hm)
        have HNE := Lib.hid hm
        clear hm
        go_wp2_with fail
        refine (l1Has_eq _ m c' _ M a.f0 _ own.rd false HD.out).mono ?_
        rintro e w2 ⟨rfl, rfl⟩
        go_wp2_with fail
        refine (l1Put_new g 0 m c' _ M a.f0 _ own.rd (Nat.le_refl _) hid (by omega) HNE.out).mono ?_
        rintro e w3 ⟨g3, c3, rfl, own3, hb3⟩
        have hpl := putI_len M a.f0
        replace own3 := own3.mono hzz
        have HB3 := hb.trans (hb3.mono hzz)
        obtain ⟨Z, hZ⟩ : ∃ Z, putI M a.f0 = Z := ⟨_, rfl⟩
        rw [hZ] at own3 HN hpl ⊢
        have hml : M.length = m := HL.out
        obtain ⟨q, hq⟩ : ∃ q, Z.length = q := ⟨_, rfl⟩
        have hqk : q ≤ k + 1 := by omega
        rw [hq] at own3 ⊢
        have HQ := Lib.hid hq
        clear hq hZ hpl hml own hb3
        go_wp2
        go_roundw
        case rel => exact ⟨k + 1, q, Z, g3, c3, by omega, by go_num, rfl, HQ, hqk, own3, HN, HB3⟩
        case measure => simp [intOf]; omega
    · obtain rfl : k = xs.length := by omega
      have HE := Lib.hid (show M = weavers14 xs from setI_eq HM.out.1 (fun y => by have := HM.out.2 y; rwa [List.take_length] at this))
      have hml : (weavers14 xs).length = m := by rw [← HE.out]; exact HL.out
      go_wp2
      go_ret
      exact ⟨_, c', by rw [hml]; rfl, by rw [hml, ← HE.out]; exact own, hb⟩
set_option maxRecDepth 100000 in
set_option maxHeartbeats 8000000 in
theorem specPayRoll_any (r : RatesR) (A : Option Addr) (n c B : Nat) (xs : List WorkSheetR) (w : World) (h : RdF workSheetF w B A n c xs) (hB : B ≤ w.heap.size) :
    Calls Try.prog 7 #[.agg #[.int .i64 r.f0, .int .i64 r.f1, .int .i64 r.f2, .int .i64 r.f3, .int .i64 r.f4], .slice A n c] w (OutInts2 w (pay14 r xs).1 (pay14 r xs).2.1 (pay14 r xs).2.2) := by
  obtain rfl := h.len
  have y0 := (Blk.new w #[.int .i64 r.f0, .int .i64 r.f1, .int .i64 r.f2, .int .i64 r.f3, .int .i64 r.f4] 25).alloc (.cells #[] 3)
  have HB : Below w.heap.size w ((w.alloc (.cells #[.int .i64 r.f0, .int .i64 r.f1, .int .i64 r.f2, .int .i64 r.f3, .int .i64 r.f4] 25)).alloc (.cells #[] 3)) := by repeat (first | assumption | exact Below.refl _ _ | refine belowN ?_ _ | refine belowD ?_ | (refine Below.setCell ?_ (by first | (simp; done) | (simp; omega) | omega) _) | (refine Below.alloc ?_ (by first | (simp; done) | (simp; omega) | omega) _))
  have hR := (h.alloc hB (.cells #[.int .i64 r.f0, .int .i64 r.f1, .int .i64 r.f2, .int .i64 r.f3, .int .i64 r.f4] 25)).alloc (by simp; omega) (.cells #[] 3)
  have hBW : B ≤ ((w.alloc (.cells #[.int .i64 r.f0, .int .i64 r.f1, .int .i64 r.f2, .int .i64 r.f3, .int .i64 r.f4] 25)).alloc (.cells #[] 3)).heap.size := by simp; omega
  have o0 : Own ((w.alloc (.cells #[.int .i64 r.f0, .int .i64 r.f1, .int .i64 r.f2, .int .i64 r.f3, .int .i64 r.f4] 25)).alloc (.cells #[] 3)) w.heap.size (.slice (some ⟨w.heap.size + 1, 0, none⟩) 0 0) [] := by
    have := Own.empty (w := w.alloc (.cells #[.int .i64 r.f0, .int .i64 r.f1, .int .i64 r.f2, .int .i64 r.f3, .int .i64 r.f4] 25)) (lo := w.heap.size) (by simp)
    simpa using this
  have hzy : w.heap.size + 1 < ((w.alloc (.cells #[.int .i64 r.f0, .int .i64 r.f1, .int .i64 r.f2, .int .i64 r.f3, .int .i64 r.f4] 25)).alloc (.cells #[] 3)).heap.size := by simp
  by_cases hr : ratesB r = true
  rotate_left
  · have hr' := not_false hr
    have HU := Lib.hid (pay14_no1 (r := r) (xs := xs) hr)
    go_enter Try.func7, Try.ntmps7
    have e00 := y0.cell 0
    have e01 := y0.cell 1
    have e02 := y0.cell 2
    have e03 := y0.cell 3
    have e04 := y0.cell 4
    go_wp2_with fail
    refine (l14Rates_eq r _ _ hr').mono ?_
    rintro e wa ⟨rfl, hb⟩
    clear e00 e01 e02 e03 e04
    replace y0 := y0.all hb
    replace o0 := o0.all hb
    replace hR := hR.all hb hBW
    replace hBW := Nat.le_trans hBW hb.size
    replace HB := HB.trans (hb.mono HB.size)
    replace hzy := Nat.lt_of_lt_of_le hzy hb.size
    clear hb
    have hq : Own (wa.alloc (.cells #[] 3)) w.heap.size (.slice (some ⟨wa.heap.size, 0, none⟩) 0 0) [] := Own.empty HB.size
    have HBq := HB.alloc HB.size (.cells #[] 3)
    have o1 := o0.alloc (.cells #[] 3)
    go_wp2
    go_ret3
    rw [HU.out]
    exact ⟨_, _, _, _, rfl, hq, o1, (fun j hj e => by cases hj; simp [Value.ownBlock] at e; omega), HBq⟩
  by_cases hs : sheetsB xs = true
  rotate_left
  · have hs' := not_false hs
    have HU := Lib.hid (pay14_no2 (r := r) (xs := xs) hs)
    go_enter Try.func7, Try.ntmps7
    have e00 := y0.cell 0
    have e01 := y0.cell 1
    have e02 := y0.cell 2
    have e03 := y0.cell 3
    have e04 := y0.cell 4
    go_wp2_with fail
    refine (l14Rates_eq r _ _ hr).mono ?_
    rintro e wa ⟨rfl, hb⟩
    clear e00 e01 e02 e03 e04
    replace y0 := y0.all hb
    replace o0 := o0.all hb
    replace hR := hR.all hb hBW
    replace hBW := Nat.le_trans hBW hb.size
    replace HB := HB.trans (hb.mono HB.size)
    replace hzy := Nat.lt_of_lt_of_le hzy hb.size
    clear hb
    have e00 := y0.cell 0
    have e01 := y0.cell 1
    have e02 := y0.cell 2
    have e03 := y0.cell 3
    have e04 := y0.cell 4
    go_wp2_with fail
    refine (l14Good_eq A _ c B xs _ _ hR hBW hs').mono ?_
    rintro e wb ⟨rfl, hb⟩
    clear e00 e01 e02 e03 e04
    replace y0 := y0.all hb
    replace o0 := o0.all hb
    replace hR := hR.all hb hBW
    replace hBW := Nat.le_trans hBW hb.size
    replace HB := HB.trans (hb.mono HB.size)
    replace hzy := Nat.lt_of_lt_of_le hzy hb.size
    clear hb
    have hq : Own (wb.alloc (.cells #[] 3)) w.heap.size (.slice (some ⟨wb.heap.size, 0, none⟩) 0 0) [] := Own.empty HB.size
    have HBq := HB.alloc HB.size (.cells #[] 3)
    have o1 := o0.alloc (.cells #[] 3)
    go_wp2
    go_ret3
    rw [HU.out]
    exact ⟨_, _, _, _, rfl, hq, o1, (fun j hj e => by cases hj; simp [Value.ownBlock] at e; omega), HBq⟩
  have HU := Lib.hid (pay14_yes (r := r) (xs := xs) hr hs)
  have h12 := (sheetsB_of hs).1
  have HA := Lib.hid (sheets_all hs)
  have HBD := Lib.hid (fun v => wageOf_bd hr hs v)
  go_enter Try.func7, Try.ntmps7
  have e00 := y0.cell 0
  have e01 := y0.cell 1
  have e02 := y0.cell 2
  have e03 := y0.cell 3
  have e04 := y0.cell 4
  go_wp2_with fail
  refine (l14Rates_eq r _ _ hr).mono ?_
  rintro e wa ⟨rfl, hb⟩
  clear e00 e01 e02 e03 e04
  replace y0 := y0.all hb
  replace o0 := o0.all hb
  replace hR := hR.all hb hBW
  replace hBW := Nat.le_trans hBW hb.size
  replace HB := HB.trans (hb.mono HB.size)
  replace hzy := Nat.lt_of_lt_of_le hzy hb.size
  clear hb
  have e00 := y0.cell 0
  have e01 := y0.cell 1
  have e02 := y0.cell 2
  have e03 := y0.cell 3
  have e04 := y0.cell 4
  go_wp2_with fail
  refine (l14Good_eq A _ c B xs _ _ hR hBW hs).mono ?_
  rintro e wb ⟨rfl, hb⟩
  clear e00 e01 e02 e03 e04
  replace y0 := y0.all hb
  replace o0 := o0.all hb
  replace hR := hR.all hb hBW
  replace hBW := Nat.le_trans hBW hb.size
  replace HB := HB.trans (hb.mono HB.size)
  replace hzy := Nat.lt_of_lt_of_le hzy hb.size
  clear hb
  go_wp2_with fail
  refine (l14Weavers_any A _ c B xs _ hR hBW (by omega)).mono ?_
  rintro e w4 ⟨A', c', rfl, own4, hb4⟩
  have hz1' := HB.size
  have hlow : Hid (∀ j, (Value.slice A' (weavers14 xs).length c').ownBlock = some j → w.heap.size + 1 < j ∧ j < w4.heap.size) := Lib.hid fun j hj => by have := own4.bd j hj; omega
  replace own4 := own4.mono hz1'
  replace y0 := y0.all hb4
  replace o0 := o0.all hb4
  replace hR := hR.all hb4 hBW
  replace hBW := Nat.le_trans hBW hb4.size
  replace HB := HB.trans (hb4.mono hz1')
  have hzy4 := y0.lt
  have hll := weavers14_len xs
  clear hb4 hz1' hzy
  obtain ⟨vs, hvs⟩ : ∃ vs, weavers14 xs = vs := ⟨_, rfl⟩
  rw [hvs] at own4 hll HU hlow ⊢
  clear hvs
  obtain ⟨q, hq⟩ : ∃ q, vs.length = q := ⟨_, rfl⟩
  rw [hq] at own4 hll hlow ⊢
  have HQ := Lib.hid hq
  clear hq
  have oz : OwnZ w4 w.heap.size w4.heap.size (.slice (some ⟨w.heap.size + 1, 0, none⟩) 0 0) [] := .zero o0
  have hz0 : w.heap.size ≤ w4.heap.size := HB.size
  clear o0
  obtain ⟨P, hP⟩ : ∃ P, w4.heap.size = P := ⟨_, rfl⟩
  have hzP : P ≤ w4.heap.size := Nat.le_of_eq hP.symm
  rw [hP] at oz hz0 hzy4 hlow hBW
  have HB4 := Lib.hid HB
  clear HB hP
  go_wp2
  go_loopw [9, 7] (fun i v wr => ∃ (k : Nat) (A2 : Option Addr) (c2 : Nat), k ≤ q ∧ i = .int .i64 k ∧ v = .slice A2 k c2 ∧ OwnZ wr w.heap.size P (.slice A2 k c2) ((sums14 r xs vs).take k) ∧ Own wr w.heap.size (.slice A' q c') vs ∧ Blk wr w.heap.size 25 #[.int .i64 r.f0, .int .i64 r.f1, .int .i64 r.f2, .int .i64 r.f3, .int .i64 r.f4] ∧ RdF workSheetF wr B A xs.length c xs ∧ P ≤ wr.heap.size ∧ Hid (∀ j, (Value.slice A2 k c2).ownBlock = some j → P ≤ j ∨ j = w.heap.size + 1) ∧ Hid (Below w.heap.size w wr)) (fun i _ _ => q - (intOf i).toNat)
  case atStart => exact ⟨0, _, _, by omega, rfl, rfl, oz, own4, y0, hR, hzP, Lib.hid (fun j hj => by cases hj; exact .inr rfl), HB4⟩
  case round =>
    clear oz own4 y0 hR hzP HB4
    obtain ⟨k, A2, c2, hk, rfl, rfl, oz, own, y0, hR, hzr, HJ, HB⟩ := hrel
    have hBr : B ≤ wr.heap.size := Nat.le_trans hBW hzr
    by_cases hlt : k < q
    · obtain ⟨b, off, x, rfl, hx, hgx⟩ := rd_get own.rd hlt
      obtain ⟨y, hy⟩ : ∃ y, wageSum r (ofW xs x) = y := ⟨_, rfl⟩
      have hyb := HBD.out x
      have hgy : (sums14 r xs vs)[k]? = some y := by rw [← hy]; exact sums14_at hgx
      rw [hy] at hyb
      have HN := Lib.hid (show (sums14 r xs vs).take k ++ [y] = (sums14 r xs vs).take (k + 1) by
        obtain ⟨h1, h2⟩ := List.getElem?_eq_some_iff.1 hgy
        rw [List.take_succ_eq_append_getElem h1, h2])
      have HTL := Lib.hid (show ((sums14 r xs vs).take k).length = k by
        rw [List.length_take, sums14_len]
        have := HQ.out
        omega)
      have HP := Lib.hid ((paid_all HA.out x).trans hy)
      have hn6 : xs.length ≤ 1000 := by omega
      have HC := Lib.hid (fun wq (hq : RdF workSheetF wq B A xs.length c xs) (hb : B ≤ wq.heap.size) => l14Sum_any A _ c B xs r x 0 4000 y wq hq hb hn6 hr HA.out HP.out)
      have hwz := HB.out.size
      have hki : (0 : Int) ≤ (k : Int) := by omega
      have hkn : (k : Int) < (q : Int) := by omega
      have hyI : I64 y := ⟨by omega, by omega⟩
      clear hgx hgy hy
      generalize (sums14 r xs vs).take k = T at *
      have hx' : wr.drew.cell? ⟨b, off + k, none⟩ = some (.int .i64 x) := hx
      have hRd : RdF workSheetF wr.drew B A xs.length c xs := hR.drew
      have hBrd : B ≤ wr.drew.heap.size := hBr
      have e0 := y0.cell 0
      have e1 := y0.cell 1
      have e2 := y0.cell 2
      have e3 := y0.cell 3
      have e4 := y0.cell 4
      go_wp2
      go_region_law (first | (refine step_append_z wa rfl (.tmp 29) (.tmp 37) 29 rfl Try.underlying29 info_int w.heap.size P k _ T y HTL.out rfl rfl oza (by omega) hyI hz0 hza ?_; intro A5 c5 w5 row o5 hrow hg5; have y5 := ya.mark hg5 (fun j hj => by have := hrow j hj; omega); have r5 := ra.mark hg5 (fun j hj => by have := hrow j hj; omega) hBa; have v5 := va.mark hg5 (fun j j' hj hj' => by have := hrow j hj; have := (hlow.out j' hj').2; omega); have HB5 := Lib.hid (HBa.out.grown hg5 (by omega) (fun j hj => by have := hrow j hj; omega)); have hz5 : P ≤ w5.heap.size := Nat.le_trans hza hg5.size) | (go_simp; go_at_call 31; (with_reducible refine (HC.out _ hRd hBrd).mono ?_); rintro e wa ⟨rfl, hba⟩; have hb6 : Below wr.heap.size wr wa := below_drew hba; have oza := oz.all hb6; have ya := y0.all hb6; have ra := hR.all hb6 hBr; have va := own.all hb6; have HBa := Lib.hid (HB.out.trans (hb6.mono hwz)); have hza : P ≤ wa.heap.size := Nat.le_trans hzr hb6.size; have hBa : B ≤ wa.heap.size := Nat.le_trans hBr hb6.size))
      all_goals
        have HJ5 : Hid (∀ j, (Value.slice A5 (k + 1) c5).ownBlock = some j → P ≤ j ∨ j = w.heap.size + 1) := Lib.hid fun j hj => by
          rcases o5.2 with h1 | ⟨_, h1⟩
          · exact .inl (h1.bd j hj).1
          · simp at h1
        rw [HN.out] at o5
        go_wp2
        go_roundw
        case rel => exact ⟨k + 1, A5, c5, by omega, by go_num, rfl, o5, v5, y5, r5, hz5, HJ5, HB5⟩
        case measure => simp [intOf]; omega
    · obtain rfl : k = q := by omega
      have hs2 : (sums14 r xs vs).length = k := (sums14_len r xs _).trans HQ.out
      rw [List.take_of_length_le (by omega)] at oz
      go_wp2
      go_ret3
      rw [HU.out]
      have hs1 : ((vs, sums14 r xs vs, true) : List Int × List Int × Bool).1.length = k := HQ.out
      have hs3 : ((vs, sums14 r xs vs, true) : List Int × List Int × Bool).2.1.length = k := hs2
      refine ⟨A', c', A2, c2, ?_, ?_, ?_, ?_, HB.out⟩
      · rw [hs1, hs3]; rfl
      · rw [hs1]; exact own
      · rw [hs3]; exact oz.1
      · rw [hs1, hs3]; intro j hj e; have h1 := hlow.out j hj; rcases HJ.out j e with h2 | h2 <;> omega
end Go.Proofs.Ytihhlldpdfihfaa
