/- The walk of the model's CarpetsFrom. No condition. -/
import Derived.Test.YtndoianocmekmaaHungry
import Derived.Test.YtndoianocmekmaaYarn
import Derived.Test.YtndoianocmekmaaCarpMath
namespace Go.Proofs.Ytndoianocmekmaa
open Go.RowKit

set_option maxRecDepth 100000 in
set_option maxHeartbeats 8000000 in
theorem specCarpetsFrom_any (W H : Int) (A : Option Addr) (n c B : Nat) (xs : List Int) (s : YarnR) (A2 : Option Addr) (n2 c2 K : Nat) (ss : List Int) (w : World) (h : Rd w B A n c xs) (k : Rd w K A2 n2 c2 ss) (hB : B ≤ w.heap.size) (hK : K ≤ w.heap.size) :
    Calls Try.prog 22 #[chartV W H (.slice A n c), .agg #[.int .i64 s.f0, .int .i64 s.f1, .int .i64 s.f2, .int .i64 s.f3], .slice A2 n2 c2] w (Out w (.tuple #[.int .i64 (carpX W H xs s ss), .bool (carpB W H xs s ss)])) := by
  have hb0 := Lib.hid (show Below w.heap.size w ((w.alloc (.cells #[.int .i64 W, .int .i64 H, .slice A n c] 33)).alloc (.cells #[.int .i64 s.f0, .int .i64 s.f1, .int .i64 s.f2, .int .i64 s.f3] 25)) from ((Below.refl _ _).alloc (Nat.le_refl _) _).alloc (by simp) _)
  have h' := (h.alloc hB (.cells #[.int .i64 W, .int .i64 H, .slice A n c] 33)).alloc (by simp; omega) (.cells #[.int .i64 s.f0, .int .i64 s.f1, .int .i64 s.f2, .int .i64 s.f3] 25)
  have k' := (k.alloc hK (.cells #[.int .i64 W, .int .i64 H, .slice A n c] 33)).alloc (by simp; omega) (.cells #[.int .i64 s.f0, .int .i64 s.f1, .int .i64 s.f2, .int .i64 s.f3] 25)
  have x0 := (Blk.new w #[.int .i64 W, .int .i64 H, .slice A n c] 33).alloc (.cells #[.int .i64 s.f0, .int .i64 s.f1, .int .i64 s.f2, .int .i64 s.f3] 25)
  have y0 := (Blk.new (w.alloc (.cells #[.int .i64 W, .int .i64 H, .slice A n c] 33)) #[.int .i64 s.f0, .int .i64 s.f1, .int .i64 s.f2, .int .i64 s.f3] 25).at_ (q := w.heap.size + 1) (by simp)
  by_cases hg : goodB W H xs = true
  rotate_left
  · have hg' := not_false hg
    rw [carp_no (carp_no0 hg'), carp_no0 hg']
    go_enter Try.func22, Try.ntmps22
    go_wp2_with fail
    refine (l2Good_any W H A n c B xs _ h' (by simp; omega)).mono ?_
    rw [hg']
    rintro e w1 ⟨rfl, hb⟩
    replace h' := h'.all hb (by simp; omega)
    replace k' := k'.all hb (by simp; omega)
    replace x0 := x0.all hb
    replace y0 := y0.all hb
    replace hb0 := Lib.hid (hb0.out.trans (hb.mono (by simp; omega)))
    clear hb
    go_wp2
    go_ret2
    exact ⟨rfl, hb0.out⟩
  by_cases hy : goodY s = true
  rotate_left
  · have hy' := not_false hy
    rw [carp_no (carp_no1 hy'), carp_no1 hy']
    go_enter Try.func22, Try.ntmps22
    go_wp2_with fail
    refine (l2Good_any W H A n c B xs _ h' (by simp; omega)).mono ?_
    rw [hg]
    rintro e w1 ⟨rfl, hb⟩
    replace h' := h'.all hb (by simp; omega)
    replace k' := k'.all hb (by simp; omega)
    replace x0 := x0.all hb
    replace y0 := y0.all hb
    replace hb0 := Lib.hid (hb0.out.trans (hb.mono (by simp; omega)))
    clear hb
    have e0 := y0.cell 0
    have e1 := y0.cell 1
    have e2 := y0.cell 2
    have e3 := y0.cell 3
    go_wp2_with fail
    refine (l10Good_any s _).mono ?_
    rw [hy']
    rintro e w2 ⟨rfl, hb⟩
    replace h' := h'.all hb (by have := hb0.out.size; omega)
    replace k' := k'.all hb (by have := hb0.out.size; omega)
    replace x0 := x0.all hb
    replace y0 := y0.all hb
    replace hb0 := Lib.hid (hb0.out.trans (hb.mono hb0.out.size))
    clear hb
    clear e0 e1 e2 e3
    go_wp2
    go_ret2
    exact ⟨rfl, hb0.out⟩
  by_cases hc : stockB ss = true
  rotate_left
  · have hc' := not_false hc
    rw [carp_no (carp_no2 hc'), carp_no2 hc']
    go_enter Try.func22, Try.ntmps22
    go_wp2_with fail
    refine (l2Good_any W H A n c B xs _ h' (by simp; omega)).mono ?_
    rw [hg]
    rintro e w1 ⟨rfl, hb⟩
    replace h' := h'.all hb (by simp; omega)
    replace k' := k'.all hb (by simp; omega)
    replace x0 := x0.all hb
    replace y0 := y0.all hb
    replace hb0 := Lib.hid (hb0.out.trans (hb.mono (by simp; omega)))
    clear hb
    have e0 := y0.cell 0
    have e1 := y0.cell 1
    have e2 := y0.cell 2
    have e3 := y0.cell 3
    go_wp2_with fail
    refine (l10Good_any s _).mono ?_
    rw [hy]
    rintro e w2 ⟨rfl, hb⟩
    replace h' := h'.all hb (by have := hb0.out.size; omega)
    replace k' := k'.all hb (by have := hb0.out.size; omega)
    replace x0 := x0.all hb
    replace y0 := y0.all hb
    replace hb0 := Lib.hid (hb0.out.trans (hb.mono hb0.out.size))
    clear hb
    clear e0 e1 e2 e3
    go_wp2_with (go_at_call 47; (with_reducible refine (l10Stock_any _ _ _ _ _ _ k').mono ?_); rintro e w' ⟨rfl, rfl⟩)
    go_ret2
    exact ⟨rfl, hb0.out⟩
  have hcy := carp_yes hg hy hc
  rw [show carpX W H xs s ss = _ from if_pos hcy, hcy]
  obtain ⟨h64, hl1, hcol⟩ := good_bd hg
  obtain ⟨hsl, hsn⟩ := stockB_at hc
  obtain rfl : n2 = 6 := by rw [← k.len]; exact hsl
  go_enter Try.func22, Try.ntmps22
  go_wp2_with fail
  refine (l2Good_any W H A n c B xs _ h' (by simp; omega)).mono ?_
  rw [hg]
  rintro e w1 ⟨rfl, hb⟩
  replace h' := h'.all hb (by simp; omega)
  replace k' := k'.all hb (by simp; omega)
  replace x0 := x0.all hb
  replace y0 := y0.all hb
  replace hb0 := Lib.hid (hb0.out.trans (hb.mono (by simp; omega)))
  clear hb
  have e0 := y0.cell 0
  have e1 := y0.cell 1
  have e2 := y0.cell 2
  have e3 := y0.cell 3
  go_wp2_with fail
  refine (l10Good_any s _).mono ?_
  rw [hy]
  rintro e w2 ⟨rfl, hb⟩
  replace h' := h'.all hb (by have := hb0.out.size; omega)
  replace k' := k'.all hb (by have := hb0.out.size; omega)
  replace x0 := x0.all hb
  replace y0 := y0.all hb
  replace hb0 := Lib.hid (hb0.out.trans (hb.mono hb0.out.size))
  clear hb
  clear e0 e1 e2 e3
  have q0 := x0.cell 0
  have q1 := x0.cell 1
  have q2 := x0.cell 2
  go_wp2_with (go_at_call 47; (with_reducible refine (l10Stock_any _ _ _ _ _ _ k').mono ?_); rintro e w' ⟨rfl, rfl⟩)
  refine (l10Counts_any W H A n c B xs _ h' (by have := hb0.out.size; omega)).mono ?_
  rw [show countC W H xs = countL xs from if_pos hg]
  rintro e w3 ⟨A1, c1, rfl, own, hb⟩
  replace k' := k'.all hb (by have := hb0.out.size; omega)
  replace y0 := y0.all hb
  replace hb0 := Lib.hid (hb0.out.trans (hb.mono hb0.out.size))
  clear hb
  have hl := countL_len xs
  have hcb := Lib.hid (fun j (hj : j < 6) => countL_bd h64 hj)
  have hr := own.rd
  rw [hl] at hr
  clear own h' x0 h k q0 q1 q2
  generalize countL xs = zs at *
  have hz0 : w.heap.size ≤ w3.heap.size := hb0.out.size
  have hzy := y0.lt
  have hzK : K ≤ w3.heap.size := by omega
  have hz3 : w3.heap.size ≤ w3.heap.size := Nat.le_refl _
  have HZ := Lib.hid (fun i (hi : i < 6) => (hcb.out i hi).1)
  have HSN := Lib.hid hsn
  clear hsn
  have HF0 := Lib.hid (show ∀ m, m < 1 → fitsN zs ss s m 6 from fun m hm => by rw [show m = 0 by omega]; exact fits_zero HSN.out (Nat.le_refl _))
  obtain ⟨P, hP⟩ : ∃ P, w3.heap.size = P := ⟨_, rfl⟩
  rw [hP] at hr hz0 hzy hz3 hzK
  go_wp2
  go_loopw [9] (fun s9 wr => ∃ n : Nat, 1 ≤ n ∧ n ≤ 1001 ∧ s9 = .int .i64 n ∧ Hid (∀ m, m < n → fitsN zs ss s m 6) ∧ Rd wr P A1 6 c1 zs ∧ Rd wr K A2 6 c2 ss ∧ Blk wr (w.heap.size + 1) 25 #[.int .i64 s.f0, .int .i64 s.f1, .int .i64 s.f2, .int .i64 s.f3] ∧ P ≤ wr.heap.size ∧ Hid (Below w.heap.size w wr)) (fun s9 _ => 1001 - (intOf s9).toNat)
  case atStart => exact ⟨1, Nat.le_refl _, by omega, rfl, HF0, hr, k', y0, by omega, hb0⟩
  case round =>
    clear hr hb0 hz3 hP k' y0 HF0
    obtain ⟨N, hN1, hN2, rfl, HF, hr, k', y0, hzr, HB⟩ := hrel
    by_cases hle : N ≤ 1000
    · have hNi : (N : Int) ≤ 1000 := by omega
      go_wp2
      go_loopw [10] (fun s10 wr => ∃ j : Nat, j ≤ 6 ∧ s10 = .int .i64 j ∧ Hid (fitsN zs ss s N j) ∧ Rd wr P A1 6 c1 zs ∧ Rd wr K A2 6 c2 ss ∧ Blk wr (w.heap.size + 1) 25 #[.int .i64 s.f0, .int .i64 s.f1, .int .i64 s.f2, .int .i64 s.f3] ∧ P ≤ wr.heap.size ∧ Hid (Below w.heap.size w wr)) (fun s10 _ => 6 - (intOf s10).toNat)
      case atStart => exact ⟨0, by omega, rfl, Lib.hid (fun i hi => by omega), hr, k', y0, hzr, HB⟩
      case round =>
        clear hr k' y0 hzr HB
        obtain ⟨j, hj, rfl, HJ, hr, k', y0, hzr, HB⟩ := hrel
        by_cases hlt : j < 6
        · obtain ⟨b, off, x, rfl, hbP, hcx, _, _, HXx⟩ := hr.at hlt
          obtain ⟨b2, off2, y, rfl, hbK, hcs, _, _, HYy⟩ := k'.at hlt
          have hxb := hcb.out j hlt
          rw [HXx.out] at hxb
          have hmb := carpets_mul hxb.1 hxb.2 hle
          have E0 : IntKind.i64.wrap ((N : Int) * x) = (N : Int) * x := IntWalk.i64_in _ (by omega)
          have HC := Lib.hid (fun wq => l10For_any s ((N : Int) * x) wq hy hmb.1 hmb.2)
          obtain ⟨v, HV⟩ : ∃ v, Hid (lenY s ((N : Int) * x) = v) := ⟨_, rfl⟩
          rw [HV.out] at HC
          have hwz := HB.out.size
          have hji : (0 : Int) ≤ (j : Int) := by omega
          have hjn : (j : Int) < 6 := by omega
          have hbw : b < wr.heap.size := by omega
          have hb2w : b2 < wr.heap.size := by omega
          have HW := Lib.hid (show lenY s ((N : Int) * zs.getD j 0) = v by rw [HXx.out]; exact HV.out)
          clear HXx HV
          by_cases hvy : y < v
          · have HT := Lib.hid (top_below hy HZ.out hN1 hN2 HF.out (fun _ hh => by have := hh j hlt; rw [HW.out, HYy.out] at this; omega))
            clear HW HYy HJ HF
            go_wp2
            go_region_held3 (fun w' => w'.cell? ⟨w.heap.size + 1, 0, none⟩ = some (.int .i64 s.f0) ∧ w'.cell? ⟨w.heap.size + 1, 1, none⟩ = some (.int .i64 s.f1) ∧ w'.cell? ⟨w.heap.size + 1, 2, none⟩ = some (.int .i64 s.f2) ∧ w'.cell? ⟨w.heap.size + 1, 3, none⟩ = some (.int .i64 s.f3) ∧ w'.cell? ⟨b, off + j, none⟩ = some (.int .i64 x) ∧ w'.cell? ⟨b2, off2 + j, none⟩ = some (.int .i64 y)) (first | exact ⟨y0.cell 0, y0.cell 1, y0.cell 2, y0.cell 3, hcx, hcs⟩ | go_keep) (first | (go_at_call 37; (with_reducible refine (HC.out _).mono ?_); rintro e w5 ⟨rfl, hb⟩; (try replace hb := below_drew' hb); replace hcx := cells_of hb hcx hbw; replace hcs := cells_of hb hcs hb2w; replace y0 := y0.all hb; replace hr := hr.all hb hzr; replace k' := k'.all hb (Nat.le_trans hzK hzr); replace HB := Lib.hid (HB.out.trans (hb.mono hwz)); replace hzr := Nat.le_trans hzr hb.size; clear hb))
            all_goals
              go_wp2
              go_ret2
              exact ⟨ret_ib10 (by rw [HT.out]; omega) rfl, HB.out⟩
          · have HN := Lib.hid (show fitsN zs ss s N (j + 1) from fun i hi => by
              by_cases hij : i = j
              · subst hij; rw [HW.out, HYy.out]; omega
              · exact HJ.out i (by omega))
            clear HW HYy HJ
            go_wp2
            go_region_held3 (fun w' => w'.cell? ⟨w.heap.size + 1, 0, none⟩ = some (.int .i64 s.f0) ∧ w'.cell? ⟨w.heap.size + 1, 1, none⟩ = some (.int .i64 s.f1) ∧ w'.cell? ⟨w.heap.size + 1, 2, none⟩ = some (.int .i64 s.f2) ∧ w'.cell? ⟨w.heap.size + 1, 3, none⟩ = some (.int .i64 s.f3) ∧ w'.cell? ⟨b, off + j, none⟩ = some (.int .i64 x) ∧ w'.cell? ⟨b2, off2 + j, none⟩ = some (.int .i64 y)) (first | exact ⟨y0.cell 0, y0.cell 1, y0.cell 2, y0.cell 3, hcx, hcs⟩ | go_keep) (first | (go_at_call 37; (with_reducible refine (HC.out _).mono ?_); rintro e w5 ⟨rfl, hb⟩; (try replace hb := below_drew' hb); replace hcx := cells_of hb hcx hbw; replace hcs := cells_of hb hcs hb2w; replace y0 := y0.all hb; replace hr := hr.all hb hzr; replace k' := k'.all hb (Nat.le_trans hzK hzr); replace HB := Lib.hid (HB.out.trans (hb.mono hwz)); replace hzr := Nat.le_trans hzr hb.size; clear hb))
            all_goals
              go_wp2
              go_roundw
              case rel => exact ⟨j + 1, by omega, by go_num, HN, hr, k', y0, hzr, HB⟩
              case measure => simp [intOf]; omega
        · obtain rfl : j = 6 := by omega
          have HF2 := Lib.hid (show ∀ m, m < N + 1 → fitsN zs ss s m 6 from fun m hm => by
            by_cases hmN : m = N
            · subst hmN; exact HJ.out
            · exact HF.out m (by omega))
          go_wp2
          go_roundw
          case rel => exact ⟨N + 1, by omega, by omega, by go_num, HF2, hr, k', y0, hzr, HB⟩
          case measure => simp [intOf]; omega
    · obtain rfl : N = 1001 := by omega
      have HT := Lib.hid (top_below hy HZ.out hN1 hN2 HF.out (fun hh => by omega))
      clear HF
      go_wp2
      go_ret2
      exact ⟨ret_ib10 (by rw [HT.out]; rfl) rfl, HB.out⟩
end Go.Proofs.Ytndoianocmekmaa
