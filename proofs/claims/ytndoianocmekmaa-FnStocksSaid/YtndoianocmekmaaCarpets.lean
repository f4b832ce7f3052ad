/- The walk of the program's CarpetsFrom. No condition. -/
import Derived.Test.YtndoianocmekmaaHungry
import Derived.Test.YtndoianocmekmaaYarn
import Derived.Test.YtndoianocmekmaaCarpMath
import Derived.ScopeJumps
import Derived.WalkMore
namespace Go.Proofs.Ytndoianocmekmaa
open Go.RowKit

set_option maxRecDepth 100000 in
set_option maxHeartbeats 8000000 in
theorem implCarpetsFrom_any (W H : Int) (A : Option Addr) (n c B : Nat) (xs : List Int) (s : YarnR) (A2 : Option Addr) (n2 c2 K : Nat) (ss : List Int) (w : World) (h : Rd w B A n c xs) (k : Rd w K A2 n2 c2 ss) (hB : B ≤ w.heap.size) (hK : K ≤ w.heap.size) :
    Calls Try.prog 21 #[chartV W H (.slice A n c), .agg #[.int .i64 s.f0, .int .i64 s.f1, .int .i64 s.f2, .int .i64 s.f3], .slice A2 n2 c2] w (Out w (.tuple #[.int .i64 (carpX W H xs s ss), .bool (carpB W H xs s ss)])) := by
  have hb0 := Lib.hid (show Below w.heap.size w ((w.alloc (.cells #[.int .i64 W, .int .i64 H, .slice A n c] 33)).alloc (.cells #[.int .i64 s.f0, .int .i64 s.f1, .int .i64 s.f2, .int .i64 s.f3] 25)) from ((Below.refl _ _).alloc (Nat.le_refl _) _).alloc (by simp) _)
  have h' := (h.alloc hB (.cells #[.int .i64 W, .int .i64 H, .slice A n c] 33)).alloc (by simp; omega) (.cells #[.int .i64 s.f0, .int .i64 s.f1, .int .i64 s.f2, .int .i64 s.f3] 25)
  have k' := (k.alloc hK (.cells #[.int .i64 W, .int .i64 H, .slice A n c] 33)).alloc (by simp; omega) (.cells #[.int .i64 s.f0, .int .i64 s.f1, .int .i64 s.f2, .int .i64 s.f3] 25)
  have x0 := (Blk.new w #[.int .i64 W, .int .i64 H, .slice A n c] 33).alloc (.cells #[.int .i64 s.f0, .int .i64 s.f1, .int .i64 s.f2, .int .i64 s.f3] 25)
  have y0 := (Blk.new (w.alloc (.cells #[.int .i64 W, .int .i64 H, .slice A n c] 33)) #[.int .i64 s.f0, .int .i64 s.f1, .int .i64 s.f2, .int .i64 s.f3] 25).at_ (q := w.heap.size + 1) (by simp)
  by_cases hg : goodB W H xs = true
  rotate_left
  · have hg' := not_false hg
    rw [carp_no (carp_no0 hg'), carp_no0 hg']
    go_enter Try.func21, Try.ntmps21
    go_wp2
    refine wp_scope_jumps 0 (fun _ _ => False) (fun _ _ => 0) rfl ?_ ?_
    rotate_left
    · intro a w hh; exact hh.elim
    go_wp2_with fail
    refine (implCountColors_any W H A n c B xs _ h' (by simp; omega)).mono ?_
    rw [hg']
    rintro e w1 ⟨A1, c1, rfl, own, hb⟩
    replace k' := k'.all hb (by simp; omega)
    replace y0 := y0.all hb
    replace hb0 := Lib.hid (hb0.out.trans (hb.mono (by simp; omega)))
    clear hb
    go_wp2
    simp only [Exit.jump]
    go_ret2
    exact ⟨rfl, hb0.out⟩
  by_cases hy : goodY s = true
  rotate_left
  · have hy' := not_false hy
    rw [carp_no (carp_no1 hy'), carp_no1 hy']
    go_enter Try.func21, Try.ntmps21
    go_wp2
    refine wp_scope_jumps 0 (fun _ _ => False) (fun _ _ => 0) rfl ?_ ?_
    rotate_left
    · intro a w hh; exact hh.elim
    go_wp2_with fail
    refine (implCountColors_any W H A n c B xs _ h' (by simp; omega)).mono ?_
    rw [hg]
    rintro e w1 ⟨A1, c1, rfl, own, hb⟩
    replace k' := k'.all hb (by simp; omega)
    replace y0 := y0.all hb
    replace hb0 := Lib.hid (hb0.out.trans (hb.mono (by simp; omega)))
    clear hb
    have e0 := y0.cell 0
    have e1 := y0.cell 1
    have e2 := y0.cell 2
    have e3 := y0.cell 3
    go_wp2_with fail
    refine (implIsYarn_any s _).mono ?_
    rw [hy']
    rintro e w2 ⟨rfl, hb⟩
    replace k' := k'.all hb (by have := hb0.out.size; omega)
    replace y0 := y0.all hb
    replace hb0 := Lib.hid (hb0.out.trans (hb.mono hb0.out.size))
    clear hb
    clear e0 e1 e2 e3
    go_wp2
    simp only [Exit.jump]
    go_ret2
    exact ⟨rfl, hb0.out⟩
  by_cases hc : stockB ss = true
  rotate_left
  · have hc' := not_false hc
    rw [carp_no (carp_no2 hc'), carp_no2 hc']
    go_enter Try.func21, Try.ntmps21
    go_wp2
    refine wp_scope_jumps 0 (fun _ _ => False) (fun _ _ => 0) rfl ?_ ?_
    rotate_left
    · intro a w hh; exact hh.elim
    go_wp2_with fail
    refine (implCountColors_any W H A n c B xs _ h' (by simp; omega)).mono ?_
    rw [hg]
    rintro e w1 ⟨A1, c1, rfl, own, hb⟩
    replace k' := k'.all hb (by simp; omega)
    replace y0 := y0.all hb
    replace hb0 := Lib.hid (hb0.out.trans (hb.mono (by simp; omega)))
    clear hb
    have e0 := y0.cell 0
    have e1 := y0.cell 1
    have e2 := y0.cell 2
    have e3 := y0.cell 3
    go_wp2_with fail
    refine (implIsYarn_any s _).mono ?_
    rw [hy]
    rintro e w2 ⟨rfl, hb⟩
    replace k' := k'.all hb (by have := hb0.out.size; omega)
    replace y0 := y0.all hb
    replace hb0 := Lib.hid (hb0.out.trans (hb.mono hb0.out.size))
    clear hb
    clear e0 e1 e2 e3
    go_wp2_with (go_at_call 46; (with_reducible refine (isColorStock_any _ _ _ _ _ _ k').mono ?_); rintro e w' ⟨rfl, rfl⟩)
    simp only [Exit.jump]
    go_ret2
    exact ⟨rfl, hb0.out⟩
  have hcy := carp_yes hg hy hc
  rw [show carpX W H xs s ss = _ from if_pos hcy, hcy]
  obtain ⟨h64, hl1, hcol⟩ := good_bd hg
  obtain ⟨hsl, hsn⟩ := stockB_at hc
  obtain rfl : n2 = 6 := by rw [← k.len]; exact hsl
  have hl := countL_len xs
  have hcb := Lib.hid (fun j (hj : j < 6) => countL_bd h64 hj)
  have hcc : countC W H xs = countL xs := if_pos hg
  have HCC := Lib.hid (implCountColors_any W H A n c B xs _ h' (by simp; omega))
  rw [hcc, hg] at HCC
  have HSN := Lib.hid hsn
  clear hsn hcc
  generalize countL xs = zs at *
  go_enter Try.func21, Try.ntmps21
  go_wp2
  refine wp_scope_jumps 0 (fun a' w' => ∃ (N P c1 : Nat) (A1 : Option Addr) (u5 u11 u12 u13 u14 u15 u16 u17 u18 u19 u20 u21 u22 u23 u24 u25 u26 u27 u28 u29 u30 u31 u32 u33 u34 u35 u36 u37 u38 u39 u40 u41 u42 u43 u44 u45 u46 u47 u48 u49 u50 : Value), a' = { tmps := #[chartV W H (.slice A n c), .agg #[.int .i64 s.f0, .int .i64 s.f1, .int .i64 s.f2, .int .i64 s.f3], .slice A2 6 c2, .pointer (some ⟨w.heap.size, 0, none⟩), .pointer (some ⟨w.heap.size + 1, 0, none⟩), u5, .int .i64 0, .bool false, .slice A1 6 c1, .bool true, .int .i64 N, u11, u12, u13, u14, u15, u16, u17, u18, u19, u20, u21, u22, u23, u24, u25, u26, u27, u28, u29, u30, u31, u32, u33, u34, u35, u36, u37, u38, u39, u40, u41, u42, u43, u44, u45, u46, u47, u48, u49, u50], defers := [] } ∧ N ≤ 1000 ∧ Hid (∀ m, N < m → m ≤ 1000 → ¬ fitsN zs ss s m 6) ∧ Rd w' P A1 6 c1 zs ∧ Rd w' K A2 6 c2 ss ∧ Blk w' (w.heap.size + 1) 25 #[.int .i64 s.f0, .int .i64 s.f1, .int .i64 s.f2, .int .i64 s.f3] ∧ P ≤ w'.heap.size ∧ w.heap.size ≤ P ∧ Hid (Below w.heap.size w w')) (fun a' _ => (intOf (a'.tmps.getD 10 undef)).toNat) rfl ?_ ?_
  · go_wp2_with fail
    refine HCC.out.mono ?_
    rintro e w1 ⟨A1, c1, rfl, own, hb⟩
    replace k' := k'.all hb (by simp; omega)
    replace y0 := y0.all hb
    replace hb0 := Lib.hid (hb0.out.trans (hb.mono (by simp; omega)))
    clear hb
    have hr := own.rd
    rw [hl] at hr
    have e0 := y0.cell 0
    have e1 := y0.cell 1
    have e2 := y0.cell 2
    have e3 := y0.cell 3
    go_wp2_with fail
    refine (implIsYarn_any s _).mono ?_
    rw [hy]
    rintro e w2 ⟨rfl, hb⟩
    replace k' := k'.all hb (by have := hb0.out.size; omega)
    replace y0 := y0.all hb
    replace hr := hr.all hb (Nat.le_refl _)
    have hzr : w1.heap.size ≤ w2.heap.size := hb.size
    have hzP : w.heap.size ≤ w1.heap.size := hb0.out.size
    replace hb0 := Lib.hid (hb0.out.trans (hb.mono hb0.out.size))
    clear hb
    clear e0 e1 e2 e3
    obtain ⟨P, hP⟩ : ∃ P, w1.heap.size = P := ⟨_, rfl⟩
    rw [hP] at hr hzr hzP
    clear own h' h k x0 hP
    have HB := hb0
    clear hb0
    have hNle : (1000 : Nat) ≤ 1000 := Nat.le_refl _
    have HA := Lib.hid (show ∀ m, 1000 < m → m ≤ 1000 → ¬ fitsN zs ss s m 6 from fun m h1 h2 => by omega)
    go_wp2_with (go_at_call 46; (with_reducible refine (isColorStock_any _ _ _ _ _ _ k').mono ?_); rintro e w' ⟨rfl, rfl⟩)
    go_step3
    go_wp2
    go_loopw [10, 32] (fun s10 s32 wr => ∃ j : Nat, j ≤ 6 ∧ s10 = .int .i64 (1000 : Int) ∧ s32 = .int .i64 j ∧ Hid (fitsN zs ss s 1000 j) ∧ Rd wr P A1 6 c1 zs ∧ Rd wr K A2 6 c2 ss ∧ Blk wr (w.heap.size + 1) 25 #[.int .i64 s.f0, .int .i64 s.f1, .int .i64 s.f2, .int .i64 s.f3] ∧ P ≤ wr.heap.size ∧ Hid (Below w.heap.size w wr)) (fun _ s32 _ => 6 - (intOf s32).toNat)
    case atStart => exact ⟨0, by omega, rfl, rfl, Lib.hid (fun i hi => by omega), hr, k', y0, hzr, HB⟩
    case round =>
      clear hr k' y0 hzr HB
      obtain ⟨j, hj, rfl, rfl, HJ, hr, k', y0, hzr, HB⟩ := hrel
      have hzK : K ≤ P := by omega
      by_cases hlt : j < 6
      · obtain ⟨b, off, x, rfl, hbP, hcx, _, _, HXx⟩ := hr.at hlt
        obtain ⟨b2, off2, y, rfl, hbK, hcs, _, _, HYy⟩ := k'.at hlt
        have hxb := hcb.out j hlt
        rw [HXx.out] at hxb
        have hmb := carpets_mul (n := 1000) hxb.1 hxb.2 hNle
        have E0 : IntKind.i64.wrap ((1000 : Int) * x) = (1000 : Int) * x := IntWalk.i64_in _ (by omega)
        have HC := Lib.hid (fun wq => lengthFor_any s ((1000 : Int) * x) wq hy hmb.1 hmb.2)
        obtain ⟨v, HV⟩ : ∃ v, Hid (lenY s ((1000 : Int) * x) = v) := ⟨_, rfl⟩
        rw [HV.out] at HC
        have hwz := HB.out.size
        have hji : (0 : Int) ≤ (j : Int) := by omega
        have hjn : (j : Int) < 6 := by omega
        have hbw : b < wr.heap.size := by omega
        have hb2w : b2 < wr.heap.size := by omega
        have HW := Lib.hid (show lenY s ((1000 : Int) * zs.getD j 0) = v by rw [HXx.out]; exact HV.out)
        clear HXx HV
        by_cases hvy : y < v
        · have hno : ¬ fitsN zs ss s 1000 6 := fun hh => by have := hh j hlt; rw [show (((1000 : Nat) : Int)) = (1000 : Int) from rfl, HW.out, HYy.out] at this; omega
          have hpos : 1 ≤ 1000 := by
            rcases Nat.eq_zero_or_pos 1000 with h0 | h0
            · exact absurd (h0 ▸ fits_zero HSN.out (Nat.le_refl _)) hno
            · exact h0
          have HA2 := Lib.hid (show ∀ m, 1000 - 1 < m → m ≤ 1000 → ¬ fitsN zs ss s m 6 from fun m h1 h2 => by
            by_cases hm : m = 1000
            · rw [hm]; exact hno
            · exact HA.out m (by omega) h2)
          have eN : (1000 : Int) - 1 = ((1000 - 1 : Nat) : Int) := by omega
          clear HW HYy HJ hno
          go_wp2
          go_region_held3 (fun w' => w'.cell? ⟨w.heap.size + 1, 0, none⟩ = some (.int .i64 s.f0) ∧ w'.cell? ⟨w.heap.size + 1, 1, none⟩ = some (.int .i64 s.f1) ∧ w'.cell? ⟨w.heap.size + 1, 2, none⟩ = some (.int .i64 s.f2) ∧ w'.cell? ⟨w.heap.size + 1, 3, none⟩ = some (.int .i64 s.f3) ∧ w'.cell? ⟨b, off + j, none⟩ = some (.int .i64 x) ∧ w'.cell? ⟨b2, off2 + j, none⟩ = some (.int .i64 y)) (first | exact ⟨y0.cell 0, y0.cell 1, y0.cell 2, y0.cell 3, hcx, hcs⟩ | go_keep) (first | (go_at_call 34; (with_reducible refine (HC.out _).mono ?_); rintro e w5 ⟨rfl, hb⟩; (try replace hb := below_drew' hb); replace hcx := cells_of hb hcx hbw; replace hcs := cells_of hb hcs hb2w; replace y0 := y0.all hb; replace hr := hr.all hb hzr; replace k' := k'.all hb (Nat.le_trans hzK hzr); replace HB := Lib.hid (HB.out.trans (hb.mono hwz)); replace hzr := Nat.le_trans hzr hb.size; clear hb))
          all_goals
            go_wp2
            go_step3
            refine ⟨rfl, 1000 - 1, P, c1, _, _, _, _, _, _, _, _, _, _, _, _, _, _, _, _, _, _, _, _, _, _, _, _, _, _, _, _, _, _, _, _, _, _, _, _, _, _, _, _, _, _, rfl, by omega, HA2, hr, k', y0, hzr, hzP, HB⟩
        · have HN := Lib.hid (show fitsN zs ss s 1000 (j + 1) from fun i hi => by
            by_cases hij : i = j
            · subst hij; rw [show (((1000 : Nat) : Int)) = (1000 : Int) from rfl, HW.out, HYy.out]; omega
            · exact HJ.out i (by omega))
          clear HW HYy HJ
          go_wp2
          go_region_held3 (fun w' => w'.cell? ⟨w.heap.size + 1, 0, none⟩ = some (.int .i64 s.f0) ∧ w'.cell? ⟨w.heap.size + 1, 1, none⟩ = some (.int .i64 s.f1) ∧ w'.cell? ⟨w.heap.size + 1, 2, none⟩ = some (.int .i64 s.f2) ∧ w'.cell? ⟨w.heap.size + 1, 3, none⟩ = some (.int .i64 s.f3) ∧ w'.cell? ⟨b, off + j, none⟩ = some (.int .i64 x) ∧ w'.cell? ⟨b2, off2 + j, none⟩ = some (.int .i64 y)) (first | exact ⟨y0.cell 0, y0.cell 1, y0.cell 2, y0.cell 3, hcx, hcs⟩ | go_keep) (first | (go_at_call 34; (with_reducible refine (HC.out _).mono ?_); rintro e w5 ⟨rfl, hb⟩; (try replace hb := below_drew' hb); replace hcx := cells_of hb hcx hbw; replace hcs := cells_of hb hcs hb2w; replace y0 := y0.all hb; replace hr := hr.all hb hzr; replace k' := k'.all hb (Nat.le_trans hzK hzr); replace HB := Lib.hid (HB.out.trans (hb.mono hwz)); replace hzr := Nat.le_trans hzr hb.size; clear hb))
          all_goals
            go_wp2
            go_roundw
            case rel => exact ⟨j + 1, by omega, rfl, by go_num, HN, hr, k', y0, hzr, HB⟩
            case measure => simp [intOf]; omega
      · obtain rfl : j = 6 := by omega
        have HT := Lib.hid (top_above hNle HA.out HJ.out)
        go_wp2
        simp only [Exit.jump]
        go_ret2
        exact ⟨ret_ib10 (by rw [HT.out]; try rfl) rfl, HB.out⟩
  · clear h' h k x0 y0 k' hb0
    rintro a' w' ⟨N, P, c1, A1, u5, u11, u12, u13, u14, u15, u16, u17, u18, u19, u20, u21, u22, u23, u24, u25, u26, u27, u28, u29, u30, u31, u32, u33, u34, u35, u36, u37, u38, u39, u40, u41, u42, u43, u44, u45, u46, u47, u48, u49, u50, rfl, hNle, HA, hr, k', y0, hzr, hzP, HB⟩
    go_wp2
    go_loopw [10, 32] (fun s10 s32 wr => ∃ j : Nat, j ≤ 6 ∧ s10 = .int .i64 (N : Int) ∧ s32 = .int .i64 j ∧ Hid (fitsN zs ss s N j) ∧ Rd wr P A1 6 c1 zs ∧ Rd wr K A2 6 c2 ss ∧ Blk wr (w.heap.size + 1) 25 #[.int .i64 s.f0, .int .i64 s.f1, .int .i64 s.f2, .int .i64 s.f3] ∧ P ≤ wr.heap.size ∧ Hid (Below w.heap.size w wr)) (fun _ s32 _ => 6 - (intOf s32).toNat)
    case atStart => exact ⟨0, by omega, rfl, rfl, Lib.hid (fun i hi => by omega), hr, k', y0, hzr, HB⟩
    case round =>
      clear hr k' y0 hzr HB
      obtain ⟨j, hj, rfl, rfl, HJ, hr, k', y0, hzr, HB⟩ := hrel
      have hzK : K ≤ P := by omega
      by_cases hlt : j < 6
      · obtain ⟨b, off, x, rfl, hbP, hcx, _, _, HXx⟩ := hr.at hlt
        obtain ⟨b2, off2, y, rfl, hbK, hcs, _, _, HYy⟩ := k'.at hlt
        have hxb := hcb.out j hlt
        rw [HXx.out] at hxb
        have hmb := carpets_mul (n := N) hxb.1 hxb.2 hNle
        have E0 : IntKind.i64.wrap ((N : Int) * x) = (N : Int) * x := IntWalk.i64_in _ (by omega)
        have HC := Lib.hid (fun wq => lengthFor_any s ((N : Int) * x) wq hy hmb.1 hmb.2)
        obtain ⟨v, HV⟩ : ∃ v, Hid (lenY s ((N : Int) * x) = v) := ⟨_, rfl⟩
        rw [HV.out] at HC
        have hwz := HB.out.size
        have hji : (0 : Int) ≤ (j : Int) := by omega
        have hjn : (j : Int) < 6 := by omega
        have hbw : b < wr.heap.size := by omega
        have hb2w : b2 < wr.heap.size := by omega
        have HW := Lib.hid (show lenY s ((N : Int) * zs.getD j 0) = v by rw [HXx.out]; exact HV.out)
        clear HXx HV
        by_cases hvy : y < v
        · have hno : ¬ fitsN zs ss s N 6 := fun hh => by have := hh j hlt; rw [show (((N : Nat) : Int)) = (N : Int) from rfl, HW.out, HYy.out] at this; omega
          have hpos : 1 ≤ N := by
            rcases Nat.eq_zero_or_pos N with h0 | h0
            · exact absurd (h0 ▸ fits_zero HSN.out (Nat.le_refl _)) hno
            · exact h0
          have HA2 := Lib.hid (show ∀ m, N - 1 < m → m ≤ 1000 → ¬ fitsN zs ss s m 6 from fun m h1 h2 => by
            by_cases hm : m = N
            · rw [hm]; exact hno
            · exact HA.out m (by omega) h2)
          have eN : (N : Int) - 1 = ((N - 1 : Nat) : Int) := by omega
          clear HW HYy HJ hno
          go_wp2
          go_region_held3 (fun w' => w'.cell? ⟨w.heap.size + 1, 0, none⟩ = some (.int .i64 s.f0) ∧ w'.cell? ⟨w.heap.size + 1, 1, none⟩ = some (.int .i64 s.f1) ∧ w'.cell? ⟨w.heap.size + 1, 2, none⟩ = some (.int .i64 s.f2) ∧ w'.cell? ⟨w.heap.size + 1, 3, none⟩ = some (.int .i64 s.f3) ∧ w'.cell? ⟨b, off + j, none⟩ = some (.int .i64 x) ∧ w'.cell? ⟨b2, off2 + j, none⟩ = some (.int .i64 y)) (first | exact ⟨y0.cell 0, y0.cell 1, y0.cell 2, y0.cell 3, hcx, hcs⟩ | go_keep) (first | (go_at_call 34; (with_reducible refine (HC.out _).mono ?_); rintro e w5 ⟨rfl, hb⟩; (try replace hb := below_drew' hb); replace hcx := cells_of hb hcx hbw; replace hcs := cells_of hb hcs hb2w; replace y0 := y0.all hb; replace hr := hr.all hb hzr; replace k' := k'.all hb (Nat.le_trans hzK hzr); replace HB := Lib.hid (HB.out.trans (hb.mono hwz)); replace hzr := Nat.le_trans hzr hb.size; clear hb))
          all_goals
            go_wp2
            go_step3
            (try rw [eN])
            exact ⟨rfl, ⟨N - 1, P, c1, _, _, _, _, _, _, _, _, _, _, _, _, _, _, _, _, _, _, _, _, _, _, _, _, _, _, _, _, _, _, _, _, _, _, _, _, _, _, _, _, _, _, rfl, by omega, HA2, hr, k', y0, hzr, hzP, HB⟩, by simp [intOf]; omega⟩
        · have HN := Lib.hid (show fitsN zs ss s N (j + 1) from fun i hi => by
            by_cases hij : i = j
            · subst hij; rw [show (((N : Nat) : Int)) = (N : Int) from rfl, HW.out, HYy.out]; omega
            · exact HJ.out i (by omega))
          clear HW HYy HJ
          go_wp2
          go_region_held3 (fun w' => w'.cell? ⟨w.heap.size + 1, 0, none⟩ = some (.int .i64 s.f0) ∧ w'.cell? ⟨w.heap.size + 1, 1, none⟩ = some (.int .i64 s.f1) ∧ w'.cell? ⟨w.heap.size + 1, 2, none⟩ = some (.int .i64 s.f2) ∧ w'.cell? ⟨w.heap.size + 1, 3, none⟩ = some (.int .i64 s.f3) ∧ w'.cell? ⟨b, off + j, none⟩ = some (.int .i64 x) ∧ w'.cell? ⟨b2, off2 + j, none⟩ = some (.int .i64 y)) (first | exact ⟨y0.cell 0, y0.cell 1, y0.cell 2, y0.cell 3, hcx, hcs⟩ | go_keep) (first | (go_at_call 34; (with_reducible refine (HC.out _).mono ?_); rintro e w5 ⟨rfl, hb⟩; (try replace hb := below_drew' hb); replace hcx := cells_of hb hcx hbw; replace hcs := cells_of hb hcs hb2w; replace y0 := y0.all hb; replace hr := hr.all hb hzr; replace k' := k'.all hb (Nat.le_trans hzK hzr); replace HB := Lib.hid (HB.out.trans (hb.mono hwz)); replace hzr := Nat.le_trans hzr hb.size; clear hb))
          all_goals
            go_wp2
            go_roundw
            case rel => exact ⟨j + 1, by omega, rfl, by go_num, HN, hr, k', y0, hzr, HB⟩
            case measure => simp [intOf]; omega
      · obtain rfl : j = 6 := by omega
        have HT := Lib.hid (top_above hNle HA.out HJ.out)
        go_wp2
        simp only [Exit.jump]
        go_ret2
        exact ⟨ret_ib10 (by rw [HT.out]; try rfl) rfl, HB.out⟩
end Go.Proofs.Ytndoianocmekmaa
