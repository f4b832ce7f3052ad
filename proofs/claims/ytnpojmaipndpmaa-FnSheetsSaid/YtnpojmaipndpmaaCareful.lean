/- CarefulWeavers: the walk of the program. No condition. -/
import Derived.Test.YtnpojmaipndpmaaPay
import Derived.Test.YtnpojmaipndpmaaInsSort
namespace Go.Proofs.Ytnpojmaipndpmaa
open Go.RowKit

def wrongSum : List WorkSheetR → Int
  | [] => 0
  | a :: r => a.f3 + wrongSum r
def knotSum : List WorkSheetR → Int
  | [] => 0
  | a :: r => a.f2 + knotSum r
theorem wrongSum_drop {xs : List WorkSheetR} {k : Nat} {a : WorkSheetR} (ha : xs[k]? = some a) : wrongSum (xs.drop k) = a.f3 + wrongSum (xs.drop (k + 1)) := by
  obtain ⟨hlt, e⟩ := List.getElem?_eq_some_iff.1 ha
  rw [List.drop_eq_getElem_cons hlt, e]
  rfl
theorem knotSum_drop {xs : List WorkSheetR} {k : Nat} {a : WorkSheetR} (ha : xs[k]? = some a) : knotSum (xs.drop k) = a.f2 + knotSum (xs.drop (k + 1)) := by
  obtain ⟨hlt, e⟩ := List.getElem?_eq_some_iff.1 ha
  rw [List.drop_eq_getElem_cons hlt, e]
  rfl
theorem sums_bd {xs : List WorkSheetR} (h : AllS xs) : (0 ≤ wrongSum xs ∧ wrongSum xs ≤ 12000 * (xs.length : Int)) ∧ (0 ≤ knotSum xs ∧ knotSum xs ≤ 12000 * (xs.length : Int)) := by
  induction xs with
  | nil => simp [wrongSum, knotSum]
  | cons x xs ih =>
    have h1 := ih fun a ha => h a (List.mem_cons_of_mem _ ha)
    obtain ⟨_, _, h2, h3, _⟩ := sheet_of (h x (List.mem_cons_self ..))
    rw [wrongSum, knotSum, List.length_cons]
    omega
/-- The wrong knots of a weaver, and all of them, at least 1. -/
def errW (xs : List WorkSheetR) (v : Int) : Int := wrongSum (ofW xs v)
def errK (xs : List WorkSheetR) (v : Int) : Int := mostI 1 (knotSum (ofW xs v))
theorem err_bd {xs : List WorkSheetR} (h : sheetsB xs = true) (v : Int) : (0 ≤ errW xs v ∧ errW xs v ≤ 144000) ∧ (1 ≤ errK xs v ∧ errK xs v ≤ 144000) := by
  have h1 := sums_bd (allS_filter (sheets_all h) (ownP v))
  have h2 := ofW_len xs v
  have h3 := (sheetsB_of h).1
  unfold errW errK mostI
  unfold ofW at *
  split <;> omega
def cmpC (xs : List WorkSheetR) (a b : Int) : Int := Lib.compareInt (errW xs a * errK xs b) (errW xs b * errK xs a)
theorem cmpC_less (xs : List WorkSheetR) (a b : Int) : lessF (cmpC xs) a b = decide (errW xs a * errK xs b < errW xs b * errK xs a) := by
  unfold lessF cmpC
  rcases Int.lt_trichotomy (errW xs a * errK xs b) (errW xs b * errK xs a) with h | h | h
  · rw [compareInt_lt h]; simp [h]
  · rw [compareInt_eq h]; simp [h]
  · rw [compareInt_gt h]; simp; omega
noncomputable def careful14 (xs : List WorkSheetR) : List Int × Bool := if sheetsB xs = true then (sortE (lessF (cmpC xs)) (weavers14 xs), true) else ([], false)
theorem careful14_len (xs : List WorkSheetR) : (careful14 xs).1.length ≤ 100000 := by
  unfold careful14
  split
  · next h =>
    have h1 := weavers14_len xs
    have h2 := (sheetsB_of h).1
    simp only [sortE_len]
    omega
  · simp
set_option maxRecDepth 100000 in
set_option maxHeartbeats 4000000 in
theorem wrongShare_any (A : Option Addr) (n c B : Nat) (xs : List WorkSheetR) (w : World) (h : RdF workSheetF w B A n c xs) (hB : B ≤ w.heap.size) (hn : n ≤ 1000) (hs : AllS xs) :
    Calls Try.prog 21 #[.slice A n c] w (Out w (.tuple #[.int .i64 (wrongSum xs), .int .i64 (mostI 1 (knotSum xs))])) := by
  obtain rfl := h.len
  have HS := Lib.hid hs
  go_enter Try.func21, Try.ntmps21
  go_wp2
  go_loopw [10, 4, 5] (fun i s4 s5 wr => ∃ (k : Nat) (p q : Int), k ≤ xs.length ∧ i = .int .i64 k ∧ s4 = .int .i64 p ∧ s5 = .int .i64 q ∧ (0 ≤ p ∧ p ≤ 12000 * (k : Int)) ∧ (0 ≤ q ∧ q ≤ 12000 * (k : Int)) ∧ Hid (p + wrongSum (xs.drop k) = wrongSum xs) ∧ Hid (q + knotSum (xs.drop k) = knotSum xs) ∧ Below w.heap.size w wr) (fun i _ _ _ => xs.length - (intOf i).toNat)
  case atStart => exact ⟨0, 0, 0, Nat.zero_le _, rfl, rfl, rfl, by omega, by omega, Lib.hid (by simp), Lib.hid (by simp), Below.refl _ _⟩
  case round =>
    obtain ⟨k, p, q, hk, rfl, rfl, rfl, ⟨hp0, hp1⟩, ⟨hq0, hq1⟩, HP, HQ, hb⟩ := hrel
    have hzz := hb.size
    by_cases hlt : k < xs.length
    · obtain ⟨b, off, a, rfl, hbB, ok, HX, hc0, hc1, hc2, hc3, hc4⟩ := WorkSheetR_at (F := workSheetF) rfl (fun _ => rfl) (fun _ => rfl) (h.all hb hB) hlt
      have HP2 := Lib.hid (show (p + a.f3) + wrongSum (xs.drop (k + 1)) = wrongSum xs by rw [← HP.out, wrongSum_drop HX.out]; omega)
      have HQ2 := Lib.hid (show (q + a.f2) + knotSum (xs.drop (k + 1)) = knotSum xs by rw [← HQ.out, knotSum_drop HX.out]; omega)
      obtain ⟨_, _, ⟨k0, k1⟩, ⟨x0, x1⟩, _⟩ := sheet_of (allS_at HS.out HX.out)
      have x7 := Blk.new wr #[.int .i64 a.f0, .int .i64 a.f1, .int .i64 a.f2, .int .i64 a.f3, .int .i64 a.f4] 33
      have HB := hb.alloc hzz (.cells #[.int .i64 a.f0, .int .i64 a.f1, .int .i64 a.f2, .int .i64 a.f3, .int .i64 a.f4] 33)
      clear hb
      go_upto_region 5 with fail
      clear hc0 hc1 hc2 hc3 hc4
      generalize wr.alloc (.cells #[.int .i64 a.f0, .int .i64 a.f1, .int .i64 a.f2, .int .i64 a.f3, .int .i64 a.f4] 33) = W7 at *
      generalize wr.heap.size = P at *
      have e70 := x7.cell 0
      have e71 := x7.cell 1
      have e72 := x7.cell 2
      have e73 := x7.cell 3
      have e74 := x7.cell 4
      go_wp2
      go_roundw
      case rel => exact ⟨k + 1, p + a.f3, q + a.f2, by omega, by go_num, by go_num, by go_num, by constructor <;> omega, by constructor <;> omega, HP2, HQ2, HB⟩
      case measure => simp [intOf]; omega
    · obtain rfl : k = xs.length := by omega
      have HE1 := Lib.hid (show p = wrongSum xs by have := HP.out; rw [List.drop_length] at this; simpa [wrongSum] using this)
      have HE2 := Lib.hid (show q = knotSum xs by have := HQ.out; rw [List.drop_length] at this; simpa [knotSum] using this)
      have HM := Lib.hid (show mostI 1 (knotSum xs) = max q 1 by rw [← HE2.out]; unfold mostI; split <;> omega)
      go_wp2
      go_ret2
      rw [HM.out, ← HE1.out]
      exact ⟨rfl, hb⟩
theorem wrongShare_eq (A : Option Addr) (n c B : Nat) (xs : List WorkSheetR) (v a b : Int) (w : World) (h : RdF workSheetF w B A n c (ofW xs v)) (hB : B ≤ w.heap.size) (hn : n ≤ 1000) (hs : AllS (ofW xs v)) (ha : errW xs v = a) (hb : errK xs v = b) :
    Calls Try.prog 21 #[.slice A n c] w (Out w (.tuple #[.int .i64 a, .int .i64 b])) := ha ▸ hb ▸ wrongShare_any A n c B (ofW xs v) w h hB hn hs
set_option maxRecDepth 100000 in
set_option maxHeartbeats 4000000 in
theorem carefulClo_any (P0 : Nat) (A : Option Addr) (c B : Nat) (xs : List WorkSheetR) (a b : Int) (w : World) (hg : sheetsB xs = true) (h : RdF workSheetF w B A xs.length c xs) (hB : B ≤ w.heap.size) (y0 : Blk w P0 24 #[.slice A xs.length c]) :
    Calls Try.prog 20 #[.int .i64 a, .int .i64 b, .pointer (some ⟨P0, 0, none⟩)] w (Out w (.int .i64 (cmpC xs a b))) := by
  have h12 := (sheetsB_of hg).1
  have ha := err_bd hg a
  have hb := err_bd hg b
  have HA := Lib.hid (allS_filter (sheets_all hg) (ownP a))
  have HAB := Lib.hid (allS_filter (sheets_all hg) (ownP b))
  rw [show xs.filter (ownP a) = ofW xs a from rfl] at HA
  rw [show xs.filter (ownP b) = ofW xs b from rfl] at HAB
  have hla := ofW_len xs a
  have hlb := ofW_len xs b
  obtain ⟨p1, hp1⟩ : ∃ p, errW xs a = p := ⟨_, rfl⟩
  obtain ⟨q1, hq1⟩ : ∃ p, errK xs a = p := ⟨_, rfl⟩
  obtain ⟨p2, hp2⟩ : ∃ p, errW xs b = p := ⟨_, rfl⟩
  obtain ⟨q2, hq2⟩ : ∃ p, errK xs b = p := ⟨_, rfl⟩
  rw [hp1, hq1] at ha
  rw [hp2, hq2] at hb
  have HV := Lib.hid (show cmpC xs a b = Lib.compareInt (p1 * q2) (p2 * q1) by unfold cmpC; rw [hp1, hq1, hp2, hq2])
  have H1 := Lib.hid hp1
  have H2 := Lib.hid hq1
  have H3 := Lib.hid hp2
  have H4 := Lib.hid hq2
  have m1 := mulBd ha.1.1 ha.1.2 (show 0 ≤ q2 by omega) hb.2.2
  have m2 := mulBd hb.1.1 hb.1.2 (show 0 ≤ q1 by omega) ha.2.2
  have g1 : IntKind.i64.wrap (p1 * q2) = p1 * q2 := IntWalk.i64_in _ (by omega)
  have g2 : IntKind.i64.wrap (p2 * q1) = p2 * q1 := IntWalk.i64_in _ (by omega)
  clear hp1 hq1 hp2 hq2
  have e0 := y0.cell 0
  go_enter Try.func20, Try.ntmps20
  go_wp2_with fail
  refine (sheetsOf_any A _ c B xs a _ h hB (by omega)).mono ?_
  rintro e w2 ⟨A2, c2, rfl, own2, hb2⟩
  have hz2 := hb2.size
  go_wp2_with fail
  refine (wrongShare_eq A2 _ c2 _ xs a p1 q1 _ own2.rd (Nat.le_refl _) (by omega) HA.out H1.out H2.out).mono ?_
  rintro e w3 ⟨rfl, hb3⟩
  have HB3 := hb2.trans (hb3.mono hz2)
  have h3 := h.all HB3 hB
  have y3 := y0.all HB3
  have e3 := y3.cell 0
  have hz3 := HB3.size
  clear e0 own2 hb2 hb3
  go_wp2_with fail
  refine (sheetsOf_any A _ c B xs b _ h3 (Nat.le_trans hB hz3) (by omega)).mono ?_
  rintro e w4 ⟨A4, c4, rfl, own4, hb4⟩
  have hz4 := hb4.size
  go_wp2_with fail
  refine (wrongShare_eq A4 _ c4 _ xs b p2 q2 _ own4.rd (Nat.le_refl _) (by omega) HAB.out H3.out H4.out).mono ?_
  rintro e w5 ⟨rfl, hb5⟩
  have HB5 := HB3.trans ((hb4.trans (hb5.mono hz4)).mono hz3)
  go_wp2_with fail
  refine (cmp_eq (p1 * q2) (p2 * q1) _ _ HV.out.symm).mono ?_
  rintro e w' ⟨rfl, rfl⟩
  go_wp2
  go_ret
  exact ⟨rfl, HB5⟩
set_option maxRecDepth 100000 in
set_option maxHeartbeats 4000000 in
theorem implCarefulWeavers_any (A : Option Addr) (n c B : Nat) (xs : List WorkSheetR) (w : World) (h : RdF workSheetF w B A n c xs) (hB : B ≤ w.heap.size) :
    Calls Try.prog 6 #[.slice A n c] w (OutInts w (careful14 xs).1 (careful14 xs).2) := by
  obtain rfl := h.len
  have y0 := Blk.new w #[.slice A xs.length c] 24
  have HB : Below w.heap.size w (w.alloc (.cells #[.slice A xs.length c] 24)) := (Below.refl _ _).alloc (Nat.le_refl _) _
  have hR := h.alloc hB (.cells #[.slice A xs.length c] 24)
  have hBW : B ≤ (w.alloc (.cells #[.slice A xs.length c] 24)).heap.size := by simp; omega
  by_cases hg : sheetsB xs = true
  rotate_left
  · have hg' := not_false hg
    have HU := Lib.hid (show careful14 xs = ([], false) from if_neg hg)
    have e0 := y0.cell 0
    go_enter Try.func6, Try.ntmps6
    go_wp2_with fail
    refine (implAreSheets_eq A _ c B xs _ _ hR hBW hg').mono ?_
    rintro e w1 ⟨rfl, hb⟩
    go_wp2
    go_ret2
    rw [HU.out]
    exact ⟨none, 0, rfl, Own.nil _ _, HB.trans (hb.mono HB.size)⟩
  have HU := Lib.hid (show careful14 xs = (sortE (lessF (cmpC xs)) (weavers14 xs), true) from if_pos hg)
  have h12 := (sheetsB_of hg).1
  have e0 := y0.cell 0
  go_enter Try.func6, Try.ntmps6
  go_wp2_with fail
  refine (implAreSheets_eq A _ c B xs _ _ hR hBW hg).mono ?_
  rintro e w1 ⟨rfl, hb⟩
  clear e0
  replace y0 := y0.all hb
  replace hR := hR.all hb hBW
  replace hBW := Nat.le_trans hBW hb.size
  replace HB := HB.trans (hb.mono HB.size)
  clear hb
  have e0 := y0.cell 0
  go_wp2_with fail
  refine (weaversWithSheets_any A _ c B xs _ hR hBW (by omega)).mono ?_
  rintro e w2 ⟨A2, c2, rfl, own2, hb2⟩
  have hw2 := weavers14_len xs
  have hyl := y0.lt
  replace y0 := y0.all hb2
  replace hR := hR.all hb2 hBW
  have hBW1 := hBW
  replace hBW := Nat.le_trans hBW hb2.size
  have HB2 := HB.trans (hb2.mono HB.size)
  have HC : Hid (∀ (W : World) (a b : Int), Below w1.heap.size w2 W → Calls Try.prog 20 #[.int .i64 a, .int .i64 b, .pointer (some ⟨w.heap.size, 0, none⟩)] W (Out W (.int .i64 (cmpC xs a b)))) :=
    Lib.hid fun W a b hW => carefulClo_any w.heap.size A c B xs a b W hg (hR.below hW hBW1) (Nat.le_trans hBW hW.size) (y0.below hW hyl)
  have hz := HB.size
  clear e0
  go_wp2_with fail
  refine (sortStable14_any A2 _ c2 w1.heap.size w.heap.size (weavers14 xs) (cmpC xs) _ own2 hb2.size (by omega) HC).mono ?_
  rintro e w3 ⟨rfl, own3, hb3⟩
  have HB3 := HB2.trans (hb3.mono hz)
  have hsl := sortE_len (lessF (cmpC xs)) (weavers14 xs)
  go_wp2
  go_ret2
  rw [HU.out]
  exact ⟨A2, c2, by show _ = Ending.returned (.tuple #[.slice A2 (sortE (lessF (cmpC xs)) (weavers14 xs)).length c2, .bool true]); rw [hsl]; rfl, by show Own _ _ (.slice A2 (sortE (lessF (cmpC xs)) (weavers14 xs)).length c2) _; rw [hsl]; exact own3.mono hz, HB3⟩
end Go.Proofs.Ytnpojmaipndpmaa
