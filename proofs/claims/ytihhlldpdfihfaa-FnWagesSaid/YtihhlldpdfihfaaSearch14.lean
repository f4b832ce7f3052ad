/- The library's sort.Search with the closure of KnotsForWage. Condition: valid rates. -/
import Derived.Test.YtihhlldpdfihfaaKnotsM
import Derived.Test.YtihhlldpdfihfaaSheet1
namespace Go.Proofs.Ytihhlldpdfihfaa
open Go.RowKit

set_option maxRecDepth 100000 in
set_option maxHeartbeats 4000000 in
theorem knotsClo_any (P0 P1 : Nat) (r : RatesR) (cents n : Int) (v : Bool) (w : World) (hr : ratesB r = true) (h0 : 0 ≤ n) (h1 : n ≤ 12000) (y0 : Blk w P0 25 #[.int .i64 r.f0, .int .i64 r.f1, .int .i64 r.f2, .int .i64 r.f3, .int .i64 r.f4]) (y1 : Blk w P1 3 #[.int .i64 cents]) (hv : decide (cents ≤ kW r n) = v) :
    Calls Try.prog 37 #[.int .i64 n, .pointer (some ⟨P0, 0, none⟩), .pointer (some ⟨P1, 0, none⟩)] w (Out w (.bool v)) := by
  obtain ⟨u, hu⟩ : ∃ u, kW r n = u := ⟨_, rfl⟩
  have K1 := Lib.hid (fun w => wageOf_eq r (plainS n) u w hr (plain_knotty h0 h1) hu)
  rw [hu] at hv
  clear hu
  have HB : Hid (Below w.heap.size w w) := Lib.hid (Below.refl _ _)
  unfold plainS at K1
  simp only at K1
  go_enter Try.func37, Try.ntmps37
  go_wp2
  go_region_held3 (fun w' => w'.cell? ⟨P0, 0, none⟩ = some (.int .i64 r.f0) ∧ w'.cell? ⟨P0, 1, none⟩ = some (.int .i64 r.f1) ∧ w'.cell? ⟨P0, 2, none⟩ = some (.int .i64 r.f2) ∧ w'.cell? ⟨P0, 3, none⟩ = some (.int .i64 r.f3) ∧ w'.cell? ⟨P0, 4, none⟩ = some (.int .i64 r.f4) ∧ w'.cell? ⟨P1, 0, none⟩ = some (.int .i64 cents)) (first | exact ⟨y0.cell 0, y0.cell 1, y0.cell 2, y0.cell 3, y0.cell 4, y1.cell 0⟩ | go_keep) (first | (go_at_call 32; (with_reducible refine (K1.out _).mono ?_); rintro e w5 ⟨rfl, hb5⟩; (try replace hb5 := below_drew' hb5); replace y0 := y0.all hb5; replace y1 := y1.all hb5; replace HB := Lib.hid (HB.out.trans (hb5.mono HB.out.size))))
  all_goals
    go_wp2
    go_ret
    exact ⟨by first | rfl | exact ret_bool hv, HB.out⟩
set_option maxRecDepth 100000 in
set_option maxHeartbeats 4000000 in
theorem search14_any (P0 P1 : Nat) (r : RatesR) (cents : Int) (w : World) (hr : ratesB r = true) (y0 : Blk w P0 25 #[.int .i64 r.f0, .int .i64 r.f1, .int .i64 r.f2, .int .i64 r.f3, .int .i64 r.f4]) (y1 : Blk w P1 3 #[.int .i64 cents]) :
    Calls Try.prog 36 #[.int .i64 12001, .func (.func 37) #[] #[.pointer (some ⟨P0, 0, none⟩), .pointer (some ⟨P1, 0, none⟩)]] w fun e w' => ∃ k : Nat, e = .returned (.int .i64 (k : Int)) ∧ FirstK r cents k ∧ Below w.heap.size w w' := by
  have HB0 : Hid (Below w.heap.size w w) := Lib.hid (Below.refl _ _)
  go_enter Try.func36, Try.ntmps36
  go_wp2
  go_loopw [5, 6] (fun s5 s6 wr => ∃ i j : Nat, s5 = .int .i64 i ∧ s6 = .int .i64 j ∧ j ≤ 12001 ∧ Hid (Halves r cents 12001 i j) ∧ Blk wr P0 25 #[.int .i64 r.f0, .int .i64 r.f1, .int .i64 r.f2, .int .i64 r.f3, .int .i64 r.f4] ∧ Blk wr P1 3 #[.int .i64 cents] ∧ Hid (Below w.heap.size w wr)) (fun s5 s6 _ => (intOf s6).toNat - (intOf s5).toNat)
  case atStart => exact ⟨0, 12001, rfl, rfl, by omega, Lib.hid ⟨by omega, by omega, fun n h => by omega, fun h => by omega⟩, y0, y1, HB0⟩
  case round =>
    clear y0 y1 HB0
    obtain ⟨i, j, rfl, rfl, hj, HH, y0, y1, HB⟩ := hrel
    have hij := HH.out.1
    have hwz := HB.out.size
    by_cases hlt : i < j
    · obtain ⟨h, hh⟩ : ∃ h, (i + j) / 2 = h := ⟨_, rfl⟩
      have hi : i ≤ h := by omega
      have hhj : h < j := by omega
      have HHH := Lib.hid hh
      have gs : IntKind.i64.wrap ((i : Int) + (j : Int)) = ((i + j : Nat) : Int) := by rw [IntWalk.i64_in _ (by omega)]; omega
      have HC := Lib.hid (fun (v : Bool) (hv : decide (cents ≤ kW r (h : Int)) = v) => knotsClo_any P0 P1 r cents (h : Int) v wr hr (by omega) (by omega) y0 y1 hv)
      clear hh
      go_wp2_with fail
      rw [show ((i : Int) + (j : Int)) / 2 = (h : Int) by have := HHH.out; omega]
      by_cases hk : cents ≤ kW r (h : Int)
      · have HN := Lib.hid (halves_high HH.out hi hhj hk)
        have hv := Lib.hid (show decide (cents ≤ kW r (h : Int)) = true from decide_eq_true hk)
        clear hk
        refine (HC.out true hv.out).mono ?_
        rintro e w2 ⟨rfl, hb2⟩
        have y0' := y0.all hb2
        have y1' := y1.all hb2
        have HB2 := Lib.hid (HB.out.trans (hb2.mono hwz))
        go_wp2
        go_roundw
        case rel => exact ⟨i, h, rfl, rfl, by omega, HN, y0', y1', HB2⟩
        case measure => simp [intOf]; omega
      · have HN := Lib.hid (halves_low hr HH.out hhj (Int.not_le.1 hk))
        have hv := Lib.hid (show decide (cents ≤ kW r (h : Int)) = false from decide_eq_false hk)
        clear hk
        refine (HC.out false hv.out).mono ?_
        rintro e w2 ⟨rfl, hb2⟩
        have y0' := y0.all hb2
        have y1' := y1.all hb2
        have HB2 := Lib.hid (HB.out.trans (hb2.mono hwz))
        go_wp2
        go_roundw
        case rel => exact ⟨h + 1, j, by go_num, rfl, hj, HN, y0', y1', HB2⟩
        case measure => simp [intOf]; omega
    · obtain rfl : i = j := by omega
      have HF := Lib.hid (show FirstK r cents i from ⟨HH.out.2.2.1, fun h => HH.out.2.2.2 (by omega), hj⟩)
      go_wp2
      go_ret
      exact ⟨i, rfl, HF.out, HB.out⟩
end Go.Proofs.Ytihhlldpdfihfaa
