/- The walk of the program's NearestShade. No condition. -/
import Derived.Test.YtmdgclbcjjmpiaaNearMath
import Derived.Test.YtmdgclbcjjmpiaaCard
namespace Go.Proofs.Ytmdgclbcjjmpiaa
open Go.RowKit

def aimR (wh d : Int) : ShadeR := ⟨0, ⟨#[]⟩, wh, d, 0⟩
theorem distAim_any (s : ShadeR) (wh d : Int) (w : World) (hs : Fine s) (h3 : Step wh) (h4 : Deep d) :
    Calls Try.prog 25 #[.agg #[.int .i64 s.f0, .string s.f1, .int .i64 s.f2, .int .i64 s.f3, .int .i64 s.f4], .agg #[.int .i64 0, .string ⟨#[]⟩, .int .i64 wh, .int .i64 d, .int .i64 0]] w (Out w (.int .i64 (distI s.f2 s.f3 wh d))) :=
  distanceOf_any s (aimR wh d) w hs.1 h3 hs.2 h4
set_option maxRecDepth 100000 in
set_option maxHeartbeats 4000000 in
theorem implNearestShade_any (A : Option Addr) (n c B : Nat) (xs : List ShadeR) (wh d : Int) (w : World) (h : RdF shadeF w B A n c xs) (hB : B ≤ w.heap.size) :
    Calls Try.prog 6 #[.slice A n c, .int .i64 wh, .int .i64 d] w (Out w (.tuple #[.int .i64 (nearN xs wh d), .bool (nearB xs wh d)])) := by
  have hn := h.len_lt
  have hcap := h.cap
  have hmax := h.max
  unfold maxLen at hmax
  obtain rfl := h.len
  by_cases h1 : cardB xs = true
  rotate_left
  · have h1' := not_false h1
    have H := Lib.hid (near_no1 (wh := wh) (d := d) h1')
    go_enter Try.func6, Try.ntmps6
    go_wp2_with (first | (go_at_call 22; (with_reducible refine (implIsShadeCard_any A xs.length c B xs _ h hB).mono ?_); rintro e w1 ⟨rfl, hb⟩; have HB : Below w.heap.size w w1 := (show Below w.heap.size w _ by repeat (first | assumption | exact Below.refl _ _ | refine belowN ?_ _ | refine belowD ?_ | (refine Below.setCell ?_ (by first | (simp; done) | (simp; omega) | omega) _) | (refine Below.alloc ?_ (by first | (simp; done) | (simp; omega) | omega) _))).trans (hb.mono (by first | (simp; done) | (simp; omega) | omega)); have hzb : w.heap.size ≤ w1.heap.size := HB.size; obtain ⟨hc, hf⟩ := bcell hb; have hz := hb.size; (try simp at hz); clear hb) | (go_at_call 23; (with_reducible refine (isStep_any _ _).mono ?_); rintro e w' ⟨rfl, rfl⟩) | (go_at_call 24; (with_reducible refine (isDepth_any _ _).mono ?_); rintro e w' ⟨rfl, rfl⟩))
    go_ret2
    exact ⟨ret2_ib H.out.1.symm H.out.2.symm, by repeat (first | assumption | exact Below.refl _ _ | refine belowN ?_ _ | refine belowD ?_ | (refine Below.setCell ?_ (by first | (simp; done) | (simp; omega) | omega) _) | (refine Below.alloc ?_ (by first | (simp; done) | (simp; omega) | omega) _))⟩
  by_cases h2 : xs.length = 0
  · have h2' : ((xs.length : Int) == 0) = true := by simp [h2]
    have H2 := Lib.hid h2
    have H := Lib.hid (near_no2 (wh := wh) (d := d) h2)
    clear h2
    go_enter Try.func6, Try.ntmps6
    go_wp2_with (first | (go_at_call 22; (with_reducible refine (implIsShadeCard_any A xs.length c B xs _ h hB).mono ?_); rintro e w1 ⟨rfl, hb⟩; have HB : Below w.heap.size w w1 := (show Below w.heap.size w _ by repeat (first | assumption | exact Below.refl _ _ | refine belowN ?_ _ | refine belowD ?_ | (refine Below.setCell ?_ (by first | (simp; done) | (simp; omega) | omega) _) | (refine Below.alloc ?_ (by first | (simp; done) | (simp; omega) | omega) _))).trans (hb.mono (by first | (simp; done) | (simp; omega) | omega)); have hzb : w.heap.size ≤ w1.heap.size := HB.size; obtain ⟨hc, hf⟩ := bcell hb; have hz := hb.size; (try simp at hz); clear hb) | (go_at_call 23; (with_reducible refine (isStep_any _ _).mono ?_); rintro e w' ⟨rfl, rfl⟩) | (go_at_call 24; (with_reducible refine (isDepth_any _ _).mono ?_); rintro e w' ⟨rfl, rfl⟩))
    go_ret2
    exact ⟨ret2_ib H.out.1.symm H.out.2.symm, by repeat (first | assumption | exact Below.refl _ _ | refine belowN ?_ _ | refine belowD ?_ | (refine Below.setCell ?_ (by first | (simp; done) | (simp; omega) | omega) _) | (refine Below.alloc ?_ (by first | (simp; done) | (simp; omega) | omega) _))⟩
  have h2' : ((xs.length : Int) == 0) = false := by simp [h2]
  have hlen : 0 < xs.length := by omega
  have H2 := Lib.hid h2
  clear h2
  by_cases h3 : inB wh 0 23 = true
  rotate_left
  · have h3' := not_false h3
    have H := Lib.hid (near_no3 (xs := xs) (d := d) h3')
    go_enter Try.func6, Try.ntmps6
    go_wp2_with (first | (go_at_call 22; (with_reducible refine (implIsShadeCard_any A xs.length c B xs _ h hB).mono ?_); rintro e w1 ⟨rfl, hb⟩; have HB : Below w.heap.size w w1 := (show Below w.heap.size w _ by repeat (first | assumption | exact Below.refl _ _ | refine belowN ?_ _ | refine belowD ?_ | (refine Below.setCell ?_ (by first | (simp; done) | (simp; omega) | omega) _) | (refine Below.alloc ?_ (by first | (simp; done) | (simp; omega) | omega) _))).trans (hb.mono (by first | (simp; done) | (simp; omega) | omega)); have hzb : w.heap.size ≤ w1.heap.size := HB.size; obtain ⟨hc, hf⟩ := bcell hb; have hz := hb.size; (try simp at hz); clear hb) | (go_at_call 23; (with_reducible refine (isStep_any _ _).mono ?_); rintro e w' ⟨rfl, rfl⟩) | (go_at_call 24; (with_reducible refine (isDepth_any _ _).mono ?_); rintro e w' ⟨rfl, rfl⟩))
    go_ret2
    exact ⟨ret2_ib H.out.1.symm H.out.2.symm, by repeat (first | assumption | exact Below.refl _ _ | refine belowN ?_ _ | refine belowD ?_ | (refine Below.setCell ?_ (by first | (simp; done) | (simp; omega) | omega) _) | (refine Below.alloc ?_ (by first | (simp; done) | (simp; omega) | omega) _))⟩
  by_cases h4 : inB d 0 9 = true
  rotate_left
  · have h4' := not_false h4
    have H := Lib.hid (near_no4 (xs := xs) (wh := wh) h4')
    go_enter Try.func6, Try.ntmps6
    go_wp2_with (first | (go_at_call 22; (with_reducible refine (implIsShadeCard_any A xs.length c B xs _ h hB).mono ?_); rintro e w1 ⟨rfl, hb⟩; have HB : Below w.heap.size w w1 := (show Below w.heap.size w _ by repeat (first | assumption | exact Below.refl _ _ | refine belowN ?_ _ | refine belowD ?_ | (refine Below.setCell ?_ (by first | (simp; done) | (simp; omega) | omega) _) | (refine Below.alloc ?_ (by first | (simp; done) | (simp; omega) | omega) _))).trans (hb.mono (by first | (simp; done) | (simp; omega) | omega)); have hzb : w.heap.size ≤ w1.heap.size := HB.size; obtain ⟨hc, hf⟩ := bcell hb; have hz := hb.size; (try simp at hz); clear hb) | (go_at_call 23; (with_reducible refine (isStep_any _ _).mono ?_); rintro e w' ⟨rfl, rfl⟩) | (go_at_call 24; (with_reducible refine (isDepth_any _ _).mono ?_); rintro e w' ⟨rfl, rfl⟩))
    go_ret2
    exact ⟨ret2_ib H.out.1.symm H.out.2.symm, by repeat (first | assumption | exact Below.refl _ _ | refine belowN ?_ _ | refine belowD ?_ | (refine Below.setCell ?_ (by first | (simp; done) | (simp; omega) | omega) _) | (refine Below.alloc ?_ (by first | (simp; done) | (simp; omega) | omega) _))⟩
  obtain ⟨b, off, a0, rfl, hbB, _, HX0, hc0, hc1, hc2, hc3, hc4⟩ := ShadeR_at (F := shadeF) rfl (fun _ => rfl) (fun _ => rfl) h hlen
  have hfa0 := card_fine h1 HX0.out
  have hst : Step wh := inB_yes h3
  have hdp : Deep d := inB_yes h4
  go_enter Try.func6, Try.ntmps6
  go_wp2_with fail
  refine (implIsShadeCard_any _ _ c B xs _ h hB).mono ?_
  rintro e w1 ⟨rfl, hb⟩
  have hx0 := (hb.cell (p := ⟨b, off + 0 * 5, none⟩) (by show b < _; omega)).trans hc0
  have hx1 := (hb.cell (p := ⟨b, off + 0 * 5 + 1, none⟩) (by show b < _; omega)).trans hc1
  have hx2 := (hb.cell (p := ⟨b, off + 0 * 5 + 2, none⟩) (by show b < _; omega)).trans hc2
  have hx3 := (hb.cell (p := ⟨b, off + 0 * 5 + 3, none⟩) (by show b < _; omega)).trans hc3
  have hx4 := (hb.cell (p := ⟨b, off + 0 * 5 + 4, none⟩) (by show b < _; omega)).trans hc4
  simp only [Nat.zero_mul, Nat.add_zero] at hx0 hx1 hx2 hx3 hx4
  have hz1 := hb.size
  have hbz : b < w1.heap.size := by omega
  have y8 := (Blk.new w1 #[.int .i64 0, .string ⟨#[]⟩, .int .i64 wh, .int .i64 d, .int .i64 0] 30).alloc (.cells #[.int .i64 a0.f0, .string a0.f1, .int .i64 a0.f2, .int .i64 a0.f3, .int .i64 a0.f4] 30)
  have y9 := (Blk.new (w1.alloc (.cells #[.int .i64 0, .string ⟨#[]⟩, .int .i64 wh, .int .i64 d, .int .i64 0] 30)) #[.int .i64 a0.f0, .string a0.f1, .int .i64 a0.f2, .int .i64 a0.f3, .int .i64 a0.f4] 30).at_ (q := w1.heap.size + 1) (by simp)
  have HB1 : Below w.heap.size w ((w1.alloc (.cells #[.int .i64 0, .string ⟨#[]⟩, .int .i64 wh, .int .i64 d, .int .i64 0] 30)).alloc (.cells #[.int .i64 a0.f0, .string a0.f1, .int .i64 a0.f2, .int .i64 a0.f3, .int .i64 a0.f4] 30)) := ((hb.mono (Nat.le_refl _)).alloc hz1 _).alloc (by simp; omega) _
  clear hc0 hc1 hc2 hc3 hc4
  by_cases hc1c : c = 1
  · have hl1 : xs.length = 1 := by omega
    have HL := Lib.hid hl1
    have hl0 : xs.length - 1 = 0 := by omega
    have hcc : c - 1 = 0 := by omega
    have H1 := Lib.hid (nearTo_one wh d HX0.out)
    have HC1 := Lib.hid hc1c
    have e90 := y9.cell 0
    clear hl1
    subst hc1c
    go_wp2_with (first | (go_at_call 23; (with_reducible refine (isStep_any _ _).mono ?_); rintro e w' ⟨rfl, rfl⟩) | (go_at_call 24; (with_reducible refine (isDepth_any _ _).mono ?_); rintro e w' ⟨rfl, rfl⟩))
    go_loopw [39] (fun i wr => i = .int .i64 0 ∧ wr = ((w1.alloc (.cells #[.int .i64 0, .string ⟨#[]⟩, .int .i64 wh, .int .i64 d, .int .i64 0] 30)).alloc (.cells #[.int .i64 a0.f0, .string a0.f1, .int .i64 a0.f2, .int .i64 a0.f3, .int .i64 a0.f4] 30))) (fun _ _ => 0)
    case atStart => exact ⟨rfl, rfl⟩
    case round =>
      obtain ⟨rfl, rfl⟩ := hrel
      go_wp2
      go_ret2
      exact ⟨ret2_ib (near_yes h1 H2.out h3 h4 (show nearTo xs wh d xs.length = a0 by rw [HL.out]; exact H1.out)).1.symm (near_yes h1 H2.out h3 h4 rfl).2.symm, HB1⟩
  · have hc1d : 1 < c := by omega
    go_wp2_with (first | (go_at_call 23; (with_reducible refine (isStep_any _ _).mono ?_); rintro e w' ⟨rfl, rfl⟩) | (go_at_call 24; (with_reducible refine (isDepth_any _ _).mono ?_); rintro e w' ⟨rfl, rfl⟩))
    generalize w1.heap.size = P at *
    have H1 := Lib.hid (nearTo_one wh d HX0.out)
    clear hx0 hx1 hx2 hx3 hx4
    go_loopw [39] (fun i wr => ∃ (k : Nat) (best : ShadeR), k ≤ xs.length - 1 ∧ i = .int .i64 k ∧ nearTo xs wh d (k + 1) = best ∧ Fine best ∧ Below w.heap.size w wr ∧
        Blk wr P 30 #[.int .i64 0, .string ⟨#[]⟩, .int .i64 wh, .int .i64 d, .int .i64 0] ∧ Blk wr (P + 1) 30 #[.int .i64 best.f0, .string best.f1, .int .i64 best.f2, .int .i64 best.f3, .int .i64 best.f4]) (fun i _ => (xs.length - 1) - (intOf i).toNat)
    case atStart => exact ⟨0, a0, Nat.zero_le _, rfl, H1.out, hfa0, HB1, y8, y9⟩
    case round =>
      obtain ⟨k, best, hk, rfl, hbest, hfb, HB, y8, y9⟩ := hrel
      have HBEST := Lib.hid hbest
      clear hbest
      by_cases hlt : k < xs.length - 1
      · obtain ⟨_, _, a, he, _, _, HX, hd0, hd1, hd2, hd3, hd4⟩ := ShadeR_at (F := shadeF) rfl (fun _ => rfl) (fun _ => rfl) h (show k + 1 < xs.length by omega)
        cases he
        have hfa := card_fine h1 HX.out
        rw [show off + (k + 1) * 5 = off + 5 + k * 5 by omega] at hd0 hd1 hd2 hd3 hd4
        have hu0 := (HB.cell (p := ⟨b, off + 5 + k * 5, none⟩) (by show b < _; omega)).trans hd0
        have hu1 := (HB.cell (p := ⟨b, off + 5 + k * 5 + 1, none⟩) (by show b < _; omega)).trans hd1
        have hu2 := (HB.cell (p := ⟨b, off + 5 + k * 5 + 2, none⟩) (by show b < _; omega)).trans hd2
        have hu3 := (HB.cell (p := ⟨b, off + 5 + k * 5 + 3, none⟩) (by show b < _; omega)).trans hd3
        have hu4 := (HB.cell (p := ⟨b, off + 5 + k * 5 + 4, none⟩) (by show b < _; omega)).trans hd4
        have hzr := HB.size
        replace y8 := y8.alloc (.cells #[.int .i64 a.f0, .string a.f1, .int .i64 a.f2, .int .i64 a.f3, .int .i64 a.f4] 30)
        replace y9 := y9.alloc (.cells #[.int .i64 a.f0, .string a.f1, .int .i64 a.f2, .int .i64 a.f3, .int .i64 a.f4] 30)
        have y11 := Blk.new wr #[.int .i64 a.f0, .string a.f1, .int .i64 a.f2, .int .i64 a.f3, .int .i64 a.f4] 30
        replace HB := HB.alloc hzr (.cells #[.int .i64 a.f0, .string a.f1, .int .i64 a.f2, .int .i64 a.f3, .int .i64 a.f4] 30)
        have hPw : w.heap.size ≤ P := hz1
        clear hd0 hd1 hd2 hd3 hd4
        go_wp2
        generalize wr.heap.size = Q at *
        have e110 := y11.cell 0
        have e111 := y11.cell 1
        have e112 := y11.cell 2
        have e113 := y11.cell 3
        have e114 := y11.cell 4
        have e80 := y8.cell 0
        have e81 := y8.cell 1
        have e82 := y8.cell 2
        have e83 := y8.cell 3
        have e84 := y8.cell 4
        have e90 := y9.cell 0
        have e91 := y9.cell 1
        have e92 := y9.cell 2
        have e93 := y9.cell 3
        have e94 := y9.cell 4
        go_region_held3 (fun w' => w'.cell? ⟨Q, 0, none⟩ = some (.int .i64 a.f0) ∧ w'.cell? ⟨Q, 1, none⟩ = some (.string a.f1) ∧ w'.cell? ⟨Q, 2, none⟩ = some (.int .i64 a.f2) ∧ w'.cell? ⟨Q, 3, none⟩ = some (.int .i64 a.f3) ∧ w'.cell? ⟨Q, 4, none⟩ = some (.int .i64 a.f4) ∧ w'.cell? ⟨P, 0, none⟩ = some (.int .i64 0) ∧ w'.cell? ⟨P, 1, none⟩ = some (.string ⟨#[]⟩) ∧ w'.cell? ⟨P, 2, none⟩ = some (.int .i64 wh) ∧ w'.cell? ⟨P, 3, none⟩ = some (.int .i64 d) ∧ w'.cell? ⟨P, 4, none⟩ = some (.int .i64 0) ∧ w'.cell? ⟨P + 1, 0, none⟩ = some (.int .i64 best.f0) ∧ w'.cell? ⟨P + 1, 1, none⟩ = some (.string best.f1) ∧ w'.cell? ⟨P + 1, 2, none⟩ = some (.int .i64 best.f2) ∧ w'.cell? ⟨P + 1, 3, none⟩ = some (.int .i64 best.f3) ∧ w'.cell? ⟨P + 1, 4, none⟩ = some (.int .i64 best.f4)) (first | exact ⟨y11.cell 0, y11.cell 1, y11.cell 2, y11.cell 3, y11.cell 4, y8.cell 0, y8.cell 1, y8.cell 2, y8.cell 3, y8.cell 4, y9.cell 0, y9.cell 1, y9.cell 2, y9.cell 3, y9.cell 4⟩ | go_keep) (first | (go_at_call 25; (with_reducible refine (distAim_any a wh d _ hfa hst hdp).mono ?_); rintro e w3 ⟨rfl, hb3⟩; (try replace hb3 := below_drew' hb3); replace y11 := y11.all hb3; replace y8 := y8.all hb3; replace y9 := y9.all hb3; replace HB := HB.trans (hb3.mono HB.size); clear hb3) | (go_at_call 25; (with_reducible refine (distAim_any best wh d _ hfb hst hdp).mono ?_); rintro e w3 ⟨rfl, hb3⟩; (try replace hb3 := below_drew' hb3); replace y11 := y11.all hb3; replace y8 := y8.all hb3; replace y9 := y9.all hb3; replace HB := HB.trans (hb3.mono HB.size); clear hb3))
        all_goals
          clear e110 e111 e112 e113 e114 e80 e81 e82 e83 e84 e90 e91 e92 e93 e94
          have e110 := y11.cell 0
          have e111 := y11.cell 1
          have e112 := y11.cell 2
          have e113 := y11.cell 3
          have e114 := y11.cell 4
          have e90 := y9.cell 0
          have e91 := y9.cell 1
          have e92 := y9.cell 2
          have e93 := y9.cell 3
          have e94 := y9.cell 4
          have f90 := y9.frozen 0
          have f91 := y9.frozen 1
          have f92 := y9.frozen 2
          have f93 := y9.frozen 3
          have f94 := y9.frozen 4
          by_cases hless : distI a.f2 a.f3 wh d < distI best.f2 best.f3 wh d
          · have HN := Lib.hid (nearTo_yes HX.out HBEST.out hless)
            go_wp2
            go_roundw
            case rel =>
              refine ⟨k + 1, a, by omega, by go_num, HN.out, hfa, by repeat (first | assumption | exact Below.refl _ _ | refine belowN ?_ _ | refine belowD ?_ | (refine Below.setCell ?_ (by first | (simp; done) | (simp; omega) | omega) _) | (refine Below.alloc ?_ (by first | (simp; done) | (simp; omega) | omega) _)), ?_, ?_⟩
              · exact ((((y8.far (a := ⟨P + 1, 0, none⟩) (show P ≠ P + 1 by omega) _).far (a := ⟨P + 1, 1, none⟩) (show P ≠ P + 1 by omega) _).far (a := ⟨P + 1, 2, none⟩) (show P ≠ P + 1 by omega) _).far (a := ⟨P + 1, 3, none⟩) (show P ≠ P + 1 by omega) _).far (a := ⟨P + 1, 4, none⟩) (show P ≠ P + 1 by omega) _
              · exact ((((y9.set_ 0 (.int .i64 a.f0)).set_ 1 (.string a.f1)).set_ 2 (.int .i64 a.f2)).set_ 3 (.int .i64 a.f3)).set_ 4 (.int .i64 a.f4)
            case measure => simp [intOf]; omega
          · have HN := Lib.hid (nearTo_no HX.out HBEST.out hless)
            go_wp2
            go_roundw
            case rel => exact ⟨k + 1, best, by omega, by go_num, HN.out, hfb, HB, y8, y9⟩
            case measure => simp [intOf]; omega
      · have e90 := y9.cell 0
        go_wp2
        go_ret2
        exact ⟨ret2_ib (near_yes h1 H2.out h3 h4 (show nearTo xs wh d xs.length = best by rw [show xs.length = k + 1 by omega]; exact HBEST.out)).1.symm (near_yes h1 H2.out h3 h4 rfl).2.symm, HB⟩
end Go.Proofs.Ytmdgclbcjjmpiaa
