/- The walks of FadedShade, the program's and the model's. Condition: the strings fit. -/
import Derived.Test.YtjhpjdlfdgpklabFade
import Derived.Test.YtjhpjdlfdgpklabShelf
namespace Go.Proofs.Ytjhpjdlfdgpklab
open Go.RowKit

theorem word_size {s : ByteArray} (h : wordB s = true) : s.size ≤ 281474976710656 := by
  simp only [wordB, Bool.and_eq_true, decide_eq_true_eq] at h
  omega
set_option maxHeartbeats 400000 in
theorem clone_any (s : ByteArray) (w : World) (hm : s.size ≤ 281474976710656) : Calls Try.prog 52 #[.string s] w (Out w (.string s)) := by
  go_enter Try.func52, Try.ntmps52
  go_wp2_with fail
  refine (Try.stringslite_Clone s _ hm).mono ?_
  rintro e w1 ⟨rfl, hb⟩
  go_wp2
  go_ret
  exact ⟨rfl, hb⟩
set_option maxHeartbeats 400000 in
theorem isFadeYears_any (x : Int) (w : World) : Calls Try.prog 51 #[.int .i64 x] w fun e w' => e = .returned (.bool (inB x 0 200)) ∧ w = w' := by
  go_enter Try.func51, Try.ntmps51
  go_wp2_with (go_at_call 55; (with_reducible refine (isBetween_any _ _ _ _).mono ?_); rintro e w' ⟨rfl, rfl⟩)
  go_ret
  exact ⟨rfl, rfl⟩
set_option maxHeartbeats 400000 in
theorem l3Years_any (x : Int) (w : World) : Calls Try.prog 49 #[.int .i64 x] w fun e w' => e = .returned (.bool (inB x 0 200)) ∧ w = w' := by
  go_enter Try.func49, Try.ntmps49
  go_wp2_with (go_at_call 54; (with_reducible refine (l1In_any _ _ _ _).mono ?_); rintro e w' ⟨rfl, rfl⟩)
  go_ret
  exact ⟨rfl, rfl⟩
def fadeB (s : ShadeR) (y : Int) : Bool := shadeB s && inB y 0 200
def fadeV (s : ShadeR) (y : Int) : ShadeR := if fadeB s y = true then fadeR s y else ShadeR.zero
theorem fade_yes {s : ShadeR} {y : Int} (h : shadeB s = true) (h' : inB y 0 200 = true) : fadeV s y = fadeR s y ∧ fadeB s y = true := by simp [fadeV, fadeB, h, h']
theorem fade_no {s : ShadeR} {y : Int} (h : shadeB s = false ∨ inB y 0 200 = false) : fadeV s y = ShadeR.zero ∧ fadeB s y = false := by rcases h with h | h <;> simp [fadeV, fadeB, h]
set_option maxHeartbeats 2000000 in
theorem implFadedShade_any (s : ShadeR) (y : Int) (w : World) (hm : s.f1.size ≤ maxLen) :
    Calls Try.prog 22 #[.agg #[.int .i64 s.f0, .string s.f1, .int .i64 s.f2, .int .i64 s.f3, .int .i64 s.f4], .int .i64 y] w (Out w (.tuple #[.agg #[.int .i64 (fadeV s y).f0, .string (fadeV s y).f1, .int .i64 (fadeV s y).f2, .int .i64 (fadeV s y).f3, .int .i64 (fadeV s y).f4], .bool (fadeB s y)])) := by
  by_cases h1 : shadeB s = true
  · by_cases h2 : inB y 0 200 = true
    · have H := Lib.hid (fade_yes h1 h2)
      have hy := inB_yes h2
      have hm2 := (word_size (shadeB_parts h1).2.1)
      obtain ⟨_, _, _, hdp, hfs⟩ := shadeB_parts h1
      have y0 := (Blk.new w #[.int .i64 s.f0, .string s.f1, .int .i64 s.f2, .int .i64 s.f3, .int .i64 s.f4] 29).alloc (.cells #[.int .i64 0, .string ⟨#[]⟩, .int .i64 0, .int .i64 0, .int .i64 0] 29)
      have y1 := (Blk.new (w.alloc (.cells #[.int .i64 s.f0, .string s.f1, .int .i64 s.f2, .int .i64 s.f3, .int .i64 s.f4] 29)) #[.int .i64 0, .string ⟨#[]⟩, .int .i64 0, .int .i64 0, .int .i64 0] 29).at_ (q := w.heap.size + 1) (by simp)
      have HB : Below w.heap.size w ((w.alloc (.cells #[.int .i64 s.f0, .string s.f1, .int .i64 s.f2, .int .i64 s.f3, .int .i64 s.f4] 29)).alloc (.cells #[.int .i64 0, .string ⟨#[]⟩, .int .i64 0, .int .i64 0, .int .i64 0] 29)) := by repeat (first | assumption | exact Below.refl _ _ | refine belowN ?_ _ | refine belowD ?_ | (refine Below.setCell ?_ (by first | (simp; done) | (simp; omega) | omega) _) | (refine Below.alloc ?_ (by first | (simp; done) | (simp; omega) | omega) _))
      go_enter Try.func22, Try.ntmps22
      go_wp2_with fail
      refine (implIsShade_any s _ hm).mono ?_
      rintro e w1 ⟨rfl, hb⟩
      replace HB := HB.trans (hb.mono HB.size)
      replace y0 := y0.all hb
      replace y1 := y1.all hb
      clear hb
      have e00 := y0.cell 0
      have e01 := y0.cell 1
      have e02 := y0.cell 2
      have e03 := y0.cell 3
      have e04 := y0.cell 4
      go_wp2_with (go_at_call 51; (with_reducible refine (isFadeYears_any _ _).mono ?_); rintro e w' ⟨rfl, rfl⟩)
      refine (clone_any _ _ hm2).mono ?_
      rintro e w2 ⟨rfl, hb⟩
      replace HB := HB.trans (hb.mono HB.size)
      replace y0 := y0.all hb
      replace y1 := y1.all hb
      clear e00 e01 e02 e03 e04
      clear hb
      have e00 := y0.cell 0
      have e01 := y0.cell 1
      have e02 := y0.cell 2
      have e03 := y0.cell 3
      have e04 := y0.cell 4
      have f01 := y0.frozen 1
      go_wp2_with fail
      refine (fadedBy_any s y _ hdp hfs hy).mono ?_
      rintro e w3 ⟨rfl, hb⟩
      replace HB := (HB.setCell (p := ⟨w.heap.size, 1, none⟩) (Nat.le_refl _) _).trans (hb.mono (by simpa [World.setCell] using HB.size))
      replace y1 := (y1.far (a := ⟨w.heap.size, 1, none⟩) (show w.heap.size + 1 ≠ w.heap.size by omega) _).all hb
      clear e00 e01 e02 e03 e04
      clear f01 hb y0
      have e10 := y1.cell 0
      have e11 := y1.cell 1
      have e12 := y1.cell 2
      have e13 := y1.cell 3
      have e14 := y1.cell 4
      have f10 := y1.frozen 0
      have f11 := y1.frozen 1
      have f12 := y1.frozen 2
      have f13 := y1.frozen 3
      have f14 := y1.frozen 4
      go_wp2
      refine bodyPost_ret (v := .tuple #[.agg #[.int .i64 s.f0, .string s.f1, .int .i64 s.f2, .int .i64 (max (s.f3 - y / (5 * s.f4)) 0), .int .i64 s.f4], .bool true]) (by simp [results, Try.results22, go_sem, *]) rfl ⟨by rw [H.out.1, H.out.2]; rfl, by repeat (first | assumption | exact Below.refl _ _ | refine belowN ?_ _ | refine belowD ?_ | (refine Below.setCell ?_ (by first | (simp; done) | (simp; omega) | omega) _) | (refine Below.alloc ?_ (by first | (simp; done) | (simp; omega) | omega) _))⟩
    · have H := Lib.hid (fade_no (s := s) (y := y) (.inr (not_false h2)))
      have h3 := not_false h2
      go_enter Try.func22, Try.ntmps22
      go_wp2_with (first | (go_at_call 43; (with_reducible refine (implIsShade_any s _ hm).mono ?_); rintro e w1 ⟨rfl, hb⟩; have HB : Below w.heap.size w w1 := (show Below w.heap.size w _ by repeat (first | assumption | exact Below.refl _ _ | refine belowN ?_ _ | refine belowD ?_ | (refine Below.setCell ?_ (by first | (simp; done) | (simp; omega) | omega) _) | (refine Below.alloc ?_ (by first | (simp; done) | (simp; omega) | omega) _))).trans (hb.mono (by first | (simp; done) | (simp; omega) | omega)); have hzb : w.heap.size ≤ w1.heap.size := HB.size; obtain ⟨hc, hf⟩ := bcell hb; have hz := hb.size; (try simp at hz); have hz0 : w.heap.size < w1.heap.size := (by omega); have hz1 : w.heap.size + 1 < w1.heap.size := (by omega); clear hb) | (go_at_call 51; (with_reducible refine (isFadeYears_any _ _).mono ?_); rintro e w' ⟨rfl, rfl⟩))
      refine bodyPost_ret (v := .tuple #[.agg #[.int .i64 0, .string ⟨#[]⟩, .int .i64 0, .int .i64 0, .int .i64 0], .bool false]) (by simp [results, Try.results22, go_sem, *]) rfl ⟨by rw [H.out.1, H.out.2]; rfl, by repeat (first | assumption | exact Below.refl _ _ | refine belowN ?_ _ | refine belowD ?_ | (refine Below.setCell ?_ (by first | (simp; done) | (simp; omega) | omega) _) | (refine Below.alloc ?_ (by first | (simp; done) | (simp; omega) | omega) _))⟩
  · have H := Lib.hid (fade_no (s := s) (y := y) (.inl (not_false h1)))
    have h3 := not_false h1
    go_enter Try.func22, Try.ntmps22
    go_wp2_with (first | (go_at_call 43; (with_reducible refine (implIsShade_any s _ hm).mono ?_); rintro e w1 ⟨rfl, hb⟩; have HB : Below w.heap.size w w1 := (show Below w.heap.size w _ by repeat (first | assumption | exact Below.refl _ _ | refine belowN ?_ _ | refine belowD ?_ | (refine Below.setCell ?_ (by first | (simp; done) | (simp; omega) | omega) _) | (refine Below.alloc ?_ (by first | (simp; done) | (simp; omega) | omega) _))).trans (hb.mono (by first | (simp; done) | (simp; omega) | omega)); have hzb : w.heap.size ≤ w1.heap.size := HB.size; obtain ⟨hc, hf⟩ := bcell hb; have hz := hb.size; (try simp at hz); have hz0 : w.heap.size < w1.heap.size := (by omega); have hz1 : w.heap.size + 1 < w1.heap.size := (by omega); clear hb) | (go_at_call 51; (with_reducible refine (isFadeYears_any _ _).mono ?_); rintro e w' ⟨rfl, rfl⟩))
    refine bodyPost_ret (v := .tuple #[.agg #[.int .i64 0, .string ⟨#[]⟩, .int .i64 0, .int .i64 0, .int .i64 0], .bool false]) (by simp [results, Try.results22, go_sem, *]) rfl ⟨by rw [H.out.1, H.out.2]; rfl, by repeat (first | assumption | exact Below.refl _ _ | refine belowN ?_ _ | refine belowD ?_ | (refine Below.setCell ?_ (by first | (simp; done) | (simp; omega) | omega) _) | (refine Below.alloc ?_ (by first | (simp; done) | (simp; omega) | omega) _))⟩
set_option maxHeartbeats 2000000 in
theorem specFadedShade_any (s : ShadeR) (y : Int) (w : World) (hm : s.f1.size ≤ maxLen) :
    Calls Try.prog 21 #[.agg #[.int .i64 s.f0, .string s.f1, .int .i64 s.f2, .int .i64 s.f3, .int .i64 s.f4], .int .i64 y] w (Out w (.tuple #[.agg #[.int .i64 (fadeV s y).f0, .string (fadeV s y).f1, .int .i64 (fadeV s y).f2, .int .i64 (fadeV s y).f3, .int .i64 (fadeV s y).f4], .bool (fadeB s y)])) := by
  by_cases h1 : shadeB s = true
  · by_cases h2 : inB y 0 200 = true
    · have H := Lib.hid (fade_yes h1 h2)
      have hy := inB_yes h2
      have hm2 := (word_size (shadeB_parts h1).2.1)
      obtain ⟨_, _, _, hdp, hfs⟩ := shadeB_parts h1
      have y0 := (Blk.new w #[.int .i64 s.f0, .string s.f1, .int .i64 s.f2, .int .i64 s.f3, .int .i64 s.f4] 29).alloc (.cells #[.int .i64 0, .string ⟨#[]⟩, .int .i64 0, .int .i64 0, .int .i64 0] 29)
      have y1 := (Blk.new (w.alloc (.cells #[.int .i64 s.f0, .string s.f1, .int .i64 s.f2, .int .i64 s.f3, .int .i64 s.f4] 29)) #[.int .i64 0, .string ⟨#[]⟩, .int .i64 0, .int .i64 0, .int .i64 0] 29).at_ (q := w.heap.size + 1) (by simp)
      have HB : Below w.heap.size w ((w.alloc (.cells #[.int .i64 s.f0, .string s.f1, .int .i64 s.f2, .int .i64 s.f3, .int .i64 s.f4] 29)).alloc (.cells #[.int .i64 0, .string ⟨#[]⟩, .int .i64 0, .int .i64 0, .int .i64 0] 29)) := by repeat (first | assumption | exact Below.refl _ _ | refine belowN ?_ _ | refine belowD ?_ | (refine Below.setCell ?_ (by first | (simp; done) | (simp; omega) | omega) _) | (refine Below.alloc ?_ (by first | (simp; done) | (simp; omega) | omega) _))
      go_enter Try.func21, Try.ntmps21
      go_wp2_with fail
      refine (l3One_any s _ hm).mono ?_
      rintro e w1 ⟨rfl, hb⟩
      replace HB := HB.trans (hb.mono HB.size)
      replace y0 := y0.all hb
      replace y1 := y1.all hb
      clear hb
      have e00 := y0.cell 0
      have e01 := y0.cell 1
      have e02 := y0.cell 2
      have e03 := y0.cell 3
      have e04 := y0.cell 4
      go_wp2_with (go_at_call 49; (with_reducible refine (l3Years_any _ _).mono ?_); rintro e w' ⟨rfl, rfl⟩)
      refine (l3Faded_any s y _ hdp hfs hy).mono ?_
      rintro e w3 ⟨rfl, hb⟩
      replace HB := HB.trans (hb.mono HB.size)
      replace y1 := y1.all hb
      clear e00 e01 e02 e03 e04
      clear hb y0
      have e10 := y1.cell 0
      have e11 := y1.cell 1
      have e12 := y1.cell 2
      have e13 := y1.cell 3
      have e14 := y1.cell 4
      have f10 := y1.frozen 0
      have f11 := y1.frozen 1
      have f12 := y1.frozen 2
      have f13 := y1.frozen 3
      have f14 := y1.frozen 4
      go_wp2
      refine bodyPost_ret (v := .tuple #[.agg #[.int .i64 s.f0, .string s.f1, .int .i64 s.f2, .int .i64 (max (s.f3 - y / (5 * s.f4)) 0), .int .i64 s.f4], .bool true]) (by simp [results, Try.results21, go_sem, *]) rfl ⟨by rw [H.out.1, H.out.2]; rfl, by repeat (first | assumption | exact Below.refl _ _ | refine belowN ?_ _ | refine belowD ?_ | (refine Below.setCell ?_ (by first | (simp; done) | (simp; omega) | omega) _) | (refine Below.alloc ?_ (by first | (simp; done) | (simp; omega) | omega) _))⟩
    · have H := Lib.hid (fade_no (s := s) (y := y) (.inr (not_false h2)))
      have h3 := not_false h2
      go_enter Try.func21, Try.ntmps21
      go_wp2_with (first | (go_at_call 41; (with_reducible refine (l3One_any s _ hm).mono ?_); rintro e w1 ⟨rfl, hb⟩; have HB : Below w.heap.size w w1 := (show Below w.heap.size w _ by repeat (first | assumption | exact Below.refl _ _ | refine belowN ?_ _ | refine belowD ?_ | (refine Below.setCell ?_ (by first | (simp; done) | (simp; omega) | omega) _) | (refine Below.alloc ?_ (by first | (simp; done) | (simp; omega) | omega) _))).trans (hb.mono (by first | (simp; done) | (simp; omega) | omega)); have hzb : w.heap.size ≤ w1.heap.size := HB.size; obtain ⟨hc, hf⟩ := bcell hb; have hz := hb.size; (try simp at hz); have hz0 : w.heap.size < w1.heap.size := (by omega); have hz1 : w.heap.size + 1 < w1.heap.size := (by omega); clear hb) | (go_at_call 49; (with_reducible refine (l3Years_any _ _).mono ?_); rintro e w' ⟨rfl, rfl⟩))
      refine bodyPost_ret (v := .tuple #[.agg #[.int .i64 0, .string ⟨#[]⟩, .int .i64 0, .int .i64 0, .int .i64 0], .bool false]) (by simp [results, Try.results21, go_sem, *]) rfl ⟨by rw [H.out.1, H.out.2]; rfl, by repeat (first | assumption | exact Below.refl _ _ | refine belowN ?_ _ | refine belowD ?_ | (refine Below.setCell ?_ (by first | (simp; done) | (simp; omega) | omega) _) | (refine Below.alloc ?_ (by first | (simp; done) | (simp; omega) | omega) _))⟩
  · have H := Lib.hid (fade_no (s := s) (y := y) (.inl (not_false h1)))
    have h3 := not_false h1
    go_enter Try.func21, Try.ntmps21
    go_wp2_with (first | (go_at_call 41; (with_reducible refine (l3One_any s _ hm).mono ?_); rintro e w1 ⟨rfl, hb⟩; have HB : Below w.heap.size w w1 := (show Below w.heap.size w _ by repeat (first | assumption | exact Below.refl _ _ | refine belowN ?_ _ | refine belowD ?_ | (refine Below.setCell ?_ (by first | (simp; done) | (simp; omega) | omega) _) | (refine Below.alloc ?_ (by first | (simp; done) | (simp; omega) | omega) _))).trans (hb.mono (by first | (simp; done) | (simp; omega) | omega)); have hzb : w.heap.size ≤ w1.heap.size := HB.size; obtain ⟨hc, hf⟩ := bcell hb; have hz := hb.size; (try simp at hz); have hz0 : w.heap.size < w1.heap.size := (by omega); have hz1 : w.heap.size + 1 < w1.heap.size := (by omega); clear hb) | (go_at_call 49; (with_reducible refine (l3Years_any _ _).mono ?_); rintro e w' ⟨rfl, rfl⟩))
    refine bodyPost_ret (v := .tuple #[.agg #[.int .i64 0, .string ⟨#[]⟩, .int .i64 0, .int .i64 0, .int .i64 0], .bool false]) (by simp [results, Try.results21, go_sem, *]) rfl ⟨by rw [H.out.1, H.out.2]; rfl, by repeat (first | assumption | exact Below.refl _ _ | refine belowN ?_ _ | refine belowD ?_ | (refine Below.setCell ?_ (by first | (simp; done) | (simp; omega) | omega) _) | (refine Below.alloc ?_ (by first | (simp; done) | (simp; omega) | omega) _))⟩
end Go.Proofs.Ytjhpjdlfdgpklab
