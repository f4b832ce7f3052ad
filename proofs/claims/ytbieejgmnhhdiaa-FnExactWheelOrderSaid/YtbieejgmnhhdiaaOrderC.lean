/- The walks of the closure by which WheelOrder sorts, and of the library's cmp.Or over three numbers. Condition: shades on the wheel. -/
import Derived.Test.YtbieejgmnhhdiaaOrderMath
import Derived.Test.YtbieejgmnhhdiaaShelf
import Derived.Deep.RegionHeld3
import Derived.Shelf.SlSortCmp.SmallK
namespace Go.Proofs.Ytbieejgmnhhdiaa
open Go.RowKit

/-- The first of three numbers that is not 0. -/
def orI (a b c : Int) : Int := if a = 0 then (if b = 0 then c else b) else a
set_option maxRecDepth 100000 in
set_option maxHeartbeats 2000000 in
theorem or3_any (q : Nat) (a b c : Int) (w : World) (h : Blk w q 3 #[.int .i64 a, .int .i64 b, .int .i64 c]) :
    Calls Try.prog 44 #[.slice (some ⟨q, 0, none⟩) 3 3] w fun e w' => e = .returned (.int .i64 (orI a b c)) ∧ w = w' := by
  have e0 := h.cell 0
  have e1 := h.cell 1
  have e2 := h.cell 2
  go_enter Try.func44, Try.ntmps44
  go_wp2
  go_loopw [8] (fun i wr => ∃ k : Nat, k ≤ 3 ∧ i = .int .i64 k ∧ Hid ((1 ≤ k → a = 0) ∧ (2 ≤ k → b = 0) ∧ (3 ≤ k → c = 0)) ∧ w = wr) (fun i _ => 3 - (intOf i).toNat)
  case atStart => exact ⟨0, by omega, rfl, ⟨by omega, by omega, by omega⟩, rfl⟩
  case round =>
    obtain ⟨k, hk, rfl, HZ, rfl⟩ := hrel
    match k, hk, HZ with
    | 0, _, HZ =>
      by_cases ha : a = 0
      · subst ha
        go_wp2
        go_roundw
        case rel => exact ⟨1, by omega, rfl, Lib.hid ⟨fun _ => trivial, by omega, by omega⟩, trivial⟩
        case measure => simp [intOf]
      · have ha' : (a != 0) = true := by simpa using ha
        have H := Lib.hid (show orI a b c = a from if_neg ha)
        clear ha
        go_wp2
        go_ret
        exact ⟨ret_int H.out.symm, rfl⟩
    | 1, _, HZ =>
      have ha := HZ.out.1 (by omega)
      subst ha
      by_cases hb : b = 0
      · subst hb
        go_wp2
        go_roundw
        case rel => exact ⟨2, by omega, rfl, Lib.hid ⟨fun _ => trivial, fun _ => trivial, by omega⟩, trivial⟩
        case measure => simp [intOf]
      · have hb' : (b != 0) = true := by simpa using hb
        have H := Lib.hid (show orI 0 b c = b from (if_pos rfl).trans (if_neg hb))
        clear hb
        go_wp2
        go_ret
        exact ⟨ret_int H.out.symm, rfl⟩
    | 2, _, HZ =>
      have ha := HZ.out.1 (by omega)
      subst ha
      have hb := HZ.out.2.1 (by omega)
      subst hb
      have H := Lib.hid (show orI 0 0 c = c from rfl)
      by_cases hc : c = 0
      · subst hc
        go_wp2
        go_roundw
        case rel => exact ⟨3, by omega, rfl, Lib.hid ⟨fun _ => trivial, fun _ => trivial, fun _ => trivial⟩, trivial⟩
        case measure => simp [intOf]
      · have hc' : (c != 0) = true := by simpa using hc
        clear hc
        go_wp2
        go_ret
        exact ⟨ret_int H.out.symm, rfl⟩
    | 3, _, HZ =>
      have ha := HZ.out.1 (by omega)
      subst ha
      have hb := HZ.out.2.1 (by omega)
      subst hb
      have hc := HZ.out.2.2 (by omega)
      subst hc
      go_wp2
      go_ret
      exact ⟨rfl, rfl⟩
theorem or3_eq (q : Nat) (a b c d : Int) (w : World) (h : Blk w q 3 #[.int .i64 a, .int .i64 b, .int .i64 c]) (hd : orI a b c = d) :
    Calls Try.prog 44 #[.slice (some ⟨q, 0, none⟩) 3 3] w fun e w' => e = .returned (.int .i64 d) ∧ w = w' := hd ▸ or3_any q a b c w h
theorem cmp_eq (a b d : Int) (w : World) (hd : Lib.compareInt a b = d) : Calls Try.prog 45 #[.int .i64 a, .int .i64 b] w fun e w' => e = .returned (.int .i64 d) ∧ w = w' :=
  (Try.cmp_Compare_int a b w).mono fun e w' ⟨he, hw⟩ => ⟨by rw [he, hd], hw.symm⟩
theorem up_eq (a b d : Int) (w : World) (ha : Step a) (hb : Step b) (hd : (b - a) % 24 = d) : Calls Try.prog 46 #[.int .i64 a, .int .i64 b] w fun e w' => e = .returned (.int .i64 d) ∧ w = w' := hd ▸ stepsUp_any a b w ha hb
theorem al_cell {w : World} {o : Obj} {b off : Nat} {v : Value} (h : w.cell? ⟨b, off, none⟩ = some v) (hb : b < w.heap.size) : ((w.alloc o).drew).cell? ⟨b, off, none⟩ = some v :=
  (World.cell?_alloc_lt w o ⟨b, off, none⟩ hb).trans h
/-- How two shades compare. -/
def cmpI (fr : Int) (x y : ShadeR) : Int := orI (Lib.compareInt ((x.f2 - fr) % 24) ((y.f2 - fr) % 24)) (Lib.compareInt x.f3 y.f3) (Lib.compareInt x.f0 y.f0)
set_option maxRecDepth 100000 in
set_option maxHeartbeats 8000000 in
theorem closure_any (P : Nat) (fr : Int) (x y : ShadeR) (w : World) (hf : Step fr) (hx : Step x.f2) (hy : Step y.f2) (hP : w.cell? ⟨P, 0, none⟩ = some (.int .i64 fr)) (hPw : P < w.heap.size) :
    Calls Try.prog 43 #[.agg #[.int .i64 x.f0, .string x.f1, .int .i64 x.f2, .int .i64 x.f3, .int .i64 x.f4], .agg #[.int .i64 y.f0, .string y.f1, .int .i64 y.f2, .int .i64 y.f3, .int .i64 y.f4], .pointer (some ⟨P, 0, none⟩)] w fun e w' => e = .returned (.int .i64 (cmpI fr x y)) ∧ ∃ q os', w' = Go.Sort.grow (w.drewN q) os' := by
  obtain ⟨kx, hkx⟩ : ∃ k, (x.f2 - fr) % 24 = k := ⟨_, rfl⟩
  obtain ⟨ky, hky⟩ : ∃ k, (y.f2 - fr) % 24 = k := ⟨_, rfl⟩
  obtain ⟨c1, hc1⟩ : ∃ k, Lib.compareInt kx ky = k := ⟨_, rfl⟩
  obtain ⟨c2, hc2⟩ : ∃ k, Lib.compareInt x.f3 y.f3 = k := ⟨_, rfl⟩
  obtain ⟨c3, hc3⟩ : ∃ k, Lib.compareInt x.f0 y.f0 = k := ⟨_, rfl⟩
  obtain ⟨r, hr⟩ : ∃ k, orI c1 c2 c3 = k := ⟨_, rfl⟩
  have HV := Lib.hid (show cmpI fr x y = r by unfold cmpI; rw [hkx, hky, hc1, hc2, hc3, hr])
  rw [HV.out]
  have K1 := Lib.hid (fun w => up_eq fr x.f2 kx w hf hx hkx)
  have K2 := Lib.hid (fun w => up_eq fr y.f2 ky w hf hy hky)
  have K3 := Lib.hid (fun w => cmp_eq kx ky c1 w hc1)
  have K4 := Lib.hid (fun w => cmp_eq x.f3 y.f3 c2 w hc2)
  have K5 := Lib.hid (fun w => cmp_eq x.f0 y.f0 c3 w hc3)
  have K6 := Lib.hid (fun w q (h : Blk w q 3 #[.int .i64 c1, .int .i64 c2, .int .i64 c3]) => or3_eq q c1 c2 c3 r w h hr)
  clear hkx hky hc1 hc2 hc3 hr
  have bx := (Blk.new w #[.int .i64 x.f0, .string x.f1, .int .i64 x.f2, .int .i64 x.f3, .int .i64 x.f4] 47).alloc (.cells #[.int .i64 y.f0, .string y.f1, .int .i64 y.f2, .int .i64 y.f3, .int .i64 y.f4] 47)
  have byy := Blk.new (w.alloc (.cells #[.int .i64 x.f0, .string x.f1, .int .i64 x.f2, .int .i64 x.f3, .int .i64 x.f4] 47)) #[.int .i64 y.f0, .string y.f1, .int .i64 y.f2, .int .i64 y.f3, .int .i64 y.f4] 47
  rw [show (w.alloc (.cells #[.int .i64 x.f0, .string x.f1, .int .i64 x.f2, .int .i64 x.f3, .int .i64 x.f4] 47)).heap.size = w.heap.size + 1 by simp] at byy
  have hb2 : Below w.heap.size w ((w.alloc (.cells #[.int .i64 x.f0, .string x.f1, .int .i64 x.f2, .int .i64 x.f3, .int .i64 x.f4] 47)).alloc (.cells #[.int .i64 y.f0, .string y.f1, .int .i64 y.f2, .int .i64 y.f3, .int .i64 y.f4] 47)) := ((Below.refl _ _).alloc (Nat.le_refl _) _).alloc (by simp) _
  have hP2 := cells_of hb2 hP hPw
  have HB := Lib.hid hb2
  have hz2 := byy.lt
  clear hb2 hP
  go_enter Try.func43, Try.ntmps43
  go_wp2
  obtain ⟨w2, HW2⟩ : ∃ w2, Hid (w2 = (w.alloc (.cells #[.int .i64 x.f0, .string x.f1, .int .i64 x.f2, .int .i64 x.f3, .int .i64 x.f4] 47)).alloc (.cells #[.int .i64 y.f0, .string y.f1, .int .i64 y.f2, .int .i64 y.f3, .int .i64 y.f4] 47)) := ⟨_, rfl⟩
  rw [← HW2.out] at bx byy hz2 HB hP2 ⊢
  obtain ⟨Q, hQ⟩ : ∃ Q, w.heap.size = Q := ⟨_, rfl⟩
  have HQ := Lib.hid hQ
  rw [hQ] at bx byy hz2 ⊢
  clear hQ
  have u0 : w2.cell? ⟨Q, 0, none⟩ = some (.int .i64 x.f0) := bx.cell 0
  have u2 : w2.cell? ⟨Q, 2, none⟩ = some (.int .i64 x.f2) := bx.cell 2
  have u3 : w2.cell? ⟨Q, 3, none⟩ = some (.int .i64 x.f3) := bx.cell 3
  have v0 : w2.cell? ⟨Q + 1, 0, none⟩ = some (.int .i64 y.f0) := byy.cell 0
  have v2 : w2.cell? ⟨Q + 1, 2, none⟩ = some (.int .i64 y.f2) := byy.cell 2
  have v3 : w2.cell? ⟨Q + 1, 3, none⟩ = some (.int .i64 y.f3) := byy.cell 3
  have hQz : Q < w2.heap.size := by omega
  have hlit : Blk ((w2.alloc (.cells #[.int .i64 c1, .int .i64 c2, .int .i64 c3] 3)).drew) w2.heap.size 3 #[.int .i64 c1, .int .i64 c2, .int .i64 c3] := Blk.new w2 _ _
  have hPz : P < w2.heap.size := by have := HQ.out; omega
  go_region_held3 (fun w' => w'.cell? ⟨P, 0, none⟩ = some (.int .i64 fr) ∧ w'.cell? ⟨Q, 0, none⟩ = some (.int .i64 x.f0) ∧ w'.cell? ⟨Q, 2, none⟩ = some (.int .i64 x.f2) ∧ w'.cell? ⟨Q, 3, none⟩ = some (.int .i64 x.f3) ∧ w'.cell? ⟨Q + 1, 0, none⟩ = some (.int .i64 y.f0) ∧ w'.cell? ⟨Q + 1, 2, none⟩ = some (.int .i64 y.f2) ∧ w'.cell? ⟨Q + 1, 3, none⟩ = some (.int .i64 y.f3)) (first | exact ⟨hP2, u0, u2, u3, v0, v2, v3⟩ | exact ⟨al_cell hP2 hPz, al_cell u0 hQz, al_cell u2 hQz, al_cell u3 hQz, al_cell v0 hz2, al_cell v2 hz2, al_cell v3 hz2⟩ | go_keep) (first | (go_at_call 46; (with_reducible refine (K1.out _).mono ?_); rintro e w5 ⟨rfl, rfl⟩) | (go_at_call 46; (with_reducible refine (K2.out _).mono ?_); rintro e w5 ⟨rfl, rfl⟩) | (go_at_call 45; (with_reducible refine (K3.out _).mono ?_); rintro e w5 ⟨rfl, rfl⟩) | (go_at_call 45; (with_reducible refine (K4.out _).mono ?_); rintro e w5 ⟨rfl, rfl⟩) | (go_at_call 45; (with_reducible refine (K5.out _).mono ?_); rintro e w5 ⟨rfl, rfl⟩) | (go_at_call 44; (with_reducible refine (K6.out _ _ hlit).mono ?_); rintro e w5 ⟨rfl, rfl⟩))
  all_goals
    go_wp2
    go_ret
    exact ⟨rfl, 1, _, by rw [HW2.out, Go.Sort.alloc_eq_grow, Go.Sort.alloc_eq_grow, Go.Sort.alloc_eq_grow, Go.Sort.grow_grow, Go.Sort.grow_grow, Go.Sort.drew_grow]; rfl⟩
end Go.Proofs.Ytbieejgmnhhdiaa
