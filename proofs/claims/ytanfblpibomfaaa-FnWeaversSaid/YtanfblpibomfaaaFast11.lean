/- The walks of FastestFree, both texts. No condition. -/
import Derived.Test.YtanfblpibomfaaaKnots11
import Derived.BigQuiet
namespace Go.Proofs.Ytanfblpibomfaaa
open Go.RowKit

/-- The fastest who ties knots, the first one of equals. -/
def fastF (f : WeaverR) : List WeaverR → WeaverR
  | [] => f
  | a :: r => fastF (if hasB a.f2 1 = true ∧ f.f3 < a.f3 then a else f) r
theorem fastF_drop {xs : List WeaverR} {k : Nat} {a : WeaverR} (ha : xs[k]? = some a) (f : WeaverR) : fastF f (xs.drop k) = fastF (if hasB a.f2 1 = true ∧ f.f3 < a.f3 then a else f) (xs.drop (k + 1)) := by
  obtain ⟨hlt, e⟩ := List.getElem?_eq_some_iff.1 ha
  rw [List.drop_eq_getElem_cons hlt, e]
  rfl
theorem fastF_at {xs : List WeaverR} {k : Nat} {a : WeaverR} (ha : xs[k]? = some a) (f : WeaverR) (h : a.f4 = 0) : fastF f (atL (xs.drop k) 0) = fastF (if hasB a.f2 1 = true ∧ f.f3 < a.f3 then a else f) (atL (xs.drop (k + 1)) 0) := by
  rw [atL_drop ha, atL_one_yes h]
  rfl
theorem fastF_off {xs : List WeaverR} {k : Nat} {a : WeaverR} (ha : xs[k]? = some a) (f : WeaverR) (h : ¬ a.f4 = 0) : fastF f (atL (xs.drop k) 0) = fastF f (atL (xs.drop (k + 1)) 0) := by
  rw [atL_drop ha, atL_one_no h]
  rfl
def fastR (xs : List WeaverR) : WeaverR := fastF WeaverR.zero (atL xs 0)
noncomputable def fast11 (xs : List WeaverR) : Int × Bool := if weaversB xs = true then ((fastR xs).f0, decide (0 < (fastR xs).f0)) else (0, false)
theorem Blk.put5 {w : World} {p : Nat} {t : TypeId} {a0 a1 a2 a3 a4 : Value} (h : Blk w p t #[a0, a1, a2, a3, a4]) (b0 b1 b2 b3 b4 : Value) :
    Blk (((((w.setCell ⟨p, 0, none⟩ b0).setCell ⟨p, 1, none⟩ b1).setCell ⟨p, 2, none⟩ b2).setCell ⟨p, 3, none⟩ b3).setCell ⟨p, 4, none⟩ b4) p t #[b0, b1, b2, b3, b4] :=
  ((((h.set_ 0 b0).set_ 1 b1).set_ 2 b2).set_ 3 b3).set_ 4 b4
theorem below_put5 {B : Nat} {v w : World} {p : Nat} (h : Below B v w) (hp : B ≤ p) (b0 b1 b2 b3 b4 : Value) :
    Below B v (((((w.setCell ⟨p, 0, none⟩ b0).setCell ⟨p, 1, none⟩ b1).setCell ⟨p, 2, none⟩ b2).setCell ⟨p, 3, none⟩ b3).setCell ⟨p, 4, none⟩ b4) :=
  ((((h.setCell (p := ⟨p, 0, none⟩) hp b0).setCell (p := ⟨p, 1, none⟩) hp b1).setCell (p := ⟨p, 2, none⟩) hp b2).setCell (p := ⟨p, 3, none⟩) hp b3).setCell (p := ⟨p, 4, none⟩) hp b4
theorem size_put5 (w : World) (p : Nat) (b0 b1 b2 b3 b4 : Value) :
    (((((w.setCell ⟨p, 0, none⟩ b0).setCell ⟨p, 1, none⟩ b1).setCell ⟨p, 2, none⟩ b2).setCell ⟨p, 3, none⟩ b3).setCell ⟨p, 4, none⟩ b4).heap.size = w.heap.size := by simp
/-- What a loop reads while a block in between is written. -/
def Keeps (A B : Nat) (w w' : World) : Prop := ∀ b o, A ≤ b → b < B → w'.cell? ⟨b, o, none⟩ = w.cell? ⟨b, o, none⟩
set_option maxRecDepth 100000 in
set_option maxHeartbeats 4000000 in
theorem implFastestFree_any (A : Option Addr) (n c B : Nat) (xs : List WeaverR) (w : World) (h : RdF weaverF w B A n c xs) (hB : B ≤ w.heap.size) :
    Calls Try.prog 20 #[.slice A n c] w (Out w (.tuple #[.int .i64 (fast11 xs).1, .bool (fast11 xs).2])) := by
  obtain rfl := h.len
  by_cases hg : weaversB xs = true
  rotate_left
  · have hg' := not_false hg
    rw [show fast11 xs = (0, false) from if_neg hg]
    go_enter Try.func20, Try.ntmps20
    go_wp2_with (go_at_call 14; refine (implAreWeavers_eq A _ c B xs _ _ h hB hg').mono ?_; rintro e w1 ⟨rfl, hb⟩)
    go_ret2
    exact ⟨rfl, hb⟩
  have HG := Lib.hid (show fast11 xs = ((fastR xs).f0, decide (0 < (fastR xs).f0)) from if_pos hg)
  have h8 := (weaversB_of hg).1
  have HF := Lib.hid (fast_atL (weavers_fast hg) 0)
  have hn8 : (atL xs 0).length ≤ xs.length := seatsN_le xs 0
  go_enter Try.func20, Try.ntmps20
  go_wp2_with (go_at_call 14; refine (implAreWeavers_eq A _ c B xs _ _ h hB hg).mono ?_; rintro e w1 ⟨rfl, hb⟩)
  have x4 := Blk.new w1 #[.int .i64 0, .string ⟨#[]⟩, .int .i64 0, .int .i64 0, .int .i64 0] 40
  have HB1 := hb.alloc hb.size (.cells #[.int .i64 0, .string ⟨#[]⟩, .int .i64 0, .int .i64 0, .int .i64 0] 40)
  have hR := (h.all hb hB).alloc (Nat.le_trans hB hb.size) (.cells #[.int .i64 0, .string ⟨#[]⟩, .int .i64 0, .int .i64 0, .int .i64 0] 40)
  have hB1 : B ≤ (w1.alloc (.cells #[.int .i64 0, .string ⟨#[]⟩, .int .i64 0, .int .i64 0, .int .i64 0] 40)).heap.size := by have := hb.size; simp; omega
  have hP0 : w.heap.size ≤ w1.heap.size := hb.size
  clear h hb
  generalize w1.alloc (.cells #[.int .i64 0, .string ⟨#[]⟩, .int .i64 0, .int .i64 0, .int .i64 0] 40) = W1 at *
  generalize w1.heap.size = P at *
  refine (weaversAt_any A _ c B xs 0 _ hR hB1 (by omega)).mono ?_
  rintro e w2 ⟨A2, c2, rfl, own, hb2⟩
  have hR2 := own.rd
  have hPz := x4.lt
  replace x4 := x4.all hb2
  have hb12 : Below w.heap.size w w2 := HB1.trans (hb2.mono HB1.size)
  have HK := Lib.hid (show fastR xs = fastF WeaverR.zero (atL xs 0) from rfl)
  have hlow : ∀ j, (Value.slice A2 (atL xs 0).length c2).ownBlock = some j → P < j := fun j hj => Nat.lt_of_lt_of_le hPz (own.bd j hj).1
  clear hb2 hR HB1
  generalize atL xs 0 = ys at *
  go_wp2
  go_loopw [14] (fun i wr => ∃ (k : Nat) (f : WeaverR), k ≤ ys.length ∧ i = .int .i64 k ∧ Hid (fastF f (ys.drop k) = fastR xs) ∧ Below w.heap.size w wr ∧ OwnF weaverF wr W1.heap.size (.slice A2 ys.length c2) ys ∧ Blk wr P 40 #[.int .i64 f.f0, .string f.f1, .int .i64 f.f2, .int .i64 f.f3, .int .i64 f.f4]) (fun i _ => ys.length - (intOf i).toNat)
  case atStart => exact ⟨0, WeaverR.zero, Nat.zero_le _, rfl, Lib.hid (by rw [HK.out, List.drop_zero]), hb12, own, x4⟩
  case round =>
    obtain ⟨k, f, hk, rfl, HY, hb, own, x4⟩ := hrel
    have hzz := hb.size
    by_cases hlt : k < ys.length
    · obtain ⟨b, off, a, rfl, hbB, ok, HX, hc0, hc1, hc2, hc3, hc4⟩ := WeaverR_at (F := weaverF) rfl (fun _ => rfl) (fun _ => rfl) own.rd hlt
      have HD := Lib.hid (fastF_drop HX.out f)
      have x6 := Blk.new wr #[.int .i64 a.f0, .string a.f1, .int .i64 a.f2, .int .i64 a.f3, .int .i64 a.f4] 40
      have hPr := x4.lt
      have y4 := x4.alloc (.cells #[.int .i64 a.f0, .string a.f1, .int .i64 a.f2, .int .i64 a.f3, .int .i64 a.f4] 40)
      have HB := hb.alloc hzz (.cells #[.int .i64 a.f0, .string a.f1, .int .i64 a.f2, .int .i64 a.f3, .int .i64 a.f4] 40)
      have own6 := own.alloc (.cells #[.int .i64 a.f0, .string a.f1, .int .i64 a.f2, .int .i64 a.f3, .int .i64 a.f4] 40)
      clear hb own x4
      by_cases hsk : hasB a.f2 1 = true
      · by_cases hgt : f.f3 < a.f3
        · have HN := Lib.hid (show fastF a (ys.drop (k + 1)) = fastR xs by rw [← HY.out, HD.out, if_pos ⟨hsk, hgt⟩])
          go_upto_region 7 with fail
          clear hc0 hc1 hc2 hc3 hc4
          generalize wr.alloc (.cells #[.int .i64 a.f0, .string a.f1, .int .i64 a.f2, .int .i64 a.f3, .int .i64 a.f4] 40) = W6 at *
          generalize wr.heap.size = Q at *
          have e40 := y4.cell 0
          have f40 := y4.frozen 0
          have e60 := x6.cell 0
          have e41 := y4.cell 1
          have f41 := y4.frozen 1
          have e61 := x6.cell 1
          have e42 := y4.cell 2
          have f42 := y4.frozen 2
          have e62 := x6.cell 2
          have e43 := y4.cell 3
          have f43 := y4.frozen 3
          have e63 := x6.cell 3
          have e44 := y4.cell 4
          have f44 := y4.frozen 4
          have e64 := x6.cell 4
          have hQ := x6.lt
          go_wp2_with (go_at_call 46; (with_reducible refine (hasSkills_any _ _ _).mono ?_); rintro e w' ⟨rfl, rfl⟩)
          have z4 := y4.put5 (.int .i64 a.f0) (.string a.f1) (.int .i64 a.f2) (.int .i64 a.f3) (.int .i64 a.f4)
          have HB5 := below_put5 HB (p := P) hP0 (.int .i64 a.f0) (.string a.f1) (.int .i64 a.f2) (.int .i64 a.f3) (.int .i64 a.f4)
          have hne : (Value.slice (some ⟨b, off, none⟩) ys.length c2).ownBlock ≠ some P := fun hj => by have := hlow P hj; omega
          have own8 := ((((own6.far (a := ⟨P, 0, none⟩) hne (.int .i64 a.f0)).far (a := ⟨P, 1, none⟩) hne (.string a.f1)).far (a := ⟨P, 2, none⟩) hne (.int .i64 a.f2)).far (a := ⟨P, 3, none⟩) hne (.int .i64 a.f3)).far (a := ⟨P, 4, none⟩) hne (.int .i64 a.f4)
          go_roundw
          case rel => exact ⟨k + 1, a, by omega, by go_num, HN, HB5, own8, z4⟩
          case measure => simp [intOf]; omega
        · have HN := Lib.hid (show fastF f (ys.drop (k + 1)) = fastR xs by rw [← HY.out, HD.out, if_neg fun hh => hgt hh.2])
          go_upto_region 7 with fail
          clear hc0 hc1 hc2 hc3 hc4
          generalize wr.alloc (.cells #[.int .i64 a.f0, .string a.f1, .int .i64 a.f2, .int .i64 a.f3, .int .i64 a.f4] 40) = W6 at *
          generalize wr.heap.size = Q at *
          have e40 := y4.cell 0
          have e60 := x6.cell 0
          have e41 := y4.cell 1
          have e61 := x6.cell 1
          have e42 := y4.cell 2
          have e62 := x6.cell 2
          have e43 := y4.cell 3
          have e63 := x6.cell 3
          have e44 := y4.cell 4
          have e64 := x6.cell 4
          have hQ := x6.lt
          go_wp2_with (go_at_call 46; (with_reducible refine (hasSkills_any _ _ _).mono ?_); rintro e w' ⟨rfl, rfl⟩)
          go_roundw
          case rel => exact ⟨k + 1, f, by omega, by go_num, HN, HB, own6, y4⟩
          case measure => simp [intOf]; omega
      · have HN := Lib.hid (show fastF f (ys.drop (k + 1)) = fastR xs by rw [← HY.out, HD.out, if_neg fun hh => hsk hh.1])
        have hsk' := not_false hsk
        clear hsk
        go_wp2_with (go_at_call 46; (with_reducible refine (hasSkills_any _ _ _).mono ?_); rintro e w' ⟨rfl, rfl⟩)
        go_roundw
        case rel => exact ⟨k + 1, f, by omega, by go_num, HN, HB, own6, y4⟩
        case measure => simp [intOf]; omega
    · obtain rfl : k = ys.length := by omega
      have HE := Lib.hid (show f = fastR xs by have := HY.out; rwa [List.drop_length] at this)
      have e40 := x4.cell 0
      go_wp2
      go_quiet (fail)
      go_wp2
      go_ret2
      exact ⟨by rw [HG.out, ← HE.out]; rfl, by repeat (first | assumption | exact Below.refl _ _ | refine belowN ?_ _ | refine belowD ?_ | (refine Below.setCell ?_ (by first | (simp; done) | (simp; omega) | omega) _) | (refine Below.alloc ?_ (by first | (simp; done) | (simp; omega) | omega) _))⟩
end Go.Proofs.Ytanfblpibomfaaa
