/- The sheets of a weaver, sums of wages and WagesBetween: the walks of the program. Conditions: as they stand. -/
import Derived.Test.YtnpojmaipndpmaaSheets
import Derived.Test.YtnpojmaipndpmaaRestI
import Derived.Deep.CutRange
namespace Go.Proofs.Ytnpojmaipndpmaa
open Go.RowKit

/-- What a call leaves that answers a slice of its own. -/
def OutL {α : Type} (F : Flat α) (w : World) (ys : List α) (e : Ending) (w' : World) : Prop :=
  ∃ A c, e = .returned (.slice A ys.length c) ∧ OwnF F w' w.heap.size (.slice A ys.length c) ys ∧ Below w.heap.size w w'
set_option maxRecDepth 100000 in
set_option maxHeartbeats 4000000 in
theorem sheetsOf_any (A : Option Addr) (n c B : Nat) (xs : List WorkSheetR) (v : Int) (w : World) (h : RdF workSheetF w B A n c xs) (hB : B ≤ w.heap.size) (hn : n ≤ 1000) :
    Calls Try.prog 22 #[.slice A n c, .int .i64 v] w (OutL workSheetF w (ofW xs v)) := by
  obtain rfl := h.len
  go_enter Try.func22, Try.ntmps22
  go_wp2
  go_loopw [10, 5] (fun i l wr => ∃ (k m : Nat) (ys : List WorkSheetR) (A' : Option Addr) (c' : Nat), k ≤ xs.length ∧ i = .int .i64 k ∧ l = .slice A' m c' ∧ Hid (ys.length = m) ∧ m ≤ k ∧ OwnF workSheetF wr w.heap.size (.slice A' m c') ys ∧ Hid (ys ++ (xs.drop k).filter (ownP v) = ofW xs v) ∧ Below w.heap.size w wr) (fun i _ _ => xs.length - (intOf i).toNat)
  case atStart => exact ⟨0, 0, [], none, 0, Nat.zero_le _, rfl, rfl, Lib.hid rfl, Nat.le_refl _, OwnF.nil _ _ _, Lib.hid (by simp [ofW]), Below.refl _ _⟩
  case round =>
    obtain ⟨k, m, ys, A', c', hk, rfl, rfl, HL, hmk, own, HY, hb⟩ := hrel
    have hzz := hb.size
    by_cases hlt : k < xs.length
    · obtain ⟨b, off, a, rfl, hbB, ok, HX, hc0, hc1, hc2, hc3, hc4⟩ := WorkSheetR_at (F := workSheetF) rfl (fun _ => rfl) (fun _ => rfl) (h.all hb hB) hlt
      have HD := Lib.hid (filt_drop (ownP v) HX.out)
      have x7 := Blk.new wr #[.int .i64 a.f0, .int .i64 a.f1, .int .i64 a.f2, .int .i64 a.f3, .int .i64 a.f4] 33
      have own7 := own.alloc (.cells #[.int .i64 a.f0, .int .i64 a.f1, .int .i64 a.f2, .int .i64 a.f3, .int .i64 a.f4] 33)
      have HB := hb.alloc hzz (.cells #[.int .i64 a.f0, .int .i64 a.f1, .int .i64 a.f2, .int .i64 a.f3, .int .i64 a.f4] 33)
      have hz7 : w.heap.size ≤ (wr.alloc (.cells #[.int .i64 a.f0, .int .i64 a.f1, .int .i64 a.f2, .int .i64 a.f3, .int .i64 a.f4] 33)).heap.size := HB.size
      clear hb own
      by_cases hl : a.f0 = v
      · have HN := Lib.hid (show (ys ++ [a]) ++ (xs.drop (k + 1)).filter (ownP v) = ofW xs v by rw [← HY.out, HD.out, if_pos (show ownP v a = true from decide_eq_true hl), List.append_assoc])
        have HLL := Lib.hid hl
        have hl' : (a.f0 == v) = true := by simp [hl]
        clear hl
        go_upto_region 6 with fail
        clear hc0 hc1 hc2 hc3 hc4
        generalize wr.alloc (.cells #[.int .i64 a.f0, .int .i64 a.f1, .int .i64 a.f2, .int .i64 a.f3, .int .i64 a.f4] 33) = W7 at *
        generalize wr.heap.size = P at *
        have e70 := x7.cell 0
        have e71 := x7.cell 1
        have e72 := x7.cell 2
        have e73 := x7.cell 3
        have e74 := x7.cell 4
        have hzP := x7.lt
        go_wp2_with (at_builtin; refine wpList_pushF workSheetF rfl W7 (.tmp 18) (.tmp 20) 24 (.agg #[.int .i64 0, .int .i64 0, .int .i64 0, .int .i64 0, .int .i64 0]) 40 rfl Try.underlying24 info_WorkSheet rfl (by decide) (by decide) w.heap.size m _ ys a #[.int .i64 a.f0, .int .i64 a.f1, .int .i64 a.f2, .int .i64 a.f3, .int .i64 a.f4] rfl ok HL.out rfl rfl own7 (by omega) hz7 ?_)
        intro A2 c2 w8 own8 hg8
        have HB8 := HB.grown hg8 HB.size (fun j hj => (own7.bd j hj).1)
        clear hg8
        go_wp2
        go_roundw
        case rel => exact ⟨k + 1, m + 1, ys ++ [a], A2, c2, by omega, by go_num, rfl, Lib.hid (by rw [List.length_append, HL.out]; rfl), by omega, own8, HN, HB8⟩
        case measure => simp [intOf]; omega
      · have HN := Lib.hid (show ys ++ (xs.drop (k + 1)).filter (ownP v) = ofW xs v by rw [← HY.out, HD.out, if_neg (show ¬ ownP v a = true from fun hh => hl (of_decide_eq_true hh))]; rfl)
        have hl' : (a.f0 == v) = false := by simp [hl]
        clear hl
        go_wp2
        go_roundw
        case rel => exact ⟨k + 1, m, ys, A', c', by omega, by go_num, rfl, HL, by omega, own7, HN, HB⟩
        case measure => simp [intOf]; omega
    · obtain rfl : k = xs.length := by omega
      have HE := Lib.hid (show ys = ofW xs v by have := HY.out; rwa [List.drop_length, List.filter_nil, List.append_nil] at this)
      go_wp2
      go_ret
      exact ⟨A', c', by rw [← HE.out, HL.out]; rfl, by rw [← HE.out, HL.out]; exact own, hb⟩
noncomputable def between14 (r : RatesR) (xs : List WorkSheetR) (v f t : Int) : Int × Bool :=
  if ratesB r = true ∧ sheetsB xs = true ∧ inB v 1 99 = true ∧ inB t 0 4000 = true ∧ inB f 0 t = true then (paid r xs v f t, true) else (0, false)
theorem between_no {r : RatesR} {xs : List WorkSheetR} {v f t : Int} (h : ¬ (ratesB r = true ∧ sheetsB xs = true ∧ inB v 1 99 = true ∧ inB t 0 4000 = true ∧ inB f 0 t = true)) : between14 r xs v f t = (0, false) := if_neg h
theorem between_yes {r : RatesR} {xs : List WorkSheetR} {v f t : Int} (h : ratesB r = true ∧ sheetsB xs = true ∧ inB v 1 99 = true ∧ inB t 0 4000 = true ∧ inB f 0 t = true) : between14 r xs v f t = (paid r xs v f t, true) := if_pos h
end Go.Proofs.Ytnpojmaipndpmaa
