/- BestDayOf: the walks, both texts. No condition. -/
import Derived.Test.YtnpojmaipndpmaaBest14M
import Derived.Test.YtnpojmaipndpmaaSheetsS
import Derived.OwnWalk
namespace Go.Proofs.Ytnpojmaipndpmaa
open Go.RowKit

noncomputable def bestDay14 (xs : List WorkSheetR) (v : Int) : Int × Bool := if sheetsB xs = true then (match bestS (ofW xs v) with | some m => (m.f1, true) | none => (0, false)) else (0, false)
theorem bestDay_no {xs : List WorkSheetR} {v : Int} (h : ¬ sheetsB xs = true) : bestDay14 xs v = (0, false) := if_neg h
theorem bestDay_none {xs : List WorkSheetR} {v : Int} (h : sheetsB xs = true) (hb : bestS (ofW xs v) = none) : bestDay14 xs v = (0, false) := by
  unfold bestDay14
  rw [if_pos h, hb]
theorem bestDay_some {xs : List WorkSheetR} {v : Int} {m : WorkSheetR} (h : sheetsB xs = true) (hb : bestS (ofW xs v) = some m) : bestDay14 xs v = (m.f1, true) := by
  unfold bestDay14
  rw [if_pos h, hb]
set_option maxRecDepth 100000 in
set_option maxHeartbeats 4000000 in
theorem implBestDayOf_any (A : Option Addr) (n c B : Nat) (xs : List WorkSheetR) (v : Int) (w : World) (h : RdF workSheetF w B A n c xs) (hB : B ≤ w.heap.size) :
    Calls Try.prog 12 #[.slice A n c, .int .i64 v] w (Out w (.tuple #[.int .i64 (bestDay14 xs v).1, .bool (bestDay14 xs v).2])) := by
  obtain rfl := h.len
  by_cases hg : sheetsB xs = true
  rotate_left
  · have hg' := not_false hg
    rw [bestDay_no hg]
    go_enter Try.func12, Try.ntmps12
    go_wp2_with fail
    refine (implAreSheets_eq A _ c B xs _ _ h hB hg').mono ?_
    rintro e w1 ⟨rfl, hb⟩
    go_wp2
    go_ret2
    exact ⟨rfl, hb⟩
  have h12 := (sheetsB_of hg).1
  have HA2 := Lib.hid (allS_filter (sheets_all hg) (ownP v))
  have hlen := ofW_len xs v
  cases hbs : bestS (ofW xs v) with
  | none =>
    rw [bestDay_none hg hbs]
    have hnil : ofW xs v = [] := by
      cases hx : ofW xs v with
      | nil => rfl
      | cons a t =>
        obtain ⟨m, hm⟩ := bestS_some (ofW xs v) none (Or.inl (by rw [hx]; simp))
        unfold bestS at hbs
        rw [hm] at hbs
        cases hbs
    go_enter Try.func12, Try.ntmps12
    go_wp2_with fail
    refine (implAreSheets_eq A _ c B xs _ _ h hB hg).mono ?_
    rintro e w1 ⟨rfl, hb⟩
    go_wp2_with fail
    refine (sheetsOf_any A _ c B xs v _ (h.all hb hB) (Nat.le_trans hB hb.size) (by omega)).mono ?_
    rintro e w2 ⟨A2, c2, rfl, own2, hb2⟩
    rw [hnil]
    go_wp2
    go_ret2
    exact ⟨rfl, hb.trans (hb2.mono hb.size)⟩
  | some m =>
    rw [bestDay_some hg hbs]
    have hpos : 0 < (ofW xs v).length := by
      cases hx : ofW xs v with
      | nil => rw [hx] at hbs; cases hbs
      | cons a t => simp
    have HBS := Lib.hid hbs
    rw [show xs.filter (ownP v) = ofW xs v from rfl] at HA2
    clear hbs
    go_enter Try.func12, Try.ntmps12
    go_wp2_with fail
    refine (implAreSheets_eq A _ c B xs _ _ h hB hg).mono ?_
    rintro e w1 ⟨rfl, hb⟩
    go_wp2_with fail
    refine (sheetsOf_any A _ c B xs v _ (h.all hb hB) (Nat.le_trans hB hb.size) (by omega)).mono ?_
    rintro e w2 ⟨A2, c2, rfl, own2, hb2⟩
    have HB := hb.trans (hb2.mono hb.size)
    generalize ofW xs v = ys at *
    obtain ⟨g, rfl, _, _⟩ := own2.some_ hpos
    have hne : ((ys.length : Int) == 0) = false := by simp; intro h0; rw [h0] at hpos; simp at hpos
    have hO := own2.rd
    clear own2 hb hb2
    have hz2 := HB.size
    go_wp2_with fail
    refine (maxRight_any g 0 _ c2 _ ys _ hO (Nat.le_refl _) hpos (by omega) HA2.out m HBS.out).mono ?_
    rintro e w3 ⟨rfl, hb3⟩
    have HB3 := HB.trans (hb3.mono hz2)
    have x7 := Blk.new w3 #[.int .i64 m.f0, .int .i64 m.f1, .int .i64 m.f2, .int .i64 m.f3, .int .i64 m.f4] 33
    have e71 := x7.cell 1
    have HB4 := HB3.alloc HB3.size (.cells #[.int .i64 m.f0, .int .i64 m.f1, .int .i64 m.f2, .int .i64 m.f3, .int .i64 m.f4] 33)
    go_wp2
    go_ret2
    exact ⟨rfl, HB4⟩
/-- Where the model's search stands. -/
def DayAt (xs : List WorkSheetR) (v : Int) (k : Nat) (d q : Int) : Prop :=
  (d = 0 ∧ q = -1 ∧ bestS (ofW (xs.take k) v) = none) ∨ ∃ m, d = m.f1 ∧ q = m.f2 - m.f3 ∧ 0 ≤ q ∧ bestS (ofW (xs.take k) v) = some m
theorem ofW_take {xs : List WorkSheetR} {k : Nat} {a : WorkSheetR} (ha : xs[k]? = some a) (v : Int) : ofW (xs.take (k + 1)) v = ofW (xs.take k) v ++ (if ownP v a = true then [a] else []) := by
  unfold ofW
  rw [take_more ha, List.filter_append, List.filter_cons]
  split <;> rfl
theorem dayAt_no {xs : List WorkSheetR} {v : Int} {k : Nat} {d q : Int} {a : WorkSheetR} (h : DayAt xs v k d q) (ha : xs[k]? = some a) (hn : ¬ a.f0 = v) : DayAt xs v (k + 1) d q := by
  unfold DayAt at *
  rw [ofW_take ha, if_neg (show ¬ ownP v a = true by simp [ownP, hn]), List.append_nil]
  exact h
theorem dayAt_up {xs : List WorkSheetR} {v : Int} {k : Nat} {d q : Int} {a : WorkSheetR} (h : DayAt xs v k d q) (ha : xs[k]? = some a) (hn : a.f0 = v) (hk : Knotty a) (hq : q < a.f2 - a.f3) : DayAt xs v (k + 1) a.f1 (a.f2 - a.f3) := by
  obtain ⟨⟨k0, k1⟩, ⟨x0, x1⟩, _⟩ := hk
  refine .inr ⟨a, rfl, rfl, by omega, ?_⟩
  rw [ofW_take ha, if_pos (show ownP v a = true by simp [ownP, hn])]
  rcases h with ⟨_, _, h3⟩ | ⟨m, _, h2, _, h3⟩
  · exact best_first h3
  · exact best_turn h3 (decide_eq_true (by omega))
theorem dayAt_stay {xs : List WorkSheetR} {v : Int} {k : Nat} {d q : Int} {a : WorkSheetR} (h : DayAt xs v k d q) (ha : xs[k]? = some a) (hn : a.f0 = v) (hk : Knotty a) (hq : ¬ q < a.f2 - a.f3) : DayAt xs v (k + 1) d q := by
  obtain ⟨⟨k0, k1⟩, ⟨x0, x1⟩, _⟩ := hk
  rcases h with ⟨_, h2, h3⟩ | ⟨m, h1, h2, h4, h3⟩
  · omega
  · refine .inr ⟨m, h1, h2, h4, ?_⟩
    rw [ofW_take ha, if_pos (show ownP v a = true by simp [ownP, hn])]
    exact best_stay h3 (decide_eq_false (by omega))
theorem dayAt_end {xs : List WorkSheetR} {v d q : Int} (hg : sheetsB xs = true) (h : DayAt xs v xs.length d q) : bestDay14 xs v = (d, decide (0 ≤ q)) := by
  unfold DayAt at h
  rw [List.take_length] at h
  rcases h with ⟨h1, h2, h3⟩ | ⟨m, h1, h2, h4, h3⟩
  · rw [bestDay_none hg h3, h1, h2]; rfl
  · rw [bestDay_some hg h3, h1, decide_eq_true h4]
set_option maxRecDepth 100000 in
set_option maxHeartbeats 4000000 in
theorem specBestDayOf_any (A : Option Addr) (n c B : Nat) (xs : List WorkSheetR) (v : Int) (w : World) (h : RdF workSheetF w B A n c xs) (hB : B ≤ w.heap.size) :
    Calls Try.prog 13 #[.slice A n c, .int .i64 v] w (Out w (.tuple #[.int .i64 (bestDay14 xs v).1, .bool (bestDay14 xs v).2])) := by
  obtain rfl := h.len
  by_cases hg : sheetsB xs = true
  rotate_left
  · have hg' := not_false hg
    rw [bestDay_no hg]
    go_enter Try.func13, Try.ntmps13
    go_wp2_with fail
    refine (l14Good_eq A _ c B xs _ _ h hB hg').mono ?_
    rintro e w1 ⟨rfl, hb⟩
    go_wp2
    go_ret2
    exact ⟨rfl, hb⟩
  have h12 := (sheetsB_of hg).1
  have HA := Lib.hid (sheets_all hg)
  have HEND := Lib.hid (fun d q (hh : DayAt xs v xs.length d q) => dayAt_end hg hh)
  go_enter Try.func13, Try.ntmps13
  go_wp2_with fail
  refine (l14Good_eq A _ c B xs _ _ h hB hg).mono ?_
  rintro e w1 ⟨rfl, hb⟩
  go_wp2
  go_loopw [8, 6, 7] (fun i s6 s7 wr => ∃ (k : Nat) (d q : Int), k ≤ xs.length ∧ i = .int .i64 k ∧ s6 = .int .i64 d ∧ s7 = .int .i64 q ∧ Hid (DayAt xs v k d q) ∧ Below w.heap.size w wr) (fun i _ _ _ => xs.length - (intOf i).toNat)
  case atStart => exact ⟨0, 0, -1, Nat.zero_le _, rfl, rfl, rfl, Lib.hid (.inl ⟨rfl, rfl, rfl⟩), hb⟩
  case round =>
    obtain ⟨k, d, q, hk, rfl, rfl, rfl, HD, hb⟩ := hrel
    have hki : (0 : Int) ≤ (k : Int) := by omega
    by_cases hlt : k < xs.length
    · obtain ⟨b, off, a, rfl, hbB, ok, HX, hc0, hc1, hc2, hc3, hc4⟩ := WorkSheetR_at (F := workSheetF) rfl (fun _ => rfl) (fun _ => rfl) (h.all hb hB) hlt
      have hkn : (k : Int) < (xs.length : Int) := by omega
      have HK := Lib.hid (sheet_knotty (allS_at HA.out HX.out))
      obtain ⟨⟨k0, k1⟩, ⟨x0, x1⟩, _⟩ := HK.out
      have gs : IntKind.i64.wrap (a.f2 - a.f3) = a.f2 - a.f3 := IntWalk.i64_in _ (by omega)
      by_cases hn : a.f0 = v
      rotate_left
      · have HN := Lib.hid (dayAt_no HD.out HX.out hn)
        have hn' : (a.f0 == v) = false := by simp [hn]
        clear hn
        go_wp2
        go_quiet (fail)
        go_wp2
        go_roundw
        case rel => exact ⟨k + 1, d, q, by omega, by go_num, rfl, rfl, HN, belowN hb _⟩
        case measure => simp [intOf]; omega
      have hn' : (a.f0 == v) = true := by simp [hn]
      by_cases hq : q < a.f2 - a.f3
      · have HN := Lib.hid (dayAt_up HD.out HX.out hn HK.out hq)
        clear hn
        obtain ⟨u, hu⟩ : ∃ u, a.f2 - a.f3 = u := ⟨_, rfl⟩
        rw [hu] at HN hq gs
        have HU := Lib.hid hu
        go_wp2
        go_quiet (fail)
        go_wp2
        go_roundw
        case rel => exact ⟨k + 1, a.f1, u, by omega, by go_num, by first | rfl | trivial, by first | rfl | trivial, HN, belowN hb _⟩
        case measure => simp [intOf]; omega
      · have HN := Lib.hid (dayAt_stay HD.out HX.out hn HK.out hq)
        clear hn
        obtain ⟨u, hu⟩ : ∃ u, a.f2 - a.f3 = u := ⟨_, rfl⟩
        rw [hu] at hq gs
        have hd : decide (q < u) = false := decide_eq_false hq
        go_wp2
        go_quiet (fail)
        go_wp2
        go_roundw
        case rel => exact ⟨k + 1, d, q, by omega, by go_num, by first | rfl | trivial, by first | rfl | trivial, HN, belowN hb _⟩
        case measure => simp [intOf]; omega
    · obtain rfl : k = xs.length := by omega
      have HE := Lib.hid (HEND.out d q HD.out)
      go_wp2
      go_ret2
      rw [HE.out]
      exact ⟨rfl, hb⟩
end Go.Proofs.Ytnpojmaipndpmaa
