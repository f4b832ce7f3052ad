/- The walks that look for a loom in a list, both texts. No condition. -/
import Derived.Test.YtoeognlfalbfkaaLooms
import Derived.Test.YtoeognlfalbfkaaShelf
namespace Go.Proofs.Ytoeognlfalbfkaa
open Go.RowKit

/-- The library's look into a row of numbers. -/
theorem contains_any (st : List Int) (q m : Nat) (x : Int) (w : World) (hq : Blk w q 3 (st.map (Value.int .i64)).toArray) (hm : st.length = m) (hm2 : m ≤ 100) :
    Calls Try.prog 58 #[.slice (some ⟨q, 0, none⟩) m m, .int .i64 x] w fun e w' => e = .returned (.bool (st.contains x)) ∧ w = w' := by
  refine (Try.slices_Contains_int q 0 m m st x w (by omega) (by omega) (fun j hj => ?_)).mono ?_
  · rw [Nat.zero_add, hq.cell]
    simp [hj, List.getD_eq_getElem?_getD]
  · rintro e w' ⟨rfl, rfl⟩
    rw [List.take_of_length_le (by omega)]
    exact ⟨rfl, rfl⟩
theorem contains_eq (st : List Int) (q m : Nat) (x : Int) (v : Bool) (w : World) (hq : Blk w q 3 (st.map (Value.int .i64)).toArray) (hm : st.length = m) (hm2 : m ≤ 100) (hv : st.contains x = v) :
    Calls Try.prog 58 #[.slice (some ⟨q, 0, none⟩) m m, .int .i64 x] w fun e w' => e = .returned (.bool v) ∧ w = w' := hv ▸ contains_any st q m x w hq hm hm2
set_option maxRecDepth 100000 in
set_option maxHeartbeats 4000000 in
theorem loomIn_any (A : Option Addr) (n c B : Nat) (xs : List LoomR) (id : Int) (st : List Int) (q m : Nat) (w : World) (h : RdF loomF w B A n c xs) (hB : B ≤ w.heap.size)
    (hq : Blk w q 3 (st.map (Value.int .i64)).toArray) (hm : st.length = m) (hm2 : m ≤ 100) :
    Calls Try.prog 38 #[.slice A n c, .int .i64 id, .slice (some ⟨q, 0, none⟩) m m] w (Out w (.tuple #[.agg #[.int .i64 (lookR xs id st).f0, .int .i64 (lookR xs id st).f1, .int .i64 (lookR xs id st).f2, .int .i64 (lookR xs id st).f3, .int .i64 (lookR xs id st).f4], .bool (lookB xs id st)])) := by
  have hn := h.len_lt
  have hcap := h.cap
  obtain rfl := h.len
  have y6 := Blk.new w #[.int .i64 0, .int .i64 0, .int .i64 0, .int .i64 0, .int .i64 0] 37
  have HB : Below w.heap.size w (w.alloc (.cells #[.int .i64 0, .int .i64 0, .int .i64 0, .int .i64 0, .int .i64 0] 37)) := (Below.refl _ _).alloc (Nat.le_refl _) _
  have hR := h.alloc hB (.cells #[.int .i64 0, .int .i64 0, .int .i64 0, .int .i64 0, .int .i64 0] 37)
  replace hq := hq.alloc (.cells #[.int .i64 0, .int .i64 0, .int .i64 0, .int .i64 0, .int .i64 0] 37)
  have HM := Lib.hid hm
  clear hm
  by_cases hg : loomsB xs = true
  rotate_left
  · have hg' := not_false hg
    have H := Lib.hid (lookR_none (look_bad (id := id) (st := st) hg'))
    go_enter Try.func38, Try.ntmps38
    go_wp2_with fail
    refine (implAreLooms_any A _ c B xs _ hR (by simp; omega)).mono ?_
    rintro e w1 ⟨rfl, hb⟩
    replace y6 := y6.all hb
    replace HB := HB.trans (hb.mono HB.size)
    clear hb
    have e60 := y6.cell 0
    have f60 := y6.frozen 0
    have e61 := y6.cell 1
    have f61 := y6.frozen 1
    have e62 := y6.cell 2
    have f62 := y6.frozen 2
    have e63 := y6.cell 3
    have f63 := y6.frozen 3
    have e64 := y6.cell 4
    have f64 := y6.frozen 4
    go_wp2
    refine bodyPost_ret (v := .tuple #[.agg #[.int .i64 0, .int .i64 0, .int .i64 0, .int .i64 0, .int .i64 0], .bool false]) (by simp [results, Try.results38, go_sem, *]) rfl ⟨by rw [H.out.1, H.out.2]; first | rfl | done, by repeat (first | assumption | exact Below.refl _ _ | refine belowN ?_ _ | refine belowD ?_ | (refine Below.setCell ?_ (by first | (simp; done) | (simp; omega) | omega) _) | (refine Below.alloc ?_ (by first | (simp; done) | (simp; omega) | omega) _))⟩
  have HG := Lib.hid (look_seek (xs := xs) (id := id) (st := st) hg)
  go_enter Try.func38, Try.ntmps38
  go_wp2_with fail
  refine (implAreLooms_any A _ c B xs _ hR (by simp; omega)).mono ?_
  rintro e w1 ⟨rfl, hb⟩
  replace y6 := y6.all hb
  replace hq := hq.all hb
  replace HB := HB.trans (hb.mono HB.size)
  clear hb hR
  go_wp2
  go_loopw [16, 7] (fun i r wr => ∃ k : Nat, k ≤ xs.length ∧ i = .int .i64 k ∧ r = .bool false ∧ NoneTo (isAt id st) xs k ∧ Below w.heap.size w wr ∧ Blk wr w.heap.size 37 #[.int .i64 0, .int .i64 0, .int .i64 0, .int .i64 0, .int .i64 0] ∧ Blk wr q 3 (st.map (Value.int .i64)).toArray) (fun i _ _ => xs.length - (intOf i).toNat)
  case atStart => exact ⟨0, Nat.zero_le _, rfl, rfl, noneTo_zero _ _, HB, y6, hq⟩
  case round =>
    obtain ⟨k, hk, rfl, rfl, hct, HB, y6, hq⟩ := hrel
    have HC := Lib.hid hct
    have hzz := HB.size
    clear hct
    by_cases hlt : k < xs.length
    · obtain ⟨b, off, a, rfl, hbB, ha, HX, hc0, hc1, hc2, hc3, hc4⟩ := LoomR_at (F := loomF) rfl (fun _ => rfl) (fun _ => rfl) (h.below HB hB) hlt
      have x9 := Blk.new wr #[.int .i64 a.f0, .int .i64 a.f1, .int .i64 a.f2, .int .i64 a.f3, .int .i64 a.f4] 37
      have hz6 : w.heap.size < wr.heap.size := y6.lt
      replace HB := HB.alloc hzz (.cells #[.int .i64 a.f0, .int .i64 a.f1, .int .i64 a.f2, .int .i64 a.f3, .int .i64 a.f4] 37)
      replace y6 := y6.alloc (.cells #[.int .i64 a.f0, .int .i64 a.f1, .int .i64 a.f2, .int .i64 a.f3, .int .i64 a.f4] 37)
      replace hq := hq.alloc (.cells #[.int .i64 a.f0, .int .i64 a.f1, .int .i64 a.f2, .int .i64 a.f3, .int .i64 a.f4] 37)
      by_cases hid : a.f0 = id
      · subst hid
        go_wp2_with fail
        clear hc0 hc1 hc2 hc3 hc4
        generalize wr.alloc (.cells #[.int .i64 a.f0, .int .i64 a.f1, .int .i64 a.f2, .int .i64 a.f3, .int .i64 a.f4] 37) = W4 at *
        generalize wr.heap.size = P at *
        obtain ⟨v, hv⟩ : ∃ v, st.contains a.f4 = v := ⟨_, rfl⟩
        have HV := Lib.hid hv
        refine (contains_eq st q m _ v _ hq HM.out hm2 hv).mono ?_
        rintro e w2 ⟨rfl, rfl⟩
        clear hv
        cases v
        case true =>
          have H := Lib.hid (lookR_some (HG.out.trans (seek_some HX.out ((isAt_eq rfl).trans HV.out) HC.out)))
          have e60 := y6.cell 0
          have f60 := y6.frozen 0
          have e61 := y6.cell 1
          have f61 := y6.frozen 1
          have e62 := y6.cell 2
          have f62 := y6.frozen 2
          have e63 := y6.cell 3
          have f63 := y6.frozen 3
          have e64 := y6.cell 4
          have f64 := y6.frozen 4
          have e90 := x9.cell 0
          have e91 := x9.cell 1
          have e92 := x9.cell 2
          have e93 := x9.cell 3
          have e94 := x9.cell 4
          go_wp2
          refine bodyPost_ret (v := .tuple #[.agg #[.int .i64 a.f0, .int .i64 a.f1, .int .i64 a.f2, .int .i64 a.f3, .int .i64 a.f4], .bool true]) (by simp [results, Try.results38, go_sem, *]) rfl ⟨by rw [H.out.1, H.out.2]; first | rfl | done, by repeat (first | assumption | exact Below.refl _ _ | refine belowN ?_ _ | refine belowD ?_ | (refine Below.setCell ?_ (by first | (simp; done) | (simp; omega) | omega) _) | (refine Below.alloc ?_ (by first | (simp; done) | (simp; omega) | omega) _))⟩
        case false =>
          have H := Lib.hid (noneTo_step HC.out HX.out ((isAt_eq rfl).trans HV.out))
          go_wp2
          go_roundw
          case rel => exact ⟨k + 1, by omega, by go_num, rfl, H.out, HB, y6, hq⟩
          case measure => simp [intOf]; omega
      · have hid' : (a.f0 == id) = false := by simp [hid]
        have H := Lib.hid (noneTo_step HC.out HX.out (isAt_id (st := st) hid))
        clear hid
        go_wp2
        go_roundw
        case rel => exact ⟨k + 1, by omega, by go_num, rfl, H.out, HB, y6, hq⟩
        case measure => simp [intOf]; omega
    · obtain rfl : k = xs.length := by omega
      have H := Lib.hid (lookR_none (HG.out.trans (seek_none HC.out)))
      have e60 := y6.cell 0
      have f60 := y6.frozen 0
      have e61 := y6.cell 1
      have f61 := y6.frozen 1
      have e62 := y6.cell 2
      have f62 := y6.frozen 2
      have e63 := y6.cell 3
      have f63 := y6.frozen 3
      have e64 := y6.cell 4
      have f64 := y6.frozen 4
      go_wp2
      refine bodyPost_ret (v := .tuple #[.agg #[.int .i64 0, .int .i64 0, .int .i64 0, .int .i64 0, .int .i64 0], .bool false]) (by simp [results, Try.results38, go_sem, *]) rfl ⟨by rw [H.out.1, H.out.2]; first | rfl | done, by repeat (first | assumption | exact Below.refl _ _ | refine belowN ?_ _ | refine belowD ?_ | (refine Below.setCell ?_ (by first | (simp; done) | (simp; omega) | omega) _) | (refine Below.alloc ?_ (by first | (simp; done) | (simp; omega) | omega) _))⟩

set_option maxRecDepth 100000 in
set_option maxHeartbeats 4000000 in
theorem l5Find_any (A : Option Addr) (n c B : Nat) (xs : List LoomR) (id p q : Int) (w : World) (h : RdF loomF w B A n c xs) (hB : B ≤ w.heap.size) :
    Calls Try.prog 42 #[.slice A n c, .int .i64 id, .int .i64 p, .int .i64 q] w (Out w (.int .i64 (placeI (look xs id [p, q])))) := by
  have hn := h.len_lt
  have hcap := h.cap
  obtain rfl := h.len
  go_enter Try.func42, Try.ntmps42
  go_wp2
  go_loopw [9, 8] (fun i r wr => ∃ k : Nat, k ≤ xs.length ∧ i = .int .i64 k ∧ r = .int .i64 0 ∧ NoneTo (isAt id [p, q]) xs k ∧ Below w.heap.size w wr) (fun i _ _ => xs.length - (intOf i).toNat)
  case atStart => exact ⟨0, Nat.zero_le _, rfl, rfl, noneTo_zero _ _, Below.refl _ _⟩
  case round =>
    obtain ⟨k, hk, rfl, rfl, hct, HB⟩ := hrel
    have HC := Lib.hid hct
    have hzz := HB.size
    clear hct
    by_cases hlt : k < xs.length
    · have hR := h.below HB hB
      by_cases hg : loomsB xs = true
      · have HG := Lib.hid (look_seek (xs := xs) (id := id) (st := [p, q]) hg)
        go_wp2_with fail
        refine (l5Good_any A _ c B xs _ hR (by omega)).mono ?_
        rintro e w1 ⟨rfl, hb⟩
        replace hR := hR.all hb (by omega)
        replace HB := HB.trans (hb.mono HB.size)
        clear hb
        obtain ⟨b, off, a, rfl, hbB, ha, HX, hc0, hc1, hc2, hc3, hc4⟩ := LoomR_at (F := loomF) rfl (fun _ => rfl) (fun _ => rfl) hR hlt
        clear hc1 hc2 hc3
        by_cases hid : a.f0 = id
        · subst hid
          by_cases s1 : a.f4 = p
          · subst s1
            have H := Lib.hid (HG.out.trans (seek_some HX.out ((isAt_eq rfl).trans (by simp)) HC.out))
            go_wp2
            go_ret
            exact ⟨ret_int (by rw [H.out]; rfl), HB⟩
          · have s1' : (a.f4 == p) = false := by simp [s1]
            by_cases s2 : a.f4 = q
            · subst s2
              have H := Lib.hid (HG.out.trans (seek_some HX.out ((isAt_eq rfl).trans (by simp)) HC.out))
              clear s1
              go_wp2
              go_ret
              exact ⟨ret_int (by rw [H.out]; rfl), HB⟩
            · have s2' : (a.f4 == q) = false := by simp [s2]
              have H := Lib.hid (noneTo_step HC.out HX.out ((isAt_eq (st := [p, q]) rfl).trans (by simp [s1, s2])))
              clear s1 s2
              go_wp2
              go_roundw
              case rel => exact ⟨k + 1, by omega, by go_num, rfl, H.out, HB⟩
              case measure => simp [intOf]; omega
        · have hid' : (a.f0 == id) = false := by simp [hid]
          have H := Lib.hid (noneTo_step HC.out HX.out (isAt_id (st := [p, q]) hid))
          clear hid
          go_wp2
          go_roundw
          case rel => exact ⟨k + 1, by omega, by go_num, rfl, H.out, HB⟩
          case measure => simp [intOf]; omega
      · have hg' := not_false hg
        have H := Lib.hid (look_bad (id := id) (st := [p, q]) hg')
        go_wp2_with fail
        refine (l5Good_any A _ c B xs _ hR (by omega)).mono ?_
        rintro e w1 ⟨rfl, hb⟩
        replace HB := HB.trans (hb.mono HB.size)
        clear hb
        go_wp2
        go_ret
        exact ⟨ret_int (by rw [H.out]; rfl), HB⟩
    · obtain rfl : k = xs.length := by omega
      have H := Lib.hid (show placeI (look xs id [p, q]) = -1 by
        unfold look
        split
        · rw [seek_none HC.out]; rfl
        · rfl)
      go_wp2
      go_ret
      exact ⟨ret_int H.out.symm, HB⟩
end Go.Proofs.Ytoeognlfalbfkaa
