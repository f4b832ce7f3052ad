/- The walks that look for a weaver in a list, both texts. No condition. -/
import Derived.Test.YtanfblpibomfaaaKnots11
namespace Go.Proofs.Ytanfblpibomfaaa
open Go.RowKit

set_option maxRecDepth 100000 in
set_option maxHeartbeats 400000 in
theorem hasId_any (a : WeaverR) (q : Nat) (id : Int) (w : World) (v : Bool) (h0 : w.cell? ⟨q, 0, none⟩ = some (.int .i64 id)) (hq : q < w.heap.size) (hv : hasId id a = v) :
    Calls Try.prog 69 #[.agg #[.int .i64 a.f0, .string a.f1, .int .i64 a.f2, .int .i64 a.f3, .int .i64 a.f4], .pointer (some ⟨q, 0, none⟩)] w (Tells w v) := by
  have hb0 := Lib.hid (show Below w.heap.size w (w.alloc (.cells #[.int .i64 a.f0, .string a.f1, .int .i64 a.f2, .int .i64 a.f3, .int .i64 a.f4] 40)) from (Below.refl _ _).alloc (Nat.le_refl _) _)
  have HV := Lib.hid (show (a.f0 == id) = v by rw [← hv, hasId]; by_cases h : a.f0 = id <;> simp [h])
  clear hv
  go_enter Try.func69, Try.ntmps69
  go_wp2
  go_ret
  exact ⟨ret_bool HV.out, hb0.out⟩
set_option maxRecDepth 100000 in
set_option maxHeartbeats 2000000 in
theorem indexFind_any (A : Option Addr) (n c B q : Nat) (xs : List WeaverR) (id : Int) (w : World) (h : RdF weaverF w B A n c xs) (hB : B ≤ w.heap.size) (h0 : w.cell? ⟨q, 0, none⟩ = some (.int .i64 id)) (hq : q < w.heap.size) :
    Calls Try.prog 68 #[.slice A n c, .func (.func 69) #[] #[.pointer (some ⟨q, 0, none⟩)]] w (Out w (.int .i64 (placeI (sk11 xs id)))) := by
  have hn := h.len_lt
  obtain rfl := h.len
  go_enter Try.func68, Try.ntmps68
  go_wp2
  go_loopw [8] (fun i wr => ∃ k : Nat, k ≤ xs.length ∧ i = .int .i64 k ∧ Hid (NoneTo (hasId id) xs k) ∧ Below w.heap.size w wr) (fun i _ => xs.length - (intOf i).toNat)
  case atStart => exact ⟨0, Nat.zero_le _, rfl, Lib.hid (noneTo_zero _ _), Below.refl _ _⟩
  case round =>
    obtain ⟨k, hk, rfl, HN, hb⟩ := hrel
    have hzz := hb.size
    by_cases hlt : k < xs.length
    · obtain ⟨b, off, a, rfl, hbB, ok, HX, hc0, hc1, hc2, hc3, hc4⟩ := WeaverR_at (F := weaverF) rfl (fun _ => rfl) (fun _ => rfl) (h.below hb hB) hlt
      have hq1 := (hb.cell (p := ⟨q, 0, none⟩) hq).trans h0
      have hq2 : q < wr.heap.size := Nat.lt_of_lt_of_le hq hzz
      cases hv : hasId id a with
      | true =>
        have HS := Lib.hid (seek_some HX.out hv HN.out)
        have HV := Lib.hid hv
        clear hv
        go_wp2_with (go_at_call 69; refine (hasId_any a q id _ true hq1 hq2 HV.out).mono ?_; rintro e w2 ⟨rfl, hb2⟩)
        go_ret
        exact ⟨by rw [show sk11 xs id = some (k, a) from HS.out]; rfl, hb.trans (hb2.mono hzz)⟩
      | false =>
        have HS := Lib.hid (noneTo_step HN.out HX.out hv)
        have HV := Lib.hid hv
        clear hv
        go_wp2_with (go_at_call 69; refine (hasId_any a q id _ false hq1 hq2 HV.out).mono ?_; rintro e w2 ⟨rfl, hb2⟩)
        go_roundw
        case rel => exact ⟨k + 1, by omega, by go_num, HS, hb.trans (hb2.mono hzz)⟩
        case measure => simp [intOf]; omega
    · obtain rfl : k = xs.length := by omega
      have HS := Lib.hid (seek_none HN.out)
      go_wp2
      go_ret
      exact ⟨by rw [show sk11 xs id = none from HS.out]; rfl, hb⟩
set_option maxRecDepth 100000 in
set_option maxHeartbeats 1000000 in
theorem weaverWith_any (A : Option Addr) (n c B : Nat) (xs : List WeaverR) (id : Int) (w : World) (h : RdF weaverF w B A n c xs) (hB : B ≤ w.heap.size) :
    Calls Try.prog 48 #[.slice A n c, .int .i64 id] w (Out w (.int .i64 (placeI (find11 xs id)))) := by
  have x3 := Blk.new w #[.int .i64 id] 3
  have hb0 : Below w.heap.size w (w.alloc (.cells #[.int .i64 id] 3)) := (Below.refl _ _).alloc (Nat.le_refl _) _
  have hR := h.alloc hB (.cells #[.int .i64 id] 3)
  have hB0 : B ≤ (w.alloc (.cells #[.int .i64 id] 3)).heap.size := by simp; omega
  by_cases hg : weaversB xs = true
  rotate_left
  · have hg' := not_false hg
    have HF := Lib.hid (find11_bad (id := id) hg')
    go_enter Try.func48, Try.ntmps48
    go_wp2_with (go_at_call 14; refine (implAreWeavers_eq A n c B xs _ _ hR hB0 hg').mono ?_; rintro e w1 ⟨rfl, hb⟩)
    go_ret
    exact ⟨by rw [HF.out]; rfl, hb0.trans (hb.mono hb0.size)⟩
  have HF := Lib.hid (find11_good (id := id) hg)
  go_enter Try.func48, Try.ntmps48
  go_wp2_with (go_at_call 14; refine (implAreWeavers_eq A n c B xs _ _ hR hB0 hg).mono ?_; rintro e w1 ⟨rfl, hb⟩)
  have y3 := (x3.all hb).cell 0
  have hz3 := (x3.all hb).lt
  have HB1 := hb0.trans (hb.mono hb0.size)
  have hR1 := hR.all hb hB0
  have hB1 : B ≤ w1.heap.size := Nat.le_trans hB0 hb.size
  clear x3 hR hb
  refine (indexFind_any A n c B w.heap.size xs id _ hR1 hB1 y3 hz3).mono ?_
  rintro e w2 ⟨rfl, hb⟩
  go_wp2
  go_ret
  exact ⟨by rw [HF.out]; rfl, HB1.trans (hb.mono HB1.size)⟩
theorem weaverWith_eq (A : Option Addr) (n c B : Nat) (xs : List WeaverR) (id : Int) (w : World) (v : Int) (h : RdF weaverF w B A n c xs) (hB : B ≤ w.heap.size) (hv : placeI (find11 xs id) = v) :
    Calls Try.prog 48 #[.slice A n c, .int .i64 id] w (Out w (.int .i64 v)) := hv ▸ weaverWith_any A n c B xs id w h hB
set_option maxRecDepth 100000 in
set_option maxHeartbeats 1000000 in
theorem l11Find_any (A : Option Addr) (n c B : Nat) (xs : List WeaverR) (id : Int) (w : World) (h : RdF weaverF w B A n c xs) :
    Calls Try.prog 50 #[.slice A n c, .int .i64 id] w fun e w' => e = .returned (.int .i64 (placeI (sk11 xs id))) ∧ w = w' := by
  have hn := h.len_lt
  obtain rfl := h.len
  go_enter Try.func50, Try.ntmps50
  go_wp2
  go_loopw [5, 4] (fun i r wr => ∃ k : Nat, k ≤ xs.length ∧ i = .int .i64 k ∧ r = .int .i64 0 ∧ Hid (NoneTo (hasId id) xs k) ∧ wr = w) (fun i _ _ => xs.length - (intOf i).toNat)
  case atStart => exact ⟨0, Nat.zero_le _, rfl, rfl, Lib.hid (noneTo_zero _ _), rfl⟩
  case round =>
    obtain ⟨k, hk, rfl, rfl, HN, hw⟩ := hrel
    subst hw
    by_cases hlt : k < xs.length
    · obtain ⟨b, off, a, rfl, hbB, ok, HX, hc0, hc1, hc2, hc3, hc4⟩ := WeaverR_at (F := weaverF) rfl (fun _ => rfl) (fun _ => rfl) h hlt
      by_cases hid : a.f0 = id
      · have HS := Lib.hid (seek_some HX.out (show hasId id a = true from decide_eq_true hid) HN.out)
        have hid' : (a.f0 == id) = true := by simp [hid]
        clear hid
        go_wp2
        go_ret
        exact ⟨by rw [show sk11 xs id = some (k, a) from HS.out]; rfl, rfl⟩
      · have HS := Lib.hid (noneTo_step HN.out HX.out (show hasId id a = false from decide_eq_false hid))
        have hid' : (a.f0 == id) = false := by simp [hid]
        clear hid
        go_wp2
        go_roundw
        case rel => exact ⟨k + 1, by omega, by go_num, rfl, HS, by first | rfl | trivial⟩
        case measure => simp [intOf]; omega
    · obtain rfl : k = xs.length := by omega
      have HS := Lib.hid (seek_none HN.out)
      go_wp2
      go_ret
      exact ⟨by rw [show sk11 xs id = none from HS.out]; rfl, rfl⟩
theorem l11Find_eq (A : Option Addr) (n c B : Nat) (xs : List WeaverR) (id : Int) (w : World) (v : Int) (h : RdF weaverF w B A n c xs) (hv : placeI (sk11 xs id) = v) :
    Calls Try.prog 50 #[.slice A n c, .int .i64 id] w fun e w' => e = .returned (.int .i64 v) ∧ w = w' := hv ▸ l11Find_any A n c B xs id w h
end Go.Proofs.Ytanfblpibomfaaa
