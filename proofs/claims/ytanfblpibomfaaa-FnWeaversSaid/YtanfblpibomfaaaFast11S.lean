/- The walk of the model's FastestFree. No condition. -/
import Derived.Test.YtanfblpibomfaaaFast11
namespace Go.Proofs.Ytanfblpibomfaaa
open Go.RowKit

set_option maxRecDepth 100000 in
set_option maxHeartbeats 4000000 in
theorem specFastestFree_any (A : Option Addr) (n c B : Nat) (xs : List WeaverR) (w : World) (h : RdF weaverF w B A n c xs) (hB : B ≤ w.heap.size) :
    Calls Try.prog 21 #[.slice A n c] w (Out w (.tuple #[.int .i64 (fast11 xs).1, .bool (fast11 xs).2])) := by
  obtain rfl := h.len
  by_cases hg : weaversB xs = true
  rotate_left
  · have hg' := not_false hg
    rw [show fast11 xs = (0, false) from if_neg hg]
    go_enter Try.func21, Try.ntmps21
    go_wp2_with (go_at_call 40; refine (l11Good_eq A _ c B xs _ _ h hB hg').mono ?_; rintro e w1 ⟨rfl, hb⟩)
    go_ret2
    exact ⟨rfl, hb⟩
  have HG := Lib.hid (show fast11 xs = ((fastR xs).f0, decide (0 < (fastR xs).f0)) from if_pos hg)
  have h8 := (weaversB_of hg).1
  have HF := Lib.hid (weavers_fast hg)
  have HW := Lib.hid (fun (j : Nat) (f : WeaverR) (hj : xs[j]? = some f) => (weaver_of (weavers_at hg hj)).1.1)
  go_enter Try.func21, Try.ntmps21
  go_wp2_with (go_at_call 40; refine (l11Good_eq A _ c B xs _ _ h hB hg).mono ?_; rintro e w1 ⟨rfl, hb⟩)
  go_loopw [5, 4] (fun i v wr => ∃ (k : Nat) (f : WeaverR) (bi : Int), k ≤ xs.length ∧ i = .int .i64 k ∧ v = .int .i64 bi ∧ Hid (fastF f (atL (xs.drop k) 0) = fastR xs) ∧ Hid ((bi = -1 ∧ f = WeaverR.zero) ∨ ∃ j : Nat, bi = (j : Int) ∧ j < xs.length ∧ xs[j]? = some f) ∧ Below w.heap.size w wr) (fun i _ _ => xs.length - (intOf i).toNat)
  case atStart => exact ⟨0, WeaverR.zero, -1, Nat.zero_le _, rfl, rfl, Lib.hid rfl, Or.inl ⟨rfl, rfl⟩, hb⟩
  case round =>
    obtain ⟨k, f, bi, hk, rfl, rfl, HY, HJ, hb⟩ := hrel
    have hzz := hb.size
    by_cases hlt : k < xs.length
    · obtain ⟨b, off, a, rfl, hbB, ok, HX, hc0, hc1, hc2, hc3, hc4⟩ := WeaverR_at (F := weaverF) rfl (fun _ => rfl) (fun _ => rfl) (h.below hb hB) hlt
      have x6 := Blk.new wr #[.int .i64 a.f0, .string a.f1, .int .i64 a.f2, .int .i64 a.f3, .int .i64 a.f4] 40
      have HB := hb.alloc hzz (.cells #[.int .i64 a.f0, .string a.f1, .int .i64 a.f2, .int .i64 a.f3, .int .i64 a.f4] 40)
      have h6 := (h.below hb hB).alloc (by omega) (.cells #[.int .i64 a.f0, .string a.f1, .int .i64 a.f2, .int .i64 a.f3, .int .i64 a.f4] 40)
      obtain ⟨⟨hs0, hs1⟩, h15⟩ := fast_at HF.out HX.out
      have HK := Lib.hid (knot_has h15)
      clear hb
      go_upto_region 8 with fail
      clear hc0 hc1 hc2 hc3 hc4
      generalize wr.alloc (.cells #[.int .i64 a.f0, .string a.f1, .int .i64 a.f2, .int .i64 a.f3, .int .i64 a.f4] 40) = W6 at *
      generalize wr.heap.size = P at *
      have e60 := x6.cell 0
      have e61 := x6.cell 1
      have e62 := x6.cell 2
      have e63 := x6.cell 3
      have e64 := x6.cell 4
      have hP := x6.lt
      have hbP : b < P := by omega
      by_cases h0 : a.f4 = 0
      rotate_left
      · have HN := Lib.hid (show fastF f (atL (xs.drop (k + 1)) 0) = fastR xs by rw [← HY.out, fastF_off HX.out f h0])
        have h0a : (a.f4 == 0) = false := by simp [h0]
        clear h0
        go_wp2
        go_quiet (fail)
        replace HB : Below w.heap.size w (W6.drewN nq) := belowN HB nq
        generalize W6.drewN nq = W8 at *
        go_wp2
        go_roundw
        case rel => exact ⟨k + 1, f, bi, by omega, by go_num, rfl, HN, HJ, HB⟩
        case measure => simp [intOf]; omega
      have h0a : (a.f4 == 0) = true := by simp [h0]
      have HD := Lib.hid (fastF_at HX.out f h0)
      clear h0
      by_cases hsk : hasB a.f2 1 = true
      rotate_left
      · have HN := Lib.hid (show fastF f (atL (xs.drop (k + 1)) 0) = fastR xs by rw [← HY.out, HD.out, if_neg fun hh => hsk hh.1])
        have hsk' := not_false hsk
        have hb0 : (bits BinOp.and IntKind.i64 a.f2 1 == 0) = true := by have := HK.out; rw [hsk'] at this; simpa [andI] using this
        have hb1 : (bits BinOp.and IntKind.i64 a.f2 1 != 0) = false := by rw [bne, hb0]; rfl
        clear hsk hsk'
        go_wp2
        go_quiet (fail)
        replace HB : Below w.heap.size w (W6.drewN nq) := belowN HB nq
        generalize W6.drewN nq = W8 at *
        go_wp2
        go_roundw
        case rel => exact ⟨k + 1, f, bi, by omega, by go_num, rfl, HN, HJ, HB⟩
        case measure => simp [intOf]; omega
      have hb0 : (bits BinOp.and IntKind.i64 a.f2 1 == 0) = false := by have := HK.out; rw [hsk] at this; simpa [andI] using this
      have hb1 : (bits BinOp.and IntKind.i64 a.f2 1 != 0) = true := by rw [bne, hb0]; rfl
      rcases HJ.out with ⟨rfl, rfl⟩ | ⟨j, rfl, hjl, hj⟩
      · have HN := Lib.hid (show fastF a (atL (xs.drop (k + 1)) 0) = fastR xs by rw [← HY.out, HD.out, if_pos ⟨hsk, by show (0 : Int) < a.f3; omega⟩])
        clear hsk
        go_wp2
        go_quiet (fail)
        replace HB : Below w.heap.size w (W6.drewN nq) := belowN HB nq
        generalize W6.drewN nq = W8 at *
        go_wp2
        go_roundw
        case rel => exact ⟨k + 1, a, (k : Int), by omega, by go_num, rfl, HN, Or.inr ⟨k, rfl, hlt, HX.out⟩, HB⟩
        case measure => simp [intOf]; omega
      obtain ⟨_, _, f', he, _, _, HX2, _, _, _, hd3, _⟩ := WeaverR_at (F := weaverF) rfl (fun _ => rfl) (fun _ => rfl) h6 hjl
      cases he
      obtain rfl : f' = f := Option.some.inj (HX2.out.symm.trans hj)
      have hj0 : ¬ (j : Int) < 0 := by omega
      have hj1 : (j : Int) < (xs.length : Int) := by omega
      have hjd : decide ((j : Int) < 0) = false := decide_eq_false hj0
      by_cases hgt : f'.f3 < a.f3
      · have HN := Lib.hid (show fastF a (atL (xs.drop (k + 1)) 0) = fastR xs by rw [← HY.out, HD.out, if_pos ⟨hsk, hgt⟩])
        clear hsk hj
        go_wp2
        go_quiet (fail)
        replace HB : Below w.heap.size w (W6.drewN nq) := belowN HB nq
        generalize W6.drewN nq = W8 at *
        go_wp2
        go_roundw
        case rel => exact ⟨k + 1, a, (k : Int), by omega, by go_num, rfl, HN, Or.inr ⟨k, rfl, hlt, HX.out⟩, HB⟩
        case measure => simp [intOf]; omega
      · have HN := Lib.hid (show fastF f' (atL (xs.drop (k + 1)) 0) = fastR xs by rw [← HY.out, HD.out, if_neg fun hh => hgt hh.2])
        clear hsk hj
        go_wp2
        go_quiet (fail)
        replace HB : Below w.heap.size w (W6.drewN nq) := belowN HB nq
        generalize W6.drewN nq = W8 at *
        go_wp2
        go_roundw
        case rel => exact ⟨k + 1, f', (j : Int), by omega, by go_num, rfl, HN, HJ, HB⟩
        case measure => simp [intOf]; omega
    · obtain rfl : k = xs.length := by omega
      have HE := Lib.hid (show f = fastR xs by have := HY.out; rwa [List.drop_length] at this)
      rcases HJ.out with ⟨rfl, rfl⟩ | ⟨j, rfl, hjl, hj⟩
      · go_wp2
        go_ret2
        exact ⟨by rw [HG.out, ← HE.out]; rfl, hb⟩
      · obtain ⟨b, off, f', rfl, hbB, ok, HX2, hd0, _, _, _, _⟩ := WeaverR_at (F := weaverF) rfl (fun _ => rfl) (fun _ => rfl) (h.below hb hB) hjl
        obtain rfl : f' = f := Option.some.inj (HX2.out.symm.trans hj)
        have hpos := HW.out j f' hj
        have HP := Lib.hid (show decide (0 < f'.f0) = true from decide_eq_true (by omega))
        have hj0 : ¬ (j : Int) < 0 := by omega
        have hj1 : (j : Int) < (xs.length : Int) := by omega
        clear hj
        go_wp2
        go_ret2
        exact ⟨by rw [HG.out, ← HE.out, HP.out]; rfl, hb⟩
end Go.Proofs.Ytanfblpibomfaaa
