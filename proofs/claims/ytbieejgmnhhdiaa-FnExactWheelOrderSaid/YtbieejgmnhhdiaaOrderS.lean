/- The walk of the model's WheelOrder. No condition. -/
import Derived.Test.YtbieejgmnhhdiaaOrderMath
import Derived.Test.YtbieejgmnhhdiaaCard
namespace Go.Proofs.Ytbieejgmnhhdiaa
open Go.RowKit

set_option maxRecDepth 100000 in
set_option maxHeartbeats 8000000 in
theorem specWheelOrder_any (A : Option Addr) (n c B : Nat) (xs : List ShadeR) (fr : Int) (w : World) (h : RdF shadeF w B A n c xs) (hB : B ≤ w.heap.size) :
    Calls Try.prog 17 #[.slice A n c, .int .i64 fr] w (OutInts w (orderX xs fr) (orderOk xs fr)) := by
  have hn := h.len_lt
  have hcap := h.cap
  obtain rfl := h.len
  have h0 := h.alloc hB (.cells #[] 3)
  have hb0 := (Below.refl w.heap.size w).alloc (Nat.le_refl _) (.cells #[] 3)
  have hB0 : B ≤ (w.alloc (.cells #[] 3)).heap.size := by simp; omega
  have o0 := Own.empty (w := w) (Nat.le_refl _)
  by_cases h1 : cardB xs = true
  rotate_left
  · have hno := not_false h1
    have H := Lib.hid (order_no (xs := xs) (fr := fr) (.inl hno))
    go_enter Try.func17, Try.ntmps17
    go_wp2_with fail
    refine (l3Good_any A xs.length c B xs _ h0 hB0).mono ?_
    rintro e w1 ⟨rfl, hb⟩
    rw [hno]
    go_wp2
    go_ret2
    rw [H.out.1, H.out.2]
    exact ⟨_, 0, rfl, o0.all hb, hb0.trans (hb.mono (by simp))⟩
  by_cases h2 : inB fr 0 23 = true
  rotate_left
  · have hno := not_false h2
    have H := Lib.hid (order_no (xs := xs) (fr := fr) (.inr hno))
    go_enter Try.func17, Try.ntmps17
    go_wp2_with fail
    refine (l3Good_any A xs.length c B xs _ h0 hB0).mono ?_
    rintro e w1 ⟨rfl, hb⟩
    rw [h1]
    go_wp2_with fail
    refine (l3Step_any _ _).mono ?_
    rintro e w2 ⟨rfl, rfl⟩
    rw [hno]
    go_wp2
    go_ret2
    rw [H.out.1, H.out.2]
    exact ⟨_, 0, rfl, o0.all hb, hb0.trans (hb.mono (by simp))⟩
  have hfr : Step fr := inB_yes h2
  have hl10 : xs.length ≤ 10 := (cardB_of h1).1
  have hRes := Lib.hid (order_yes h1 h2)
  have HSH : Hid (∀ (k : Nat) (a : ShadeR), xs[k]? = some a → Fine a) := fun k a ha => card_fine h1 ha
  have HSL : Hid (∀ k : Nat, (segs fr xs k).length ≤ 10 * k) := segs_len fr xs hl10
  go_enter Try.func17, Try.ntmps17
  go_wp2_with fail
  refine (l3Good_any A xs.length c B xs _ h0 hB0).mono ?_
  rintro e w1 ⟨rfl, hb⟩
  rw [h1]
  go_wp2_with fail
  refine (l3Step_any _ _).mono ?_
  rintro e w2 ⟨rfl, rfl⟩
  rw [h2]
  have HB1 := Lib.hid (hb0.trans (hb.mono (by simp)))
  have o1 := o0.all hb
  obtain ⟨hf0, hf1⟩ := hfr
  clear hb hb0 h0 hB0 o0 h1 h2
  go_wp2
  go_loopw [6, 7] (fun out i wr => ∃ (k : Nat) (A' : Option Addr) (c' : Nat) (acc : List Int), k ≤ 24 ∧ i = .int .i64 k ∧ out = .slice A' acc.length c' ∧ Hid (acc = segs fr xs (10 * k)) ∧ Own wr w.heap.size (.slice A' acc.length c') acc ∧ Hid (Below w.heap.size w wr)) (fun _ i _ => 24 - (intOf i).toNat)
  case atStart => exact ⟨0, _, 0, [], Nat.zero_le _, rfl, rfl, rfl, o1, HB1⟩
  case round =>
    obtain ⟨m, A6, c6, acc, hm, rfl, rfl, HACC, ho, HB⟩ := hrel
    by_cases hm24 : m < 24
    · have hm24i : (m : Int) < 24 := by omega
      go_wp2
      go_loopw [6, 8] (fun out i wr => ∃ (d : Nat) (A' : Option Addr) (c' : Nat) (acc : List Int), d ≤ 10 ∧ i = .int .i64 d ∧ out = .slice A' acc.length c' ∧ Hid (acc = segs fr xs (10 * m + d)) ∧ Own wr w.heap.size (.slice A' acc.length c') acc ∧ Hid (Below w.heap.size w wr)) (fun _ i _ => 10 - (intOf i).toNat)
      case atStart => exact ⟨0, A6, c6, acc, Nat.zero_le _, rfl, rfl, HACC, ho, HB⟩
      case round =>
        clear HACC ho HB
        obtain ⟨d, A7, c7, acc, hd, rfl, rfl, HACC, ho, HB⟩ := hrel
        by_cases hd9 : d ≤ 9
        · have hd9i : (d : Int) ≤ 9 := by omega
          go_wp2
          go_loopw [6, 9] (fun out i wr => ∃ (k : Nat) (A' : Option Addr) (c' : Nat) (acc : List Int), k ≤ xs.length ∧ i = .int .i64 k ∧ out = .slice A' acc.length c' ∧ Hid (acc = segs fr xs (10 * m + d) ++ atKey fr (10 * m + d) (xs.take k)) ∧ Own wr w.heap.size (.slice A' acc.length c') acc ∧ Hid (Below w.heap.size w wr)) (fun _ i _ => xs.length - (intOf i).toNat)
          case atStart => exact ⟨0, A7, c7, acc, Nat.zero_le _, rfl, rfl, Lib.hid (by rw [atKey_zero, List.append_nil]; exact HACC.out), ho, HB⟩
          case round =>
            clear HACC ho HB
            obtain ⟨k, A8, c8, acc, hk, rfl, rfl, HACC, ho, HB⟩ := hrel
            have hzr := HB.out.size
            by_cases hlt : k < xs.length
            · obtain ⟨b, off, a, rfl, hbB, oka, HX, hc0, _, hc2, hc3, _⟩ := ShadeR_at (F := shadeF) rfl (fun _ => rfl) (fun _ => rfl) (h.below HB.out hB) hlt
              obtain ⟨ha2, ha3⟩ := HSH.out k a HX.out
              have hI0 : I64 a.f0 := oka.1
              have HK := Lib.hid (key_iff (a := a) ⟨hf0, hf1⟩ ha2 ha3 hm24 hd9)
              have e1 : IntKind.i64.wrap (fr + (m : Int)) = fr + (m : Int) := IntWalk.i64_in _ (by omega)
              have e2 : Int.tmod (fr + (m : Int)) 24 = (fr + (m : Int)) % 24 := Int.tmod_eq_emod_of_nonneg (by omega)
              have hlen : acc.length ≤ 10000 := by
                rw [HACC.out, List.length_append]
                have h5 := HSL.out (10 * m + d)
                have h6 := atKey_len fr (10 * m + d) (xs.take k)
                rw [List.length_take] at h6
                omega
              obtain ⟨f0, f1, f2, f3, f4⟩ := a
              simp only at hc0 hc2 hc3 HK hI0
              obtain ⟨q, hq⟩ : ∃ q, (fr + (m : Int)) % 24 = q := ⟨_, rfl⟩
              rw [hq] at e2 HK
              clear hq
              by_cases hw : f2 = q
              · by_cases hdd : f3 = (d : Int)
                · have HN := Lib.hid (show acc ++ [f0] = segs fr xs (10 * m + d) ++ atKey fr (10 * m + d) (xs.take (k + 1)) by rw [atKey_yes HX.out (HK.out.2 ⟨hw, hdd⟩), HACC.out, List.append_assoc])
                  clear HACC HK
                  subst hw
                  subst hdd
                  go_wp2_with (refine wpList_append_one wr rfl (.tmp 53) (.tmp 59) 36 rfl Try.underlying36 info_int w.heap.size _ acc f0 rfl rfl ho (by omega) hI0 hzr ?_)
                  intro A9 c9 w9 ho9 hg9
                  have HB9 := Lib.hid (HB.out.grown hg9 hzr (fun q hq => (ho.bd q hq).1))
                  clear ho HB hg9
                  go_wp2
                  go_roundw
                  case rel => exact ⟨k + 1, A9, c9, acc ++ [f0], by omega, by go_num, by rw [List.length_append]; rfl, HN, by rw [List.length_append]; exact ho9, HB9⟩
                  case measure => simp [intOf]; omega
                · have hdd' : (f3 == (d : Int)) = false := by simpa using hdd
                  have HN := Lib.hid (show acc = segs fr xs (10 * m + d) ++ atKey fr (10 * m + d) (xs.take (k + 1)) by rw [atKey_no HX.out (fun hh => hdd (HK.out.1 hh).2)]; exact HACC.out)
                  clear HACC HK hdd
                  subst hw
                  go_wp2
                  go_roundw
                  case rel => exact ⟨k + 1, A8, c8, acc, by omega, by go_num, rfl, HN, ho, HB⟩
                  case measure => simp [intOf]; omega
              · have hw' : (f2 == q) = false := by simpa using hw
                have HN := Lib.hid (show acc = segs fr xs (10 * m + d) ++ atKey fr (10 * m + d) (xs.take (k + 1)) by rw [atKey_no HX.out (fun hh => hw (HK.out.1 hh).1)]; exact HACC.out)
                clear HACC HK hw
                go_wp2
                go_roundw
                case rel => exact ⟨k + 1, A8, c8, acc, by omega, by go_num, rfl, HN, ho, HB⟩
                case measure => simp [intOf]; omega
            · have HN := Lib.hid (show acc = segs fr xs (10 * m + (d + 1)) by
                have h5 := HACC.out
                rw [List.take_of_length_le (by omega)] at h5
                rw [← Nat.add_assoc, segs_succ]
                exact h5)
              clear HACC
              go_wp2
              go_roundw
              case rel => exact ⟨d + 1, A8, c8, acc, by omega, by go_num, rfl, HN, ho, HB⟩
              case measure => simp [intOf]; omega
        · have HN := Lib.hid (show acc = segs fr xs (10 * (m + 1)) by
            have h5 := HACC.out
            rw [show 10 * m + d = 10 * (m + 1) by omega] at h5
            exact h5)
          have hd9i : ¬ (d : Int) ≤ 9 := by omega
          clear HACC
          go_wp2
          go_roundw
          case rel => exact ⟨m + 1, A7, c7, acc, by omega, by go_num, rfl, HN, ho, HB⟩
          case measure => simp [intOf]; omega
    · have HN := Lib.hid (show acc = segs fr xs 240 by
        have h5 := HACC.out
        rw [show 10 * m = 240 by omega] at h5
        exact h5)
      have hm24i : ¬ (m : Int) < 24 := by omega
      clear HACC
      go_wp2
      go_ret2
      rw [hRes.out.1, hRes.out.2, ← HN.out]
      exact ⟨A6, c6, rfl, ho, HB.out⟩
end Go.Proofs.Ytbieejgmnhhdiaa
