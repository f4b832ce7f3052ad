/- The walk of the model's LoomsUsed. No condition. -/
import Derived.Test.YtanfblpibomfaaaUsed11
import Derived.Test.YtanfblpibomfaaaAppAt
namespace Go.Proofs.Ytanfblpibomfaaa
open Go.RowKit

/-- The looms below a number that are used, in order. -/
def UsedTo (xs : List WeaverR) (M : List Int) (k : Nat) : Prop := M.Pairwise (· < ·) ∧ ∀ y, y ∈ M ↔ y ∈ loomZ xs ∧ y < (k : Int)
theorem usedTo_start {xs : List WeaverR} (h : weaversB xs = true) : UsedTo xs [] 1 := ⟨List.Pairwise.nil, fun y => Iff.intro (fun hy => by cases hy) (fun hh => by have h1 := loomZ_in h hh.1; have h2 := hh.2; exfalso; omega)⟩
theorem usedTo_yes {xs : List WeaverR} {M : List Int} {k : Nat} (h : UsedTo xs M k) (h1 : 1 ≤ k) (hs : 0 < seatsN xs (k : Int)) : UsedTo xs (M ++ [(k : Int)]) (k + 1) := by
  refine ⟨List.pairwise_append.2 ⟨h.1, List.pairwise_singleton .., fun a ha b hb => ?_⟩, fun y => ?_⟩
  · rw [List.mem_singleton] at hb
    subst hb
    exact ((h.2 a).1 ha).2
  · rw [List.mem_append, h.2, List.mem_singleton]
    constructor
    · rintro (⟨h2, h3⟩ | rfl)
      · exact ⟨h2, by omega⟩
      · exact ⟨loomZ_mem.2 ⟨by omega, hs⟩, by omega⟩
    · rintro ⟨h2, h3⟩
      by_cases e : y = (k : Int)
      · exact .inr e
      · exact .inl ⟨h2, by omega⟩
theorem usedTo_no {xs : List WeaverR} {M : List Int} {k : Nat} (h : UsedTo xs M k) (hs : seatsN xs (k : Int) = 0) : UsedTo xs M (k + 1) := by
  refine ⟨h.1, fun y => ?_⟩
  rw [h.2]
  constructor
  · rintro ⟨h2, h3⟩
    exact ⟨h2, by omega⟩
  · rintro ⟨h2, h3⟩
    refine ⟨h2, ?_⟩
    by_cases e : y = (k : Int)
    · subst e
      have := (loomZ_mem.1 h2).2
      omega
    · omega
theorem usedTo_end {xs : List WeaverR} {M : List Int} (h : weaversB xs = true) (hM : UsedTo xs M 100) : M = looms11 xs :=
  setI_eq hM.1 fun y => (hM.2 y).trans ⟨fun hh => hh.1, fun hh => ⟨hh, by have := loomZ_in h hh; omega⟩⟩
set_option maxRecDepth 100000 in
set_option maxHeartbeats 4000000 in
theorem specLoomsUsed_any (A : Option Addr) (n c B : Nat) (xs : List WeaverR) (w : World) (h : RdF weaverF w B A n c xs) (hB : B ≤ w.heap.size) :
    Calls Try.prog 17 #[.slice A n c] w (OutInts2 w (used11 xs).1 (used11 xs).2.1 (used11 xs).2.2) := by
  obtain rfl := h.len
  have o5 : Own ((w.alloc (.cells #[] 3)).alloc (.cells #[] 3)) w.heap.size (.slice (some ⟨w.heap.size, 0, none⟩) 0 0) [] := (Own.empty (Nat.le_refl _)).alloc _
  have o6' : Own ((w.alloc (.cells #[] 3)).alloc (.cells #[] 3)) w.heap.size (.slice (some ⟨(w.alloc (.cells #[] 3)).heap.size, 0, none⟩) 0 0) [] := Own.empty (by simp)
  have hsz : (w.alloc (.cells #[] 3)).heap.size = w.heap.size + 1 := by simp
  have o6 : Own ((w.alloc (.cells #[] 3)).alloc (.cells #[] 3)) w.heap.size (.slice (some ⟨w.heap.size + 1, 0, none⟩) 0 0) [] := hsz ▸ o6'
  have HB0 : Below w.heap.size w ((w.alloc (.cells #[] 3)).alloc (.cells #[] 3)) := ((Below.refl _ _).alloc (Nat.le_refl _) _).alloc (by simp) _
  have h0 := (h.alloc hB (.cells #[] 3)).alloc (by simp; omega) (.cells #[] 3)
  have hB0 : B ≤ ((w.alloc (.cells #[] 3)).alloc (.cells #[] 3)).heap.size := by simp; omega
  clear o6' hsz
  by_cases hg : weaversB xs = true
  rotate_left
  · have hg' := not_false hg
    have HU := Lib.hid (show used11 xs = ([], [], false) from if_neg hg)
    go_enter Try.func17, Try.ntmps17
    go_wp2_with (go_at_call 40; refine (l11Good_eq A _ c B xs _ _ h0 hB0 hg').mono ?_; rintro e w1 ⟨rfl, hb⟩)
    go_ret3
    rw [HU.out]
    exact ⟨_, _, _, _, rfl, o5.all hb, o6.all hb, (fun j hj e => by cases hj; simp [Value.ownBlock] at e), HB0.trans (hb.mono HB0.size)⟩
  have HU := Lib.hid (show used11 xs = (looms11 xs, seatL xs (looms11 xs), true) from if_pos hg)
  have HS := Lib.hid (usedTo_start hg)
  have HEND := Lib.hid (fun M (hM : UsedTo xs M 100) => usedTo_end hg hM)
  have h8 := (weaversB_of hg).1
  go_enter Try.func17, Try.ntmps17
  go_wp2_with (go_at_call 40; refine (l11Good_eq A _ c B xs _ _ h0 hB0 hg).mono ?_; rintro e w1 ⟨rfl, hb⟩)
  have o51 := o5.all hb
  have o61 := o6.all hb
  have HB1 := HB0.trans (hb.mono HB0.size)
  clear o5 o6 HB0 hb h0
  go_loopw [7, 5, 6] (fun i v5 v6 wr => ∃ (k m : Nat) (M : List Int) (A1 : Option Addr) (c1 : Nat) (A2 : Option Addr) (c2 : Nat), 1 ≤ k ∧ k ≤ 100 ∧ i = .int .i64 k ∧ v5 = .slice A1 m c1 ∧ v6 = .slice A2 m c2 ∧ Hid (M.length = m) ∧ m ≤ k ∧
    Own wr w.heap.size (.slice A1 m c1) M ∧ Own wr w.heap.size (.slice A2 m c2) (seatL xs M) ∧ Hid (∀ j, (Value.slice A1 m c1).ownBlock = some j → (Value.slice A2 m c2).ownBlock ≠ some j) ∧ Hid (UsedTo xs M k) ∧ Below w.heap.size w wr) (fun i _ _ _ => 100 - (intOf i).toNat)
  case atStart => exact ⟨1, 0, [], _, _, _, _, Nat.le_refl _, by omega, rfl, rfl, rfl, Lib.hid rfl, by omega, o51, o61, Lib.hid (fun j hj e => by cases hj; simp [Value.ownBlock] at e), HS, HB1⟩
  case round =>
    obtain ⟨k, m, M, A1, c1, A2, c2, hk1, hk, rfl, rfl, rfl, HL, hmk, own5, own6, HD, HM, hb⟩ := hrel
    have hzz := hb.size
    by_cases hlt : k ≤ 99
    · obtain ⟨v, hv⟩ : ∃ v, Hid (seatsN xs (k : Int) = v) := ⟨_, Lib.hid rfl⟩
      have hvx : v ≤ xs.length := hv.out ▸ seatsN_le xs _
      have hR := h.below hb hB
      have hBr : B ≤ wr.heap.size := Nat.le_trans hB hzz
      by_cases hv0 : v = 0
      · have HN := Lib.hid (usedTo_no HM.out (hv.out.trans hv0))
        subst hv0
        go_wp2_with (go_at_call 55; refine (l11Seats_eq A _ c B xs _ _ 0 hR hBr hv.out).mono ?_; rintro e w2 ⟨rfl, rfl⟩)
        go_roundw
        case rel => exact ⟨k + 1, m, M, A1, c1, A2, c2, by omega, by omega, by go_num, rfl, rfl, HL, by omega, own5, own6, HD, HN, hb⟩
        case measure => simp [intOf]; omega
      · have HN := Lib.hid (usedTo_yes HM.out hk1 (by rw [hv.out]; omega))
        have hv1 : (0 : Int) < (v : Int) := by omega
        have HSA := Lib.hid (show seatL xs (M ++ [(k : Int)]) = seatL xs M ++ [(v : Int)] by rw [seatL_app, ← hv.out]; rfl)
        go_upto_region 9 with (go_at_call 55; refine (l11Seats_eq A _ c B xs _ _ v hR hBr hv.out).mono ?_; rintro e w2 ⟨rfl, rfl⟩)
        go_wp2_with (at_builtin; refine wpList_append_one_at wr rfl (.tmp 25) (.tmp 27) 35 rfl Try.underlying35 info_int w.heap.size m _ M (k : Int) HL.out rfl rfl own5 (by omega) ⟨by omega, by omega⟩ hzz ?_)
        intro A3 c3 w8 own7 hg8 hat
        have own8 := own6.mark hg8 (fun j j' hj hj' e => by subst e; exact HD.out j hj hj')
        have HB8 := hb.grown hg8 hzz (fun j hj => (own5.bd j hj).1)
        have HD2 : Hid (∀ j, (Value.slice A3 (m + 1) c3).ownBlock = some j → (Value.slice A2 m c2).ownBlock ≠ some j) := Lib.hid fun j hj e => by
          rcases hat j hj with h1 | h1
          · exact HD.out j h1 e
          · have := (own6.bd j e).2; omega
        have hz8 := HB8.size
        clear own5 own6 hg8 hat HD hb hzz
        go_upto_region 10 with fail
        go_wp2_with (at_builtin; refine wpList_append_one_at w8 rfl (.tmp 29) (.tmp 31) 35 rfl Try.underlying35 info_int w.heap.size m _ (seatL xs M) (v : Int) ((seatL_len xs M).trans HL.out) rfl rfl own8 (by omega) ⟨by omega, by omega⟩ hz8 ?_)
        intro A4 c4 w9 own9 hg9 hat9
        have own10 := own7.mark hg9 (fun j j' hj hj' e => by subst e; exact HD2.out j hj' hj)
        have HB9 := HB8.grown hg9 hz8 (fun j hj => (own8.bd j hj).1)
        have HD3 : Hid (∀ j, (Value.slice A3 (m + 1) c3).ownBlock = some j → (Value.slice A4 (m + 1) c4).ownBlock ≠ some j) := Lib.hid fun j hj e => by
          rcases hat9 j e with h1 | h1
          · exact HD2.out j hj h1
          · have := (own7.bd j hj).2; omega
        rw [← HSA.out] at own9
        clear own7 own8 hg9 hat9 HD2
        go_wp2
        go_roundw
        case rel => exact ⟨k + 1, m + 1, M ++ [(k : Int)], A3, c3, A4, c4, by omega, by omega, by go_num, rfl, rfl, Lib.hid (by rw [List.length_append, HL.out]; rfl), by omega, own10, own9, HD3, HN, HB9⟩
        case measure => simp [intOf]; omega
    · obtain rfl : k = 100 := by omega
      have HE := Lib.hid (HEND.out M HM.out)
      have hs2 := Lib.hid ((seatL_len xs M).trans HL.out)
      go_wp2
      go_ret3
      rw [HU.out, ← HE.out]
      refine ⟨A1, c1, A2, c2, ?_, ?_, ?_, ?_, hb⟩
      · show _ = Ending.returned (.tuple #[.slice A1 M.length c1, .slice A2 (seatL xs M).length c2, .bool true])
        rw [HL.out, hs2.out]; rfl
      · show Own _ _ (.slice A1 M.length c1) M
        rw [HL.out]; exact own5
      · show Own _ _ (.slice A2 (seatL xs M).length c2) (seatL xs M)
        rw [hs2.out]; exact own6
      · show ∀ j, (Value.slice A1 M.length c1).ownBlock = some j → (Value.slice A2 (seatL xs M).length c2).ownBlock ≠ some j
        rw [HL.out, hs2.out]; exact HD.out
end Go.Proofs.Ytanfblpibomfaaa
