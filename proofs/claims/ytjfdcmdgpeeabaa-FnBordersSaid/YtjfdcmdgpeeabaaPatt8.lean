/- The walk of the cursor's pattern8: a drawn list of at most nine numbers. Condition: few draws. -/
import Derived.Test.YtjfdcmdgpeeabaaMgDraws
namespace Go.Proofs.Ytjfdcmdgpeeabaa
open Go.RowKit

/-- What a draw of a list leaves: a list of the call's own, the cursor, nothing else written. -/
def DrewInts (w : World) (p k : Nat) (P : List Int → Prop) (e : Ending) (w' : World) : Prop :=
  ∃ (A : Option Addr) (c : Nat) (xs : List Int), e = .returned (.slice A xs.length c) ∧ P xs ∧ Own w' w.heap.size (.slice A xs.length c) xs ∧ Cur w' p k ∧ w.grownBy w' (some p)
/-- The length of a list's value. -/
def lenV : Value → Nat
  | .slice _ n _ => n
  | _ => 0
set_option maxRecDepth 100000 in
set_option maxHeartbeats 4000000 in
theorem pattern8_any (p k : Nat) (w : World) (h : Cur w p k) (hk : k + 60 ≤ 4294967296) :
    Calls Try.prog 25 #[.pointer (some ⟨p, 0, none⟩)] w (DrewInts w p (k + 60) fun xs => xs.length ≤ 9) := by
  have hpw := h.lt
  have hb0 := (Below.refl w.heap.size w).alloc (Nat.le_refl _) (.cells #[] 3)
  have hb1 := hb0.alloc (by simp) (.cells ([1, 2, 2, 3, 4, 4, 6, 8].map (Value.int .i64)).toArray 3)
  have HG := Lib.hid (below_grown (row := some p) hb1)
  have hc0 := h.below hb1 hpw
  have o0 : Own (w.alloc (.cells #[] 3)) w.heap.size (.slice (some ⟨w.heap.size, 0, none⟩) 0 0) [] := by simpa using (Own.empty (w := w) (lo := w.heap.size) (Nat.le_refl _))
  have o1 := o0.alloc (.cells ([1, 2, 2, 3, 4, 4, 6, 8].map (Value.int .i64)).toArray 3)
  have hr := lit_rd (w.alloc (.cells #[] 3)) [1, 2, 2, 3, 4, 4, 6, 8] (by intro x hx; simp at hx; unfold I64; omega) (by decide)
  clear h o0 hb0
  go_enter Try.func25, Try.ntmps25
  go_wp2_with fail
  refine (among_any p k (w.heap.size + 1) 0 8 8 (w.heap.size + 2) [1, 2, 2, 3, 4, 4, 6, 8] _ hc0 (by omega) (by simpa using hr) (by omega) (by omega) (by omega)).mono ?_
  rintro e w1 ⟨m, rfl, hm, hc1, hg1⟩
  have hm8 : 1 ≤ m ∧ m ≤ 8 := by simp at hm; omega
  obtain ⟨M, rfl⟩ : ∃ M : Nat, m = M := ⟨m.toNat, by omega⟩
  have o2 := o1.mark hg1 (fun z z' hz hz' => by cases hz; have := (o1.bd z' hz').1; omega)
  have HG1 := Lib.hid (grown_trans HG.out hg1)
  have hz1 := HG1.out.size
  clear hm hc0 hr hb1 HG hg1 o1
  go_wp2
  go_loopw [3, 4] (fun s3 s4 wr => ∃ (j : Nat) (xs : List Int) (A : Option Addr) (c : Nat), j ≤ M ∧ s4 = .int .i64 ((M - j : Nat) : Int) ∧ s3 = .slice A j c ∧ Hid (xs.length = j) ∧ Own wr w.heap.size (.slice A j c) xs ∧ Cur wr p (k + 2 + 2 * j) ∧ w.grownBy wr (some p))
    (fun _ s4 _ => (intOf s4).toNat)
  case atStart => exact ⟨0, [], _, 0, Nat.zero_le _, by simp, rfl, Lib.hid rfl, o2, hc1, HG1.out⟩
  case round =>
    obtain ⟨j, xs, A, c, hj, rfl, rfl, HL, ho, hc, hgr⟩ := hrel
    have HG2 := Lib.hid hgr
    have hz2 := hgr.size
    have hpr := hc.lt
    clear hgr o2 hc1 HG1
    by_cases hlt : j < M
    · have hr := lit_rd wr [0, 1, 2, 5] (by intro x hx; simp at hx; unfold I64; omega) (by decide)
      have hal := (Below.refl wr.heap.size wr).alloc (Nat.le_refl _) (.cells ([0, 1, 2, 5].map (Value.int .i64)).toArray 3)
      have hc1 := hc.all hal
      have hjp : (0 : Int) < ((M - j : Nat) : Int) := by omega
      go_wp2_with fail
      refine (among_any p (k + 2 + 2 * j) wr.heap.size 0 4 4 _ [0, 1, 2, 5] _ hc1 (by omega) hr (by omega) (by omega) (by omega)).mono ?_
      rintro e w3 ⟨y, rfl, hy, hc3, hg3⟩
      have hy64 : I64 y := by simp at hy; unfold I64; omega
      have hg13 := grown_trans (below_grown (row := some p) hal) hg3
      have ho3 := ho.mark hg13 (fun z z' hz hz' => by cases hz; have := (ho.bd z' hz').1; omega)
      have HG3 := Lib.hid (grown_trans HG2.out hg13)
      have hz3 : w.heap.size ≤ w3.heap.size := HG3.out.size
      clear hal hc hc1 hr hg3 hg13 ho HG2 hy
      go_wp2_with (at_builtin; refine wpList_append_one w3 rfl (.tmp 13) (.tmp 17) 24 rfl Try.underlying24 info_int w.heap.size _ xs y rfl rfl ho3 (by rw [HL.out]; omega) hy64 hz3 ?_)
      intro A9 c9 w9 o9 hg9
      rw [HL.out] at o9 ⊢
      have c9' := hc3.mark hg9 (fun z hz => by have := (ho3.bd z hz).1; omega)
      have hb9 := (Below.refl w.heap.size w3).grown hg9 hz3 (fun z hz => (ho3.bd z hz).1)
      have HL9 := Lib.hid (show (xs ++ [y]).length = j + 1 by rw [List.length_append, HL.out]; rfl)
      have HGA := Lib.hid (grown_own HG3.out hb9)
      have hw5 : IntKind.i64.wrap (((M - j : Nat) : Int) - 1) = ((M - (j + 1) : Nat) : Int) := by rw [IntWalk.i64_in _ (by omega)]; omega
      go_wp2
      go_roundw
      case rel => exact ⟨j + 1, _, A9, c9, by omega, by first | rfl | (simp [hw5]; done) | (go_num), rfl, HL9, o9, c9'.more (by omega), HGA.out⟩
      case measure => simp [intOf]; omega
    · have hjp : ¬ (0 : Int) < ((M - j : Nat) : Int) := by omega
      have hj8 : j ≤ 8 := by omega
      go_wp2_with fail
      refine (pick_any p (k + 2 + 2 * j) 32 _ hc (by omega) (by omega) (by omega)).mono ?_
      rintro e w4 ⟨y, rfl, ⟨hy0, hy1⟩, hc4, hg4⟩
      have ho4 := ho.mark hg4 (fun z z' hz hz' => by cases hz; have := (ho.bd z' hz').1; omega)
      have HG4 := Lib.hid (grown_trans HG2.out hg4)
      have hz4 : w.heap.size ≤ w4.heap.size := HG4.out.size
      have hpr4 := hc4.lt
      clear hc hg4 ho HG2 hjp hy0 hy1
      by_cases h0 : y = 0
      · subst h0
        have hr := lit_rd w4 [6, -1] (by intro x hx; simp at hx; unfold I64; omega) (by decide)
        have hal := (Below.refl w4.heap.size w4).alloc (Nat.le_refl _) (.cells ([6, -1].map (Value.int .i64)).toArray 3)
        have hc5 := hc4.all hal
        go_wp2_with fail
        refine (among_any p (k + 2 + 2 * j + 2) w4.heap.size 0 2 2 _ [6, -1] _ hc5 (by omega) hr (by omega) (by omega) (by omega)).mono ?_
        rintro e w3 ⟨y, rfl, hy, hc3, hg3⟩
        have hy64 : I64 y := by simp at hy; unfold I64; omega
        have hg13 := grown_trans (below_grown (row := some p) hal) hg3
        have ho3 := ho4.mark hg13 (fun z z' hz hz' => by cases hz; have := (ho4.bd z' hz').1; omega)
        have HG3 := Lib.hid (grown_trans HG4.out hg13)
        have hz3 : w.heap.size ≤ w3.heap.size := HG3.out.size
        clear hal hc4 hc5 hr hg3 hg13 ho4 HG4 hy
        go_wp2_with (at_builtin; refine wpList_append_one w3 rfl (.tmp 23) (.tmp 27) 24 rfl Try.underlying24 info_int w.heap.size _ xs y rfl rfl ho3 (by rw [HL.out]; omega) hy64 hz3 ?_)
        intro A9 c9 w9 o9 hg9
        rw [HL.out] at o9 ⊢
        have c9' := hc3.mark hg9 (fun z hz => by have := (ho3.bd z hz).1; omega)
        have hb9 := (Below.refl w.heap.size w3).grown hg9 hz3 (fun z hz => (ho3.bd z hz).1)
        have HL9 := Lib.hid (show (xs ++ [y]).length = j + 1 by rw [List.length_append, HL.out]; rfl)
        have HGA := Lib.hid (grown_own HG3.out hb9)
        go_wp2
        go_ret
        exact ⟨A9, c9, xs ++ [y], by rw [HL9.out]; rfl, (by show _ ≤ 9; rw [HL9.out]; omega), by rw [HL9.out]; exact o9, c9'.more (by omega), HGA.out⟩
      by_cases h1 : y = 1
      · subst h1
        have hal := (Below.refl w.heap.size w4).alloc hz4 (.cells #[] 3)
        have oE : Own (w4.alloc (.cells #[] 3)) w.heap.size (.slice (some ⟨w4.heap.size, 0, none⟩) 0 0) [] := by simpa using (Own.empty (w := w4) (lo := w.heap.size) hz4)
        have cE := hc4.below hal hpw
        have gE := grown_own HG4.out hal
        clear hal ho4 HG4 hc4
        go_wp2
        go_ret
        exact ⟨_, 0, [], rfl, by simp, oE, cE.more (by omega), gE⟩
      by_cases h2 : y = 2
      · subst h2
        go_wp2
        clear h0 h1
        go_loopw [3] (fun s3 wr => ∃ (j : Nat) (xs : List Int) (A : Option Addr) (c : Nat), j ≤ 9 ∧ s3 = .slice A j c ∧ Hid (xs.length = j) ∧ Own wr w.heap.size (.slice A j c) xs ∧ Cur wr p (k + 20 + 2 * j) ∧ w.grownBy wr (some p))
          (fun s3 _ => 9 - (lenV s3))
        case atStart => exact ⟨j, xs, A, c, by omega, rfl, HL, ho4, hc4.more (by omega), HG4.out⟩
        case round =>
          clear HL ho4 HG4 hc4 hz4 hpr4
          obtain ⟨j, xs, A, c, hj, rfl, HL, ho, hc, hgr⟩ := hrel
          have HG2 := Lib.hid hgr
          have hz2 := hgr.size
          have hpr := hc.lt
          clear hgr
          go_wp2_with fail
          refine (pick_any p (k + 20 + 2 * j) 2 _ hc (by omega) (by omega) (by omega)).mono ?_
          rintro e w5 ⟨y, rfl, ⟨hy0, hy1⟩, hc5, hg5⟩
          have ho5 := ho.mark hg5 (fun z z' hz hz' => by cases hz; have := (ho.bd z' hz').1; omega)
          have HG5 := Lib.hid (grown_trans HG2.out hg5)
          have hz5 : w.heap.size ≤ w5.heap.size := HG5.out.size
          have hw8 : IntKind.i64.wrap (8 + y) = 8 + y := IntWalk.i64_in _ (by omega)
          have h641 : I64 1 := by unfold I64; omega
          clear hc hg5 ho HG2
          by_cases hlt2 : (j : Int) < 8 + y
          · have hj8' : j ≤ 8 := by omega
            clear hy0 hy1
            go_wp2_with (at_builtin; refine wpList_append_one w5 rfl (.tmp 40) (.tmp 41) 24 rfl Try.underlying24 info_int w.heap.size _ xs 1 rfl rfl ho5 (by rw [HL.out]; omega) h641 hz5 ?_)
            intro A9 c9 w9 o9 hg9
            rw [HL.out] at o9 ⊢
            have c9' := hc5.mark hg9 (fun z hz => by have := (ho5.bd z hz).1; omega)
            have hb9 := (Below.refl w.heap.size w5).grown hg9 hz5 (fun z hz => (ho5.bd z hz).1)
            have HL9 := Lib.hid (show (xs ++ [1]).length = j + 1 by rw [List.length_append, HL.out]; rfl)
            have HGA := Lib.hid (grown_own HG5.out hb9)
            go_wp2
            go_roundw
            case rel => exact ⟨j + 1, _, A9, c9, by omega, rfl, HL9, o9, c9'.more (by omega), HGA.out⟩
            case measure => simp [lenV]; omega
          · clear hy0 hy1
            go_wp2
            go_ret
            exact ⟨A, c, xs, by rw [HL.out]; rfl, (by show _ ≤ 9; rw [HL.out]; omega), by rw [HL.out]; exact ho5, hc5.more (by omega), HG5.out⟩
      · go_wp2
        go_ret
        exact ⟨A, c, xs, by rw [HL.out]; rfl, (by show _ ≤ 9; rw [HL.out]; omega), by rw [HL.out]; exact ho4, hc4.more (by omega), HG4.out⟩
end Go.Proofs.Ytjfdcmdgpeeabaa
