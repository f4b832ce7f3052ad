/- The walk of the program's FewestFor. No condition. -/
import Derived.Test.YtanfblpibomfaaaGroup11
import Derived.Test.YtanfblpibomfaaaCmp11
namespace Go.Proofs.Ytanfblpibomfaaa
open Go.RowKit

noncomputable def fewest11 (xs : List WeaverR) (s : Int) : List Int × Bool := if weaversB xs = true ∧ inB s 1 15 = true then few11 xs s else ([], false)
theorem few11_len (xs : List WeaverR) (s : Int) : (few11 xs s).1.length ≤ 4 := by
  unfold few11
  split
  · next r h => have := (least_cov h).2; simp only; omega
  · split
    · next r h => have := (least_cov h).2; simp only; omega
    · split
      · next r h => have := (least_cov h).2; simp only; omega
      · split
        · next r h => have := (least_cov h).2; simp only; omega
        · simp
theorem fewest11_len (xs : List WeaverR) (s : Int) : (fewest11 xs s).1.length ≤ 100000 := by
  unfold fewest11
  split
  · have := few11_len xs s; omega
  · simp
theorem pow_le8 {n : Nat} (h : n ≤ 8) : 2 ^ n ≤ 256 := Nat.pow_le_pow_right (by decide) h
set_option maxRecDepth 100000 in
set_option maxHeartbeats 4000000 in
theorem implFewestFor_any (A : Option Addr) (n c B : Nat) (xs : List WeaverR) (need : Int) (w : World) (h : RdF weaverF w B A n c xs) (hB : B ≤ w.heap.size) :
    Calls Try.prog 24 #[.slice A n c, .int .i64 need] w (OutInts w (fewest11 xs need).1 (fewest11 xs need).2) := by
  obtain rfl := h.len
  by_cases hg : weaversB xs = true
  rotate_left
  · have hg' := not_false hg
    rw [show fewest11 xs need = ([], false) from if_neg fun hh => hg hh.1]
    go_enter Try.func24, Try.ntmps24
    go_wp2_with (go_at_call 14; refine (implAreWeavers_eq A _ c B xs _ _ h hB hg').mono ?_; rintro e w1 ⟨rfl, hb⟩)
    go_ret2
    exact ⟨none, 0, rfl, Own.nil _ _, hb⟩
  by_cases hl : inB need 1 15 = true
  rotate_left
  · have hl' := not_false hl
    rw [show fewest11 xs need = ([], false) from if_neg fun hh => hl hh.2]
    go_enter Try.func24, Try.ntmps24
    go_wp2_with (first | (go_at_call 14; refine (implAreWeavers_eq A _ c B xs _ _ h hB hg).mono ?_; rintro e w1 ⟨rfl, hb⟩) | (go_at_call 57; (with_reducible refine (areSkills_any _ _).mono ?_); rintro e w' ⟨rfl, rfl⟩))
    go_ret2
    exact ⟨none, 0, rfl, Own.nil _ _, hb⟩
  have HW := Lib.hid (show fewest11 xs need = few11 xs need from if_pos ⟨hg, hl⟩)
  have h8 := (weaversB_of hg).1
  have HF := Lib.hid (weavers_fast hg)
  have HSK := Lib.hid (weavers_sk hg)
  have HAS := Lib.hid (weavers_asc hg)
  obtain ⟨hn1, hn2⟩ := inB_yes hl
  have hn15 : In15 need := ⟨by omega, hn2⟩
  obtain ⟨N, hN⟩ : ∃ N, Hid (2 ^ xs.length = N) := ⟨_, Lib.hid rfl⟩
  have hN1 : N ≤ 256 := hN.out ▸ pow_le8 h8
  have hn0 : (0 : Int) ≤ (xs.length : Int) := by omega
  have hn64 : (xs.length : Int) < 64 := by omega
  have hpow : (2 : Int) ^ xs.length = (N : Int) := by rw [← hN.out]; simp
  have hwr : IntKind.i64.wrap (N : Int) = (N : Int) := IntWalk.i64_in _ (by omega)
  go_enter Try.func24, Try.ntmps24
  go_wp2_with (first | (go_at_call 14; refine (implAreWeavers_eq A _ c B xs _ _ h hB hg).mono ?_; rintro e w1 ⟨rfl, hb⟩) | (go_at_call 57; (with_reducible refine (areSkills_any _ _).mono ?_); rintro e w' ⟨rfl, rfl⟩))
  clear hpow
  go_loopw [21, 6] (fun i v wr => ∃ (s m : Nat) (F : List Int) (A' : Option Addr) (c' : Nat), s ≤ N ∧ i = .int .i64 s ∧ v = .slice A' m c' ∧ Hid (F.length = m) ∧ Own wr w.heap.size (.slice A' m c') F ∧ Hid (Best xs need s F) ∧ Below w.heap.size w wr) (fun i _ _ => N - (intOf i).toNat)
  case atStart => exact ⟨0, 0, [], none, 0, Nat.zero_le _, rfl, rfl, Lib.hid rfl, Own.nil _ _, Lib.hid (best_zero _ _), hb⟩
  case round =>
    obtain ⟨s, m, F, A', c', hk, rfl, rfl, HL, own, HBest, hb⟩ := hrel
    have hzz := hb.size
    have hBr : B ≤ wr.heap.size := Nat.le_trans hB hzz
    by_cases hlt : s < N
    · have hs1000 : s ≤ 1000 := by omega
      obtain ⟨ids, HI⟩ : ∃ ids, Hid (grpIds xs s = ids) := ⟨_, Lib.hid rfl⟩
      obtain ⟨tg, HG⟩ : ∃ tg, Hid (grpSk xs s 0 = tg) := ⟨_, Lib.hid rfl⟩
      by_cases hc : hasB tg need = true
      rotate_left
      · have hc' := not_false hc
        have HN := Lib.hid (best_skip HBest.out (by unfold hasG; rw [HG.out]; exact hc'))
        clear hc
        go_wp2_with (first | (go_at_call 58; refine (groupOf_any A xs.length c B xs s _ ids tg (h.below hb hB) hBr h8 hs1000 HF HI HG).mono ?_; rintro e w4 ⟨A4, c4, rfl, own4, hb4⟩) | (go_at_call 46; (with_reducible refine (hasSkills_any _ _ _).mono ?_); rintro e w' ⟨rfl, rfl⟩))
        go_roundw
        case rel => exact ⟨s + 1, m, F, A', c', by omega, by go_num, rfl, HL, own.all hb4, HN, hb.trans (hb4.mono hzz)⟩
        case measure => simp [intOf]; omega
      have HC := Lib.hid (show hasG xs need s = true by unfold hasG; rw [HG.out]; exact hc)
      have hil : ids.length ≤ xs.length := by rw [← HI.out]; exact grpIds_len xs s
      by_cases hm0 : m = 0
      · subst hm0
        have HF0 := Lib.hid (List.eq_nil_of_length_eq_zero HL.out)
        have HN := Lib.hid (show Best xs need (s + 1) ids by rw [← HI.out]; exact best_take HBest.out HSK.out hn15 hn1 HC.out (.inl HF0.out))
        go_wp2_with (first | (go_at_call 58; refine (groupOf_any A xs.length c B xs s _ ids tg (h.below hb hB) hBr h8 hs1000 HF HI HG).mono ?_; rintro e w4 ⟨A4, c4, rfl, own4, hb4⟩) | (go_at_call 46; (with_reducible refine (hasSkills_any _ _ _).mono ?_); rintro e w' ⟨rfl, rfl⟩))
        go_roundw
        case rel => exact ⟨s + 1, ids.length, ids, A4, c4, by omega, by go_num, rfl, Lib.hid rfl, own4.mono hzz, HN, hb.trans (hb4.mono hzz)⟩
        case measure => simp [intOf]; omega
      have hm1 : ((m : Int) == 0) = false := by simp [hm0]
      have hFn := Lib.hid (show F ≠ [] by intro e; have := HL.out; rw [e] at this; simp at this; omega)
      obtain ⟨v, hv⟩ : ∃ v, Hid (cmpG ids F = v) := ⟨_, Lib.hid rfl⟩
      have hless := Lib.hid (show decide (v < 0) = lessG ids F by rw [← hv.out]; exact cmpG_less ids F)
      clear hm0
      go_upto_region 9 with (first | (go_at_call 58; refine (groupOf_any A xs.length c B xs s _ ids tg (h.below hb hB) hBr h8 hs1000 HF HI HG).mono ?_; rintro e w4 ⟨A4, c4, rfl, own4, hb4⟩) | (go_at_call 46; (with_reducible refine (hasSkills_any _ _ _).mono ?_); rintro e w' ⟨rfl, rfl⟩))
      replace own := own.all hb4
      replace own4 := own4.mono hzz
      replace hb := hb.trans (hb4.mono hzz)
      have hz4 := hb.size
      clear hb4
      by_cases hv0 : v < 0
      · have HN := Lib.hid (show Best xs need (s + 1) ids by
          have := hless.out
          rw [decide_eq_true hv0, ← HI.out] at this
          rw [← HI.out]
          exact best_take HBest.out HSK.out hn15 hn1 HC.out (.inr this.symm))
        go_wp2_with (go_at_call 59; refine (compareGroups_any _ _ _ _ ids _ _ _ _ F _ v own4.rd own.rd hv.out).mono ?_; rintro e w5 ⟨rfl, hb5⟩)
        go_roundw
        case rel => exact ⟨s + 1, ids.length, ids, A4, c4, by omega, by go_num, rfl, Lib.hid rfl, own4.all hb5, HN, hb.trans (hb5.mono hz4)⟩
        case measure => simp [intOf]; omega
      · have HN := Lib.hid (best_stay HBest.out hFn.out (by
          have := hless.out
          rw [decide_eq_false hv0, ← HI.out] at this
          exact this.symm))
        go_wp2_with (go_at_call 59; refine (compareGroups_any _ _ _ _ ids _ _ _ _ F _ v own4.rd own.rd hv.out).mono ?_; rintro e w5 ⟨rfl, hb5⟩)
        go_roundw
        case rel => exact ⟨s + 1, m, F, A', c', by omega, by go_num, rfl, HL, own.all hb5, HN, hb.trans (hb5.mono hz4)⟩
        case measure => simp [intOf]; omega
    · obtain rfl : s = N := by omega
      have HE := Lib.hid (best_few HSK.out HAS.out hn15 (show Best xs need (2 ^ xs.length) F by rw [hN.out]; exact HBest.out))
      by_cases hm0 : m = 0
      · subst hm0
        have HF0 := Lib.hid (List.eq_nil_of_length_eq_zero HL.out)
        have HE2 := Lib.hid (show fewest11 xs need = ([], false) by rw [HW.out, HE.out, HF0.out]; rfl)
        go_wp2
        go_ret2
        rw [HE2.out]
        exact ⟨A', c', rfl, by have := HF0.out; subst this; exact own, hb⟩
      · have hmp : 0 < m := by omega
        have hmp' : (0 : Int) < (m : Int) := by omega
        have HE2 := Lib.hid (show fewest11 xs need = (F, true) by
          rw [HW.out, HE.out, decide_eq_false (show ¬ F = [] by intro e; have := HL.out; rw [e] at this; simp at this; omega)]
          rfl)
        go_wp2
        go_ret2
        rw [HE2.out]
        exact ⟨A', c', by rw [show (F, true).1.length = m from HL.out]; rfl, by rw [show (F, true).1.length = m from HL.out]; exact own, hb⟩
end Go.Proofs.Ytanfblpibomfaaa
