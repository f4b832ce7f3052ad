/- The walk of the model's AreaNeighbors. No condition. -/
import Derived.Test.YtgahompcejbjoaaNeighbors
namespace Go.Proofs.Ytgahompcejbjoaa
open Go.RowKit

set_option maxRecDepth 100000 in
set_option maxHeartbeats 8000000 in
theorem specAreaNeighbors_any (W H : Int) (A : Option Addr) (n c B : Nat) (xs : List Int) (a : Int) (w : World) (h : Rd w B A n c xs) (hB : B ≤ w.heap.size) :
    Calls Try.prog 16 #[chartV W H (.slice A n c), .int .i64 a] w (OutInts w (nbrsX W H xs a) (hasArea W H xs a)) := by
  cases hg : goodB W H xs with
  | false =>
    have H2 := Lib.hid (hasArea_no1 (a := a) hg)
    have HX := Lib.hid (nbrsX_no H2.out)
    have hb0 := Lib.hid (show Below w.heap.size w ((w.alloc (.cells #[.int .i64 W, .int .i64 H, .slice A n c] 26)).alloc (.cells #[] 3)) from ((Below.refl _ _).alloc (Nat.le_refl _) _).alloc (by simp) _)
    have h' := (h.alloc hB (.cells #[.int .i64 W, .int .i64 H, .slice A n c] 26)).alloc (by simp; omega) (.cells #[] 3)
    have oO := Own.empty (w := w.alloc (.cells #[.int .i64 W, .int .i64 H, .slice A n c] 26)) (lo := w.heap.size) (by simp)
    go_enter Try.func16, Try.ntmps16
    go_wp2_with fail
    refine (l2Good_any W H A n c B xs _ h' (by simp; omega)).mono ?_
    rintro e w1 ⟨rfl, hb⟩
    rw [hg]
    have oO1 := oO.all hb
    have hb1 := hb0.out.trans (hb.mono (by simp; omega))
    clear hb oO
    go_wp2
    go_ret2
    rw [HX.out, H2.out]
    exact ⟨_, 0, by simp, oO1, hb1⟩
  | true =>
    obtain ⟨m, k, b, off, rfl, rfl, rfl, rfl, hm, hm8, hk1, hk8, hl, h64, hN, _⟩ := good_open hg h
    obtain ⟨d, hd⟩ : ∃ d, inB a 0 (((cntOf m xs : Nat) : Int) - 1) = d := ⟨_, rfl⟩
    have H2 := Lib.hid ((hasArea_eq (a := a) hg).trans hd)
    have x0 := (Cx.start (m := m) (k := k) h hB).alloc (.cells #[] 3)
    have oO0 : Own ((w.alloc (.cells #[.int .i64 m, .int .i64 k, .slice (some ⟨b, off, none⟩) xs.length c] 26)).alloc (.cells #[] 3)) w.heap.size (.slice (some ⟨w.heap.size + 1, 0, none⟩) 0 0) [] := by simpa using Own.empty (w := w.alloc (.cells #[.int .i64 m, .int .i64 k, .slice (some ⟨b, off, none⟩) xs.length c] 26)) (lo := w.heap.size) (by simp)
    clear h
    go_enter Try.func16, Try.ntmps16
    go_upto_region 2 with fail
    generalize (w.alloc (.cells #[.int .i64 m, .int .i64 k, .slice (some ⟨b, off, none⟩) xs.length c] 26)).alloc (.cells #[] 3) = w0 at *
    have e0 := x0.c0
    have e1 := x0.c1
    have e2 := x0.c2
    have hz0 := x0.sz
    go_wp2_with fail
    refine (l2Good_any m k _ _ c B xs _ x0.rd (by omega)).mono ?_
    rintro e w1 ⟨rfl, hb⟩
    rw [hg]
    have x1 := x0.all hb
    have oO1 := oO0.all hb
    clear hb e0 e1 e2 hz0 x0 oO0
    have e0 := x1.c0
    have e1 := x1.c1
    have e2 := x1.c2
    have hz1 := x1.sz
    go_wp2_with fail
    refine (l12Areas_any m k b off c B xs _ x1.rd (by omega) hm hm8 hk1 hk8 hl).mono ?_
    rintro e w2 ⟨A2, c2, rfl, own2, hb2, _⟩
    have x2 := x1.all hb2
    have oO2 := oO1.all hb2
    have oN2 := own2.mono (show w.heap.size ≤ w1.heap.size by omega)
    have hcn : cntOf m xs ≤ 64 := Nat.le_trans (cnt_le m xs) h64
    have hLl := Lib.hid (labs_len m xs)
    obtain ⟨gn, rfl, _, _⟩ := oN2.some_ (by rw [hLl.out]; omega)
    have hw1 : IntKind.i64.wrap (((cntOf m xs : Nat) : Int) - 1) = ((cntOf m xs : Nat) : Int) - 1 := IntWalk.i64_in _ (by omega)
    clear own2 hb2 x1 oO1 e0 e1 e2 hz1
    obtain ⟨N, HNn⟩ : ∃ N, Hid (cntOf m xs = N) := ⟨_, rfl⟩
    rw [show cntOf m xs = N from HNn.out] at hw1 hcn hd ⊢
    go_wp2_with fail
    refine (l1In_any a 0 ((N : Int) - 1) w2).mono ?_
    rintro e w3 ⟨rfl, rfl⟩
    rw [hd]
    cases d with
    | false =>
      have HX := Lib.hid (nbrsX_no H2.out)
      have hb4 := x2.bel
      go_wp2
      go_ret2
      rw [HX.out, H2.out]
      exact ⟨_, 0, rfl, oO2, hb4⟩
    | true =>
      have HX := Lib.hid (nbrsX_yes H2.out)
      have HS := Lib.hid (NbS.start m xs a (O := fun x => x < 0 ∧ labAt m xs x = a) (NL := []) (fun x ⟨h, _⟩ => by omega))
      clear hd hw1
      go_wp2
      go_loopw [6, 9] (fun s6 s9 wr => ∃ (i go co : Nat) (M : List Int), i ≤ xs.length ∧ s9 = .int .i64 i ∧ s6 = .slice (some ⟨go, 0, none⟩) M.length co ∧ Hid (NbS m xs a (fun x => x < i ∧ labAt m xs x = a) [] 0 M) ∧ M.length ≤ 4 * i ∧ Hid (M.Pairwise (· < ·)) ∧ Own wr w.heap.size (.slice (some ⟨go, 0, none⟩) M.length co) M ∧
          Own wr w.heap.size (.slice (some ⟨gn, 0, none⟩) xs.length c2) (labsOf m xs) ∧ Cx w m k b off c B xs wr) (fun _ s9 _ => xs.length - (intOf s9).toNat)
      case atStart => exact ⟨0, _, 0, [], Nat.zero_le _, rfl, rfl, HS, by simp, Lib.hid List.Pairwise.nil, oO2, oN2, x2⟩
      case round =>
        clear HS oO2 oN2 x2
        obtain ⟨i, go, co, M, hi, rfl, rfl, HS, hM4, HASC, oO, oN, x1⟩ := hrel
        by_cases hlt : i < xs.length
        · obtain ⟨u, hu⟩ : ∃ u, labAt m xs i = u := ⟨_, rfl⟩
          have eu := own_at oN (j := i) (by rw [hLl.out]; exact hlt) (show (labsOf m xs).getD i 0 = u from hu)
          have HU := Lib.hid hu
          clear hu
          by_cases hua : u = a
          · have hub : (u == a) = true := by simp [hua]
            subst hua
            have hxk : i < m * k := by rw [← hl.out]; exact hlt
            obtain ⟨NL, HNL⟩ : ∃ NL, Hid (nextM m k i = NL) := ⟨_, rfl⟩
            have hNL4 : NL.length ≤ 4 := by rw [← HNL.out]; exact nextM_len _ _ _
            have HNB := Lib.hid (show ∀ y, y ∈ NL ↔ Nb m xs.length i y by rw [← HNL.out, hl.out]; exact fun y => mem_nextM hm hm8 hxk y)
            have HS0 := Lib.hid (HS.out.any NL)
            have e0 := x1.c0
            have e1 := x1.c1
            have e2 := x1.c2
            clear HS
            go_wp2_with fail
            refine (l12Next_eq m k i NL _ _ hm hm8 hk1 hk8 hxk HNL.out).mono ?_
            rintro e w3 ⟨A3, c3, rfl, own3, hb3⟩
            have x3 := x1.all hb3
            have oO3 := oO.all hb3
            have oN3 := oN.all hb3
            have own4 := own3.mono (show w.heap.size ≤ wr.heap.size by have := x1.sz; omega)
            clear own3 e0 e1 e2 eu x1 oO oN hb3
            go_wp2
            go_loopw [6, 11] (fun s6 s11 wr => ∃ (j go co : Nat) (M : List Int), j ≤ NL.length ∧ s11 = .int .i64 j ∧ s6 = .slice (some ⟨go, 0, none⟩) M.length co ∧ Hid (NbS m xs u (fun x => x < i ∧ labAt m xs x = u) NL j M) ∧ M.length ≤ 4 * i + j ∧ Hid (M.Pairwise (· < ·)) ∧ Own wr w.heap.size (.slice (some ⟨go, 0, none⟩) M.length co) M ∧
                Own wr w.heap.size (.slice (some ⟨gn, 0, none⟩) xs.length c2) (labsOf m xs) ∧ Own wr w.heap.size (.slice A3 NL.length c3) (upI NL) ∧ Cx w m k b off c B xs wr) (fun _ s11 _ => NL.length - (intOf s11).toNat)
            case atStart => exact ⟨0, go, co, M, Nat.zero_le _, rfl, rfl, HS0, by omega, HASC, oO3, oN3, own4, x3⟩
            case round =>
              clear HS0 oO3 oN3 own4 x3 hM4 HASC
              obtain ⟨j, go, co, M, hj, rfl, rfl, HS, hM4, HASC, oO, oN, hnx, x1⟩ := hrel
              by_cases hjl : j < NL.length
              · obtain ⟨y, HY⟩ : ∃ y, Hid (NL[j]? = some y) := ⟨NL[j], List.getElem?_eq_getElem hjl⟩
                have hyN : y < xs.length := ((HNB.out y).1 (List.mem_of_getElem? HY.out)).2.1
                obtain ⟨g3, rfl, _, _⟩ := hnx.some_ (by rw [upI_len]; omega)
                have e3 := own_at hnx (j := j) (by rw [upI_len]; exact hjl) (upI_get HY.out)
                have hr := labAt_rng (m := m) hyN
                obtain ⟨v, hv⟩ : ∃ v, labAt m xs y = v := ⟨_, rfl⟩
                have ev := own_at oN (j := y) (by rw [hLl.out]; exact hyN) (show (labsOf m xs).getD y 0 = v from hv)
                have hvi : I64 v := by
                  have := cnt_le m xs
                  rw [hv] at hr
                  exact ⟨by omega, by omega⟩
                have HV := Lib.hid hv
                clear hv hr
                by_cases hva : v = u
                · have hvb : (v == u) = true := by simp [hva]
                  have HS2 := Lib.hid (HS.out.skip HY.out (.inl (by rw [HV.out, hva])))
                  clear HS
                  go_wp2
                  go_roundw
                  case rel => exact ⟨j + 1, go, co, M, hjl, by go_num, rfl, HS2, by omega, HASC, oO, oN, hnx, x1⟩
                  case measure => simp [intOf]; omega
                · have hvb : (v == u) = false := by simp [hva]
                  obtain ⟨dm, hdm⟩ : ∃ dm, decide (v ∈ M) = dm := ⟨_, rfl⟩
                  have hrm := oO.rd
                  cases dm with
                  | true =>
                    have HS2 := Lib.hid (HS.out.skip HY.out (.inr (by rw [HV.out]; exact of_decide_eq_true hdm)))
                    clear HS
                    go_wp2_with ((go_at_call 39; (with_reducible refine (l1Has_eq _ _ _ _ M v _ hrm true hdm).mono ?_); rintro e w' ⟨rfl, rfl⟩))
                    go_roundw
                    case rel => exact ⟨j + 1, go, co, M, hjl, by go_num, rfl, HS2, by omega, HASC, oO, oN, hnx, x1⟩
                    case measure => simp [intOf]; omega
                  | false =>
                    have hnm : v ∉ M := of_decide_eq_false hdm
                    have HS2 := Lib.hid (HS.out.put (M' := putI M v) HY.out (fun z => by
                      rw [putI_mem, HV.out]
                      exact ⟨fun g => g.elim (fun e => .inl ⟨e, hva⟩) .inr, fun g => g.elim (fun e => .inl e.1) .inr⟩))
                    have HASC2 := Lib.hid (putI_asc HASC.out hnm)
                    have HNM := Lib.hid hnm
                    have hl1 : M.length ≤ 1000000 := by omega
                    have hwz : w.heap.size ≤ wr.heap.size := by have := x1.sz; omega
                    have hpl : (putI M v).length ≤ 4 * i + (j + 1) := by rw [putI_len]; omega
                    clear HS hnm
                    go_wp2_with (first | (go_at_call 39; (with_reducible refine (l1Has_eq _ _ _ _ M v _ hrm false hdm).mono ?_); rintro e w' ⟨rfl, rfl⟩) | fail)
                    refine (l1Put_new go 0 M.length co wr.heap.size M v wr hrm (Nat.le_refl _) hvi hl1 HNM.out).mono ?_
                    rintro e w5 ⟨g5, c5, rfl, o5, hb5⟩
                    have x5 := x1.all hb5
                    have oN5 := oN.all hb5
                    have hn5 := hnx.all hb5
                    have o6 := o5.mono hwz
                    clear hb5 o5 x1 oN hnx oO hrm e3 ev
                    go_wp2
                    go_roundw
                    case rel => exact ⟨j + 1, g5, c5, putI M v, hjl, by go_num, rfl, HS2, hpl, HASC2, o6, oN5, hn5, x5⟩
                    case measure => simp [intOf]; omega
              · have HS2 := Lib.hid (HS.out.next (NL' := []) (O' := fun x => x < i + 1 ∧ labAt m xs x = u) (by omega) HNB.out (fun z => by
                  constructor
                  · rintro ⟨hz, hza⟩
                    by_cases e : z = i
                    · exact .inr e
                    · exact .inl ⟨by omega, hza⟩
                  · rintro (⟨hz, hza⟩ | rfl)
                    · exact ⟨by omega, hza⟩
                    · exact ⟨by omega, HU.out⟩))
                clear HS hnx
                go_wp2
                go_roundw
                case rel => exact ⟨i + 1, go, co, M, hlt, by go_num, rfl, HS2, by omega, HASC, oO, oN, x1⟩
                case measure => simp [intOf]; omega
          · have hub : (u == a) = false := by simp [hua]
            have HS2 := Lib.hid (HS.out.congr (NL' := []) (O' := fun x => x < i + 1 ∧ labAt m xs x = a) (fun z => by
              constructor
              · rintro ⟨hz, hza⟩
                refine ⟨?_, hza⟩
                have : z ≠ i := fun e => by subst e; exact hua (HU.out.symm.trans hza)
                omega
              · rintro ⟨hz, hza⟩
                exact ⟨by omega, hza⟩))
            clear HS
            go_wp2
            go_roundw
            case rel => exact ⟨i + 1, go, co, M, hlt, by go_num, rfl, HS2, by omega, HASC, oO, oN, x1⟩
            case measure => simp [intOf]; omega
        · have hie : i = xs.length := by omega
          have HF := Lib.hid (show M = nbrsL m xs a from asc_uniqueI _ _ HASC.out (nbrsL_asc m xs a) (fun y => HS.out.end_ (fun z => by rw [hie]) y))
          have hbl := x1.bel
          clear HS hie
          go_wp2
          go_ret2
          rw [HX.out, H2.out, ← HF.out]
          exact ⟨_, co, rfl, oO, hbl⟩
end Go.Proofs.Ytgahompcejbjoaa
