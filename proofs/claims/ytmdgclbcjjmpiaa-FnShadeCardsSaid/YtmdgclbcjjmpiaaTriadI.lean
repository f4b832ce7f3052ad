/- The walk of the program's TriadsOf: the loops. No condition. -/
import Derived.Test.YtmdgclbcjjmpiaaTriad
namespace Go.Proofs.Ytmdgclbcjjmpiaa
open Go.RowKit

theorem kRows_yes {wi : Int} {a b s : ShadeR} {zs : List ShadeR} {k : Nat} {acc R T : List (List Int)} (h : zs[k]? = some s) (h1 : thirdB wi a b = true) (h2 : thirdB wi a s = true) (h3 : thirdB wi b s = true) (ha : acc ++ (kRows wi a b (zs.drop k) ++ R) = T) :
    (acc ++ [[a.f0, b.f0, s.f0]]) ++ (kRows wi a b (zs.drop (k + 1)) ++ R) = T := by
  rw [kRows_at h, if_pos (by simp [triadB, h1, h2, h3])] at ha
  rw [← ha]; simp
theorem kRows_no {wi : Int} {a b s : ShadeR} {zs : List ShadeR} {k : Nat} {acc R T : List (List Int)} (h : zs[k]? = some s) (hn : triadB wi a b s = false) (ha : acc ++ (kRows wi a b (zs.drop k) ++ R) = T) :
    acc ++ (kRows wi a b (zs.drop (k + 1)) ++ R) = T := by
  rw [kRows_at h, if_neg (by simp [hn])] at ha
  exact ha
theorem no1 {wi : Int} {a b s : ShadeR} (h : thirdB wi a b = false) : triadB wi a b s = false := by simp [triadB, h]
theorem no2 {wi : Int} {a b s : ShadeR} (h : thirdB wi a s = false) : triadB wi a b s = false := by simp [triadB, h]
theorem no3 {wi : Int} {a b s : ShadeR} (h : thirdB wi b s = false) : triadB wi a b s = false := by simp [triadB, h]
theorem fine_drop {xs : List ShadeR} (h : ∀ (k : Nat) (a : ShadeR), xs[k]? = some a → Fine a) (q : Nat) : ∀ (k : Nat) (a : ShadeR), (xs.drop q)[k]? = some a → Fine a := fun k a hk => h (q + k) a (by rwa [List.getElem?_drop] at hk)
theorem tri_len {acc l T : List (List Int)} (h : acc ++ l = T) (hT : T.length ≤ 1000) : acc.length ≤ 1000 := by
  subst h; rw [List.length_append] at hT; omega
theorem triadOk_no1 {xs : List ShadeR} {wi : Int} (h : cardB xs = false) : triadX xs wi = [] ∧ triadOk xs wi = false := by simp [triadX, triadOk, h]
theorem triadOk_no2 {xs : List ShadeR} {wi : Int} (h : inB wi 0 4 = false) : triadX xs wi = [] ∧ triadOk xs wi = false := by simp [triadX, triadOk, h]
theorem triadOk_yes {xs : List ShadeR} {wi : Int} (h : cardB xs = true) (h' : inB wi 0 4 = true) : triadX xs wi = iRows wi xs ∧ triadOk xs wi = true := by simp [triadX, triadOk, h, h']
theorem ten3 {n : Nat} (h : n ≤ 10) : n * n * n ≤ 1000 := by
  have h1 : n * n ≤ 10 * 10 := Nat.mul_le_mul h h
  exact Nat.le_trans (Nat.mul_le_mul h1 h) (by decide)

set_option maxRecDepth 100000 in
set_option maxHeartbeats 4000000 in
theorem implTriadsOf_any (A : Option Addr) (n c B : Nat) (xs : List ShadeR) (wi : Int) (w : World) (h : RdF shadeF w B A n c xs) (hB : B ≤ w.heap.size) :
    Calls Try.prog 14 #[.slice A n c, .int .i64 wi] w (OutIntss w (triadX xs wi) (triadOk xs wi)) := by
  have hn := h.len_lt
  have hcap := h.cap
  have hmax := h.max
  unfold maxLen at hmax
  obtain rfl := h.len
  by_cases h1 : cardB xs = true
  rotate_left
  · have h1' := not_false h1
    have H := Lib.hid (triadOk_no1 (wi := wi) h1')
    go_enter Try.func14, Try.ntmps14
    go_wp2_with fail
    refine (implIsShadeCard_any A xs.length c B xs _ h hB).mono ?_
    rintro e w1 ⟨rfl, hb⟩
    go_wp2_with fail
    go_ret2
    rw [H.out.1, H.out.2]
    exact ⟨none, 0, rfl, Own2.nil _ _, hb⟩
  by_cases h2 : inB wi 0 4 = true
  rotate_left
  · have h2' := not_false h2
    have H := Lib.hid (triadOk_no2 (xs := xs) h2')
    go_enter Try.func14, Try.ntmps14
    go_wp2_with fail
    refine (implIsShadeCard_any A xs.length c B xs _ h hB).mono ?_
    rintro e w1 ⟨rfl, hb⟩
    go_wp2_with ((go_at_call 33; (with_reducible refine (isBetween_any _ _ _ _).mono ?_); rintro e w' ⟨rfl, rfl⟩))
    go_ret2
    rw [H.out.1, H.out.2]
    exact ⟨none, 0, rfl, Own2.nil _ _, hb⟩
  have hw04 : 0 ≤ wi ∧ wi ≤ 4 := inB_yes h2
  have hl10 : xs.length ≤ 10 := (cardB_of h1).1
  have hRes := Lib.hid (triadOk_yes h1 h2)
  have HC1 := Lib.hid h1
  obtain ⟨TOT, hTOT⟩ : ∃ TOT, iRows wi xs = TOT := ⟨_, rfl⟩
  have hTl : TOT.length ≤ 1000 := by rw [← hTOT]; exact Nat.le_trans (iRows_len wi xs xs.length (Nat.le_refl _)).1 (ten3 hl10)
  have HTL := Lib.hid hTl
  have HT0 : Hid (iRows wi xs = TOT) := hTOT
  clear hTl hTOT
  go_enter Try.func14, Try.ntmps14
  go_wp2_with fail
  refine (implIsShadeCard_any A xs.length c B xs _ h hB).mono ?_
  rintro e w1 ⟨rfl, hb⟩
  go_wp2_with ((go_at_call 33; (with_reducible refine (isBetween_any _ _ _ _).mono ?_); rintro e w' ⟨rfl, rfl⟩))
  clear h1 h2
  have HB1 := Lib.hid hb
  clear hb
  go_loopw [6, 24] (fun out i wr => ∃ (k : Nat) (A' : Option Addr) (c' : Nat) (acc : List (List Int)), k ≤ xs.length ∧ i = .int .i64 k ∧ out = .slice A' acc.length c' ∧ Hid (acc ++ iRows wi (xs.drop k) = TOT) ∧
      Own2 wr w.heap.size (.slice A' acc.length c') acc ∧ Hid (Below w.heap.size w wr)) (fun _ i _ => xs.length - (intOf i).toNat)
  case atStart => exact ⟨0, none, 0, [], Nat.zero_le _, rfl, rfl, HT0, Own2.nil _ _, HB1⟩
  case round =>
    obtain ⟨i, A6, c6, acc, hi, rfl, rfl, HACC, ho, HB⟩ := hrel
    by_cases hlt : i < xs.length
    · have hRi := h.all HB.out hB
      have hzi := HB.out.size
      obtain ⟨ba, offa, a, ea, hba, oka, HXa, ca0, ca1, ca2, ca3, ca4⟩ := ShadeR_at (F := shadeF) rfl (fun _ => rfl) (fun _ => rfl) hRi hlt
      have hfa := card_fine HC1.out HXa.out
      have HIR := Lib.hid (iRows_at (wi := wi) HXa.out)
      have ia0 : I64 a.f0 := oka.1
      have x8 := Blk.new wr #[.int .i64 a.f0, .string a.f1, .int .i64 a.f2, .int .i64 a.f3, .int .i64 a.f4] 30
      have o1 := ho.all ((Below.refl wr.heap.size wr).alloc (Nat.le_refl _) (.cells #[.int .i64 a.f0, .string a.f1, .int .i64 a.f2, .int .i64 a.f3, .int .i64 a.f4] 30))
      have HB2 := Lib.hid (HB.out.alloc hzi (.cells #[.int .i64 a.f0, .string a.f1, .int .i64 a.f2, .int .i64 a.f3, .int .i64 a.f4] 30))
      have hRi2 := hRi.alloc (by omega) (.cells #[.int .i64 a.f0, .string a.f1, .int .i64 a.f2, .int .i64 a.f3, .int .i64 a.f4] 30)
      have hi1 : i + 1 ≤ xs.length := hlt
      have hl0 : 0 < xs.length := by omega
      have hwr : IntKind.i64.wrap ((i : Int) + 1) = ((i + 1 : Nat) : Int) := by rw [IntWalk.i64_in _ (by omega)]; omega
      clear ho HB HXa
      subst ea
      go_wp2_with (refine wpList_rest rfl (.tmp 29) (.tmp 31) rfl _ B xs.length c (i + 1) xs _ rfl rfl ?hq hi1 hl0 hRi2 ?_)
      case hq => omega
      intro A9 hR9
      have HA1 : Hid (acc ++ (jRows wi a (xs.drop (i + 1)) ++ iRows wi (xs.drop (i + 1))) = TOT) := by rw [← HIR.out]; exact HACC.out
      have HFY : Hid (∀ (k : Nat) (b : ShadeR), (xs.drop (i + 1))[k]? = some b → Fine b) := fine_drop (fun k a ha => card_fine HC1.out ha) (i + 1)
      obtain ⟨R1, hR1⟩ : ∃ R1, iRows wi (xs.drop (i + 1)) = R1 := ⟨_, rfl⟩
      rw [hR1] at HA1
      have HR1 := Lib.hid hR1
      obtain ⟨ys, hys⟩ : ∃ ys, xs.drop (i + 1) = ys := ⟨_, rfl⟩
      rw [hys] at hR9 HA1 HFY
      have hn9 : xs.length - (i + 1) ≤ 9 := by omega
      have hc9 : c - (i + 1) ≤ c := by omega
      clear hR1 hys HIR HACC hRi hRi2 ca0 ca1 ca2 ca3 ca4 hwr hl0
      generalize xs.length - (i + 1) = n9 at *
      generalize c - (i + 1) = c9 at *
      have hBw : B ≤ wr.heap.size := by omega
      generalize wr.alloc (.cells #[.int .i64 a.f0, .string a.f1, .int .i64 a.f2, .int .i64 a.f3, .int .i64 a.f4] 30) = W2 at *
      generalize wr.heap.size = P at *
      go_wp2
      go_loopw [6, 35] (fun out j wr => ∃ (k : Nat) (A' : Option Addr) (c' : Nat) (acc : List (List Int)), k ≤ n9 ∧ j = .int .i64 k ∧ out = .slice A' acc.length c' ∧ Hid (acc ++ (jRows wi a (ys.drop k) ++ R1) = TOT) ∧
          Own2 wr w.heap.size (.slice A' acc.length c') acc ∧ Hid (Below w.heap.size w wr) ∧ Blk wr P 30 #[.int .i64 a.f0, .string a.f1, .int .i64 a.f2, .int .i64 a.f3, .int .i64 a.f4] ∧ RdF shadeF wr B A9 n9 c9 ys) (fun _ j _ => n9 - (intOf j).toNat)
      case atStart => exact ⟨0, A6, c6, acc, Nat.zero_le _, rfl, rfl, HA1, o1, HB2, x8, hR9⟩
      case round =>
        obtain ⟨j, A7, c7, acc2, hj, rfl, rfl, HACC2, ho, HB, x8, hR9⟩ := hrel
        have hzr := HB.out.size
        by_cases hlt2 : j < n9
        · obtain ⟨bb, offb, b, eb, hbb, okb, HXb, cb0, cb1, cb2, cb3, cb4⟩ := ShadeR_at (F := shadeF) rfl (fun _ => rfl) (fun _ => rfl) hR9 hlt2
          have hfb := HFY.out j b HXb.out
          have HJR := Lib.hid (jRows_at (wi := wi) (a := a) HXb.out)
          have ib0 : I64 b.f0 := okb.1
          have x11 := Blk.new wr #[.int .i64 b.f0, .string b.f1, .int .i64 b.f2, .int .i64 b.f3, .int .i64 b.f4] 30
          replace x8 := x8.alloc (.cells #[.int .i64 b.f0, .string b.f1, .int .i64 b.f2, .int .i64 b.f3, .int .i64 b.f4] 30)
          have o3 := ho.all ((Below.refl wr.heap.size wr).alloc (Nat.le_refl _) (.cells #[.int .i64 b.f0, .string b.f1, .int .i64 b.f2, .int .i64 b.f3, .int .i64 b.f4] 30))
          have HB4 := Lib.hid (HB.out.alloc hzr (.cells #[.int .i64 b.f0, .string b.f1, .int .i64 b.f2, .int .i64 b.f3, .int .i64 b.f4] 30))
          have hBw2 : B ≤ wr.heap.size := by omega
          have hR10 := hR9.alloc hBw2 (.cells #[.int .i64 b.f0, .string b.f1, .int .i64 b.f2, .int .i64 b.f3, .int .i64 b.f4] 30)
          have hj1 : j + 1 ≤ n9 := hlt2
          have hl0 : 0 < n9 := by omega
          clear ho HB HXb
          subst eb
          go_wp2_with (refine wpList_rest rfl (.tmp 40) (.tmp 42) rfl _ B n9 c9 (j + 1) ys _ rfl rfl ?hq hj1 hl0 hR10 ?_)
          case hq => omega
          intro A10 hR11
          have HA2 : Hid (acc2 ++ (kRows wi a b (ys.drop (j + 1)) ++ (jRows wi a (ys.drop (j + 1)) ++ R1)) = TOT) := by
            have := HACC2.out
            rw [HJR.out, List.append_assoc] at this
            exact this
          have HFZ : Hid (∀ (k : Nat) (b : ShadeR), (ys.drop (j + 1))[k]? = some b → Fine b) := fine_drop HFY.out (j + 1)
          obtain ⟨R2, hR2⟩ : ∃ R2, jRows wi a (ys.drop (j + 1)) ++ R1 = R2 := ⟨_, rfl⟩
          rw [hR2] at HA2
          have HR2 := Lib.hid hR2
          obtain ⟨zs, hzs⟩ : ∃ zs, ys.drop (j + 1) = zs := ⟨_, rfl⟩
          rw [hzs] at hR11 HA2 HFZ
          have hn10 : n9 - (j + 1) ≤ 9 := by omega
          have hc10 : c9 - (j + 1) ≤ c := by omega
          clear hR2 hzs HJR HACC2 hR9 cb0 cb1 cb2 cb3 cb4 hl0
          generalize n9 - (j + 1) = n10 at *
          generalize c9 - (j + 1) = c10 at *
          generalize wr.alloc (.cells #[.int .i64 b.f0, .string b.f1, .int .i64 b.f2, .int .i64 b.f3, .int .i64 b.f4] 30) = W3 at *
          generalize wr.heap.size = Q at *
          go_wp2
          go_loopw [6, 45] (fun out jj wr => ∃ (k : Nat) (A' : Option Addr) (c' : Nat) (acc : List (List Int)), k ≤ n10 ∧ jj = .int .i64 k ∧ out = .slice A' acc.length c' ∧ Hid (acc ++ (kRows wi a b (zs.drop k) ++ R2) = TOT) ∧
              Own2 wr w.heap.size (.slice A' acc.length c') acc ∧ Hid (Below w.heap.size w wr) ∧ Blk wr P 30 #[.int .i64 a.f0, .string a.f1, .int .i64 a.f2, .int .i64 a.f3, .int .i64 a.f4] ∧ Blk wr Q 30 #[.int .i64 b.f0, .string b.f1, .int .i64 b.f2, .int .i64 b.f3, .int .i64 b.f4] ∧ RdF shadeF wr B (some ⟨bb, offb, none⟩) n9 c9 ys ∧ RdF shadeF wr B A10 n10 c10 zs) (fun _ jj _ => n10 - (intOf jj).toNat)
          case atStart => exact ⟨0, A7, c7, acc2, Nat.zero_le _, rfl, rfl, HA2, o3, HB4, x8, x11, hR10, hR11⟩
          case round =>
            obtain ⟨k, A8, c8, acc3, hk, rfl, rfl, HACC3, ho, HB, x8, x11, hRy, hRz⟩ := hrel
            have hzq := HB.out.size
            by_cases hlt3 : k < n10
            · obtain ⟨bs, offs, s, es, hbs, oks, HXs, cs0, cs1, cs2, cs3, cs4⟩ := ShadeR_at (F := shadeF) rfl (fun _ => rfl) (fun _ => rfl) hRz hlt3
              subst es
              have hfs := HFZ.out k s HXs.out
              have is0 : I64 s.f0 := oks.1
              have x13 := Blk.new wr #[.int .i64 s.f0, .string s.f1, .int .i64 s.f2, .int .i64 s.f3, .int .i64 s.f4] 30
              replace x8 := x8.alloc (.cells #[.int .i64 s.f0, .string s.f1, .int .i64 s.f2, .int .i64 s.f3, .int .i64 s.f4] 30)
              replace x11 := x11.alloc (.cells #[.int .i64 s.f0, .string s.f1, .int .i64 s.f2, .int .i64 s.f3, .int .i64 s.f4] 30)
              replace ho := ho.all ((Below.refl wr.heap.size wr).alloc (Nat.le_refl _) (.cells #[.int .i64 s.f0, .string s.f1, .int .i64 s.f2, .int .i64 s.f3, .int .i64 s.f4] 30))
              replace HB := Lib.hid (HB.out.alloc hzq (.cells #[.int .i64 s.f0, .string s.f1, .int .i64 s.f2, .int .i64 s.f3, .int .i64 s.f4] 30))
              have hBz : B ≤ (wr.alloc (.cells #[.int .i64 s.f0, .string s.f1, .int .i64 s.f2, .int .i64 s.f3, .int .i64 s.f4] 30)).heap.size := by simp; omega
              replace hRz := hRz.alloc (by omega) (.cells #[.int .i64 s.f0, .string s.f1, .int .i64 s.f2, .int .i64 s.f3, .int .i64 s.f4] 30)
              replace hRy := hRy.alloc (by omega) (.cells #[.int .i64 s.f0, .string s.f1, .int .i64 s.f2, .int .i64 s.f3, .int .i64 s.f4] 30)
              have hal : acc3.length ≤ 1000 := tri_len HACC3.out HTL.out
              have e80 := x8.cell 0
              have e81 := x8.cell 1
              have e82 := x8.cell 2
              have e83 := x8.cell 3
              have e84 := x8.cell 4
              have e110 := x11.cell 0
              have e111 := x11.cell 1
              have e112 := x11.cell 2
              have e113 := x11.cell 3
              have e114 := x11.cell 4
              have e130 := x13.cell 0
              have e131 := x13.cell 1
              have e132 := x13.cell 2
              have e133 := x13.cell 3
              have e134 := x13.cell 4
              go_wp2_with fail
              clear cs0 cs1 cs2 cs3 cs4
              generalize wr.alloc (.cells #[.int .i64 s.f0, .string s.f1, .int .i64 s.f2, .int .i64 s.f3, .int .i64 s.f4] 30) = W4 at *
              generalize wr.heap.size = U at *
              refine (isThird_any a b wi _ hfa hfb hw04).mono ?_
              rintro e w5 ⟨rfl, hb5⟩
              clear e80 e81 e82 e83 e84 e110 e111 e112 e113 e114 e130 e131 e132 e133 e134
              replace x8 := x8.all hb5
              replace x11 := x11.all hb5
              replace x13 := x13.all hb5
              replace ho := ho.all hb5
              replace hRz := hRz.all hb5 hBz
              replace hRy := hRy.all hb5 hBz
              replace HB := Lib.hid (HB.out.trans (hb5.mono HB.out.size))
              replace hBz := Nat.le_trans hBz hb5.size
              have e80 := x8.cell 0
              have e81 := x8.cell 1
              have e82 := x8.cell 2
              have e83 := x8.cell 3
              have e84 := x8.cell 4
              have e110 := x11.cell 0
              have e111 := x11.cell 1
              have e112 := x11.cell 2
              have e113 := x11.cell 3
              have e114 := x11.cell 4
              have e130 := x13.cell 0
              have e131 := x13.cell 1
              have e132 := x13.cell 2
              have e133 := x13.cell 3
              have e134 := x13.cell 4
              clear hb5
              by_cases t1 : thirdB wi a b = true
              rotate_left
              · have t1' := not_false t1
                go_wp2_with fail
                go_roundw
                case rel => exact ⟨k + 1, A8, c8, acc3, by omega, by go_num, rfl, Lib.hid (kRows_no HXs.out (no1 t1') HACC3.out), ho, HB, x8, x11, hRy, hRz⟩
                case measure => simp [intOf]; omega
              go_wp2_with fail
              refine (isThird_any a s wi _ hfa hfs hw04).mono ?_
              rintro e w6 ⟨rfl, hb6⟩
              clear e80 e81 e82 e83 e84 e110 e111 e112 e113 e114 e130 e131 e132 e133 e134
              replace x8 := x8.all hb6
              replace x11 := x11.all hb6
              replace x13 := x13.all hb6
              replace ho := ho.all hb6
              replace hRz := hRz.all hb6 hBz
              replace hRy := hRy.all hb6 hBz
              replace HB := Lib.hid (HB.out.trans (hb6.mono HB.out.size))
              replace hBz := Nat.le_trans hBz hb6.size
              have e80 := x8.cell 0
              have e81 := x8.cell 1
              have e82 := x8.cell 2
              have e83 := x8.cell 3
              have e84 := x8.cell 4
              have e110 := x11.cell 0
              have e111 := x11.cell 1
              have e112 := x11.cell 2
              have e113 := x11.cell 3
              have e114 := x11.cell 4
              have e130 := x13.cell 0
              have e131 := x13.cell 1
              have e132 := x13.cell 2
              have e133 := x13.cell 3
              have e134 := x13.cell 4
              clear hb6
              by_cases t2 : thirdB wi a s = true
              rotate_left
              · have t2' := not_false t2
                go_wp2_with fail
                go_roundw
                case rel => exact ⟨k + 1, A8, c8, acc3, by omega, by go_num, rfl, Lib.hid (kRows_no HXs.out (no2 t2') HACC3.out), ho, HB, x8, x11, hRy, hRz⟩
                case measure => simp [intOf]; omega
              go_wp2_with fail
              refine (isThird_any b s wi _ hfb hfs hw04).mono ?_
              rintro e w7 ⟨rfl, hb7⟩
              clear e80 e81 e82 e83 e84 e110 e111 e112 e113 e114 e130 e131 e132 e133 e134
              replace x8 := x8.all hb7
              replace x11 := x11.all hb7
              replace x13 := x13.all hb7
              replace ho := ho.all hb7
              replace hRz := hRz.all hb7 hBz
              replace hRy := hRy.all hb7 hBz
              replace HB := Lib.hid (HB.out.trans (hb7.mono HB.out.size))
              replace hBz := Nat.le_trans hBz hb7.size
              have e80 := x8.cell 0
              have e81 := x8.cell 1
              have e82 := x8.cell 2
              have e83 := x8.cell 3
              have e84 := x8.cell 4
              have e110 := x11.cell 0
              have e111 := x11.cell 1
              have e112 := x11.cell 2
              have e113 := x11.cell 3
              have e114 := x11.cell 4
              have e130 := x13.cell 0
              have e131 := x13.cell 1
              have e132 := x13.cell 2
              have e133 := x13.cell 3
              have e134 := x13.cell 4
              clear hb7
              by_cases t3 : thirdB wi b s = true
              rotate_left
              · have t3' := not_false t3
                go_wp2_with fail
                go_roundw
                case rel => exact ⟨k + 1, A8, c8, acc3, by omega, by go_num, rfl, Lib.hid (kRows_no HXs.out (no3 t3') HACC3.out), ho, HB, x8, x11, hRy, hRz⟩
                case measure => simp [intOf]; omega
              have HYES := Lib.hid (kRows_yes HXs.out t1 t2 t3 HACC3.out)
              have hzw := HB.out.size
              obtain ⟨hs0, _, hrow0, _⟩ := id ho
              obtain ⟨_, _, _, hbd⟩ := ho.form
              go_wp2_with (refine wpList_push3 rfl w7 (.tmp 65) (.tmp 73) 32 rfl Try.underlying32 info_ints w.heap.size acc3.length _ acc3 a.f0 b.f0 s.f0 rfl rfl rfl ho (by omega) ia0 ib0 is0 hzw ?_)
              intro A11 c11 w8 ho8 hg8
              have y8 := x8.mark hg8 (row_ne hrow0 x8 (by decide))
              have y11 := x11.mark hg8 (row_ne hrow0 x11 (by decide))
              have zRy := hRy.mark hg8 (fun k hk => Nat.le_trans hB (hbd k hk).1) hBz
              have zRz := hRz.mark hg8 (fun k hk => Nat.le_trans hB (hbd k hk).1) hBz
              have HB8 := Lib.hid (HB.out.grown hg8 hzw (fun q hq => (hbd q hq).1))
              clear hg8 hrow0 hbd
              go_wp2
              go_roundw
              case rel => exact ⟨k + 1, A11, c11, acc3 ++ [[a.f0, b.f0, s.f0]], by omega, by go_num, by rw [List.length_append]; rfl, HYES, by rw [List.length_append]; exact ho8, HB8, y8, y11, zRy, zRz⟩
              case measure => simp [intOf]; omega
            · have HE : Hid (acc3 ++ (jRows wi a (ys.drop (j + 1)) ++ R1) = TOT) := by
                have := HACC3.out
                rw [kRows_none wi a b (by rw [hRz.len]; omega), List.nil_append, ← HR2.out] at this
                exact this
              go_wp2
              go_roundw
              case rel => exact ⟨j + 1, A8, c8, acc3, by omega, by go_num, rfl, HE, ho, HB, x8, hRy⟩
              case measure => simp [intOf]; omega
        · have HE : Hid (acc2 ++ iRows wi (xs.drop (i + 1)) = TOT) := by
            have := HACC2.out
            rw [jRows_none wi a (by rw [hR9.len]; omega), List.nil_append, ← HR1.out] at this
            exact this
          go_wp2
          go_roundw
          case rel => exact ⟨i + 1, A7, c7, acc2, by omega, by go_num, rfl, HE, ho, HB⟩
          case measure => simp [intOf]; omega
    · have HE : acc = TOT := by
        have := HACC.out
        rw [iRows_none wi (by omega), List.append_nil] at this
        exact this
      subst HE
      go_wp2
      go_ret2
      rw [hRes.out.1, hRes.out.2, HT0.out]
      exact ⟨A6, c6, rfl, ho, HB.out⟩
end Go.Proofs.Ytmdgclbcjjmpiaa
