/- The walks of ColorsUsed, both texts. No condition. -/
import Derived.Test.YtelbmecpheeifaaDesign
import Derived.Test.YtelbmecpheeifaaSortInt
import Derived.Test.YtelbmecpheeifaaPut1
import Derived.Test.YtelbmecpheeifaaHas1
namespace Go.Proofs.Ytelbmecpheeifaa
open Go.RowKit

/-- The color that a design puts in. -/
def colD (d : DesignR) : List Int := if d.f0 = 1 then [d.f3] else if d.f0 = 6 then [d.f1] else []
def colL (xs : List DesignR) : List Int := xs.flatMap colD
def usedC (xs : List DesignR) : List Int := if progB xs = true then setI (colL xs) else []
theorem colD_len (d : DesignR) : (colD d).length ≤ 1 := by unfold colD; split; · simp
                                                           split <;> simp
theorem colL_len : ∀ xs : List DesignR, (colL xs).length ≤ xs.length
  | [] => by simp [colL]
  | a :: xs => by
    have h1 := colL_len xs
    have h2 := colD_len a
    rw [colL, List.flatMap_cons, List.length_append, List.length_cons]
    unfold colL at h1
    omega
theorem colL_step {xs : List DesignR} {k : Nat} {a : DesignR} (h : xs[k]? = some a) : colL (xs.take (k + 1)) = colL (xs.take k) ++ colD a := by
  obtain ⟨hk, rfl⟩ := List.getElem?_eq_some_iff.1 h
  rw [List.take_succ_eq_append_getElem hk, colL, List.flatMap_append]
  simp [colL]
theorem usedC_len (xs : List DesignR) : (usedC xs).length ≤ 100000 := by
  unfold usedC
  split
  · next h =>
    have h1 := setI_len (colL xs)
    have h2 := colL_len xs
    have h3 := prog_len h
    omega
  · simp
/-- What the model has after some designs. -/
structure UsedAt (xs : List DesignR) (k : Nat) (M : List Int) : Prop where
  len : M.length ≤ k
  asc : M.Pairwise (· < ·)
  mem : ∀ y, y ∈ M ↔ y ∈ colL (xs.take k)
theorem usedAt_zero (xs : List DesignR) : UsedAt xs 0 [] := ⟨by simp, List.Pairwise.nil, fun y => by simp [colL]⟩
theorem usedAt_skip {xs : List DesignR} {k : Nat} {M : List Int} {a : DesignR} (h : UsedAt xs k M) (ha : xs[k]? = some a) (hc : ∀ y ∈ colD a, y ∈ M) : UsedAt xs (k + 1) M :=
  ⟨by have := h.len; omega, h.asc, fun y => by
    rw [colL_step ha, List.mem_append, ← h.mem y]
    exact ⟨.inl, fun hy => hy.elim id (hc y)⟩⟩
theorem usedAt_put {xs : List DesignR} {k : Nat} {M : List Int} {a : DesignR} {q : Int} (h : UsedAt xs k M) (ha : xs[k]? = some a) (hc : colD a = [q]) (hq : q ∉ M) : UsedAt xs (k + 1) (putI M q) :=
  ⟨by have := h.len; rw [putI_len]; omega, putI_asc h.asc hq, fun y => by
    rw [colL_step ha, List.mem_append, hc, putI_mem, List.mem_singleton, ← h.mem y]
    exact ⟨Or.symm, Or.symm⟩⟩
theorem usedAt_end {xs : List DesignR} {k : Nat} {M : List Int} (h : UsedAt xs k M) (hk : xs.length ≤ k) : M = setI (colL xs) := by
  have := h.mem
  rw [List.take_of_length_le hk] at this
  exact setI_eq h.asc this
set_option maxRecDepth 100000 in
set_option maxHeartbeats 4000000 in
theorem implColorsUsed_any (A : Option Addr) (n c B : Nat) (xs : List DesignR) (w : World) (h : RdF designF w B A n c xs) (hB : B ≤ w.heap.size) :
    Calls Try.prog 33 #[.slice A n c] w (OutInts w (usedC xs) (progB xs)) := by
  have hn := h.len_lt
  obtain rfl := h.len
  cases hp : progB xs with
  | false =>
    have H2 := Lib.hid (show usedC xs = [] by simp [usedC, hp])
    rw [H2.out]
    go_enter Try.func33, Try.ntmps33
    go_wp2_with fail
    refine (implIsProgram_any A _ c B xs _ h hB).mono ?_
    rintro e w1 ⟨rfl, hb⟩
    rw [hp]
    go_wp2
    go_ret2
    exact ⟨none, 0, rfl, Own.nil _ _, hb⟩
  | true =>
    have H2 := Lib.hid (show usedC xs = setI (colL xs) by simp [usedC, hp])
    have HL20 := prog_len hp
    rw [H2.out]
    go_enter Try.func33, Try.ntmps33
    go_wp2_with fail
    refine (implIsProgram_any A _ c B xs _ h hB).mono ?_
    rintro e w1 ⟨rfl, hb1⟩
    rw [hp]
    go_wp2
    go_loopw [12, 4] (fun i s wr => ∃ (k : Nat) (A6 : Option Addr) (n6 c6 : Nat) (L : List Int), k ≤ xs.length ∧ i = .int .i64 k ∧ s = .slice A6 n6 c6 ∧ Hid (L = colL (xs.take k)) ∧ Own wr w.heap.size (.slice A6 n6 c6) L ∧ Below w.heap.size w wr) (fun i _ _ => xs.length - (intOf i).toNat)
    case atStart => exact ⟨0, none, 0, 0, [], Nat.zero_le _, rfl, rfl, Lib.hid (by simp [colL]), Own.nil _ _, hb1⟩
    case round =>
      clear hb1
      obtain ⟨k, A6, n6, c6, L, hk, rfl, rfl, HL, own6, hb⟩ := hrel
      have hzz := hb.size
      have hL20 : L.length ≤ 20 := by have := colL_len (xs.take k); rw [← HL.out, List.length_take] at this; omega
      by_cases hlt : k < xs.length
      · obtain ⟨b, off, a, rfl, hbB, ha, HX, hc0, hc1, hc2, hc3⟩ := DesignR_at (F := designF) rfl (fun _ => rfl) (fun _ => rfl) (h.all hb hB) hlt
        have HS := Lib.hid (colL_step HX.out)
        rw [← HL.out] at HS
        obtain ⟨f0, f1, f2, f3⟩ := a
        simp only at hc0 hc1 hc2 hc3
        have x4 := Blk.new wr #[.int .i64 f0, .int .i64 f1, .int .i64 f2, .int .i64 f3] 50
        have HB := hb.alloc hzz (.cells #[.int .i64 f0, .int .i64 f1, .int .i64 f2, .int .i64 f3] 50)
        have own6a := own6.alloc (.cells #[.int .i64 f0, .int .i64 f1, .int .i64 f2, .int .i64 f3] 50)
        have hL0 := own6.rd.len
        have hbz : b < wr.heap.size := by omega
        clear hb own6
        go_upto_region 7 with fail
        clear hc0 hc1 hc2 hc3
        generalize wr.alloc (.cells #[.int .i64 f0, .int .i64 f1, .int .i64 f2, .int .i64 f3] 50) = W4 at *
        generalize wr.heap.size = P at *
        have hzW := HB.size
        have e0 := x4.cell 0
        have e1 := x4.cell 1
        have e3 := x4.cell 3
        obtain ⟨i0, i1, i2, i3⟩ := ha
        simp only at i0 i1 i2 i3
        have hL0h := Lib.hid hL0
        clear hL0
        by_cases k1 : f0 = 1
        · subst k1
          have HD := Lib.hid (show colL (xs.take (k + 1)) = L ++ [f3] by rw [HS.out]; simp [colD])
          go_wp2_with (at_builtin; refine wpList_append_one W4 rfl (.tmp 20) (.tmp 23) 29 rfl Try.underlying29 info_int w.heap.size _ L f3 rfl rfl own6a (by omega) i3 hzW ?_)
          intro A2 c2 w2 ho2 hg2
          have hb2 := HB.grown hg2 hzW (fun q hq => (own6a.bd q hq).1)
          clear own6a hg2 HB x4 e0 e1 e3
          go_wp2
          go_roundw
          case rel => exact ⟨k + 1, A2, _, c2, _, by omega, by go_num, rfl, Lib.hid HD.out.symm, ho2, hb2⟩
          case measure => simp [intOf]; omega
        by_cases k6 : f0 = 6
        · subst k6
          have HD := Lib.hid (show colL (xs.take (k + 1)) = L ++ [f1] by rw [HS.out]; simp [colD])
          go_wp2_with (at_builtin; refine wpList_append_one W4 rfl (.tmp 27) (.tmp 30) 29 rfl Try.underlying29 info_int w.heap.size _ L f1 rfl rfl own6a (by omega) i1 hzW ?_)
          intro A2 c2 w2 ho2 hg2
          have hb2 := HB.grown hg2 hzW (fun q hq => (own6a.bd q hq).1)
          clear own6a hg2 HB x4 e0 e1 e3
          go_wp2
          go_roundw
          case rel => exact ⟨k + 1, A2, _, c2, _, by omega, by go_num, rfl, Lib.hid HD.out.symm, ho2, hb2⟩
          case measure => simp [intOf]; omega
        have HD := Lib.hid (show colL (xs.take (k + 1)) = L by rw [HS.out]; simp [colD, k1, k6])
        have k1' : (f0 == 1) = false := by simpa using k1
        have k6' : (f0 == 6) = false := by simpa using k6
        go_wp2
        go_roundw
        case rel => exact ⟨k + 1, A6, n6, c6, L, by omega, by go_num, rfl, Lib.hid HD.out.symm, own6a, HB⟩
        case measure => simp [intOf]; omega
      · have HF := Lib.hid (show L = colL xs by rw [HL.out, List.take_of_length_le (by omega)])
        go_wp2_with fail
        refine (sortInts_any A6 n6 c6 w.heap.size L _ own6 (by omega) hzz).mono ?_
        rintro e w2 ⟨rfl, ho2, hb2⟩
        go_wp2_with fail
        refine (compactInts_any A6 n6 c6 w.heap.size (sortI L) _ ho2 (by rw [sortI_len]; omega)).mono ?_
        rintro e w3 ⟨rfl, ho3, hb3⟩
        rw [show Lib.compact (sortI L) = setI (colL xs) from by rw [HF.out]; rfl] at ho3 ⊢
        go_wp2
        go_ret2
        exact ⟨A6, c6, rfl, ho3, hb.trans (hb2.trans hb3)⟩
set_option maxRecDepth 100000 in
set_option maxHeartbeats 4000000 in
theorem specColorsUsed_any (A : Option Addr) (n c B : Nat) (xs : List DesignR) (w : World) (h : RdF designF w B A n c xs) (hB : B ≤ w.heap.size) :
    Calls Try.prog 32 #[.slice A n c] w (OutInts w (usedC xs) (progB xs)) := by
  have hn := h.len_lt
  obtain rfl := h.len
  have hb0 : Below w.heap.size w (w.alloc (.cells #[] 3)) := (Below.refl _ _).alloc (Nat.le_refl _) _
  have ho0 := Own.empty (w := w) (Nat.le_refl _)
  cases hp : progB xs with
  | false =>
    have H2 := Lib.hid (show usedC xs = [] by simp [usedC, hp])
    rw [H2.out]
    go_enter Try.func32, Try.ntmps32
    go_wp2_with fail
    refine (l9Good_any A _ c B xs _ (h.alloc hB _) (by simp; omega)).mono ?_
    rintro e w1 ⟨rfl, hb⟩
    rw [hp]
    go_wp2
    go_ret2
    exact ⟨_, 0, rfl, ho0.all hb, hb0.trans (hb.mono (by simp))⟩
  | true =>
    have H2 := Lib.hid (show usedC xs = setI (colL xs) by simp [usedC, hp])
    have HL20 := prog_len hp
    rw [H2.out]
    go_enter Try.func32, Try.ntmps32
    go_wp2_with fail
    refine (l9Good_any A _ c B xs _ (h.alloc hB _) (by simp; omega)).mono ?_
    rintro e w1 ⟨rfl, hb⟩
    have ho1 := ho0.all hb
    have hb1 := hb0.trans (hb.mono (by simp))
    rw [hp]
    clear hb ho0 hb0
    go_wp2
    go_loopw [5, 4] (fun i s wr => ∃ (k g n6 c6 : Nat) (M : List Int), k ≤ xs.length ∧ i = .int .i64 k ∧ s = .slice (some ⟨g, 0, none⟩) n6 c6 ∧ Hid (UsedAt xs k M) ∧ Own wr w.heap.size (.slice (some ⟨g, 0, none⟩) n6 c6) M ∧ Below w.heap.size w wr) (fun i _ _ => xs.length - (intOf i).toNat)
    case atStart => exact ⟨0, _, 0, _, [], Nat.zero_le _, rfl, rfl, Lib.hid (usedAt_zero _), ho1, hb1⟩
    case round =>
      clear hb1 ho1
      obtain ⟨k, g, n6, c6, M, hk, rfl, rfl, HM, own6, hb⟩ := hrel
      have hM20 : M.length ≤ 20 := by have := HM.out.len; omega
      have hML := Lib.hid own6.rd.len
      by_cases hlt : k < xs.length
      · obtain ⟨b, off, a, rfl, hbB, ha, HX, hc0, hc1, hc2, hc3⟩ := DesignR_at (F := designF) rfl (fun _ => rfl) (fun _ => rfl) (h.keep fun b o hq => hb.cell (p := ⟨b, o, none⟩) (Nat.lt_of_lt_of_le hq hB)) hlt
        have hD := prog_at hp HX.out
        obtain ⟨f0, f1, f2, f3⟩ := a
        simp only at hc0 hc1 hc2 hc3
        obtain ⟨i0, i1, i2, i3⟩ := ha
        simp only at i0 i1 i2 i3
        have hkn : (k : Int) < (xs.length : Int) := by omega
        have hki : (0 : Int) ≤ (k : Int) := by omega
        by_cases k1 : f0 = 1
        · subst k1
          have hf : 0 ≤ f3 := by
            simp only [designB, if_true, Bool.and_eq_true] at hD
            exact (isColorB_yes hD.2).1
          clear hD
          have HC := Lib.hid (show colD ⟨1, f1, f2, f3⟩ = [f3] by simp [colD])
          by_cases hin : f3 ∈ M
          · have HN := Lib.hid (usedAt_skip HM.out HX.out (by rw [HC.out]; simpa using hin))
            have hd : decide (f3 ∈ M) = true := decide_eq_true hin
            have hrd := own6.rd
            clear hin
            go_wp2_with (go_at_call 45; (with_reducible refine (l1Has_eq _ n6 c6 _ M f3 _ hrd true hd).mono ?_); rintro e w' ⟨rfl, rfl⟩)
            go_roundw
            case rel => exact ⟨k + 1, g, n6, c6, M, by omega, by go_num, rfl, HN, own6, hb⟩
            case measure => simp [intOf]; omega
          · have HN := Lib.hid (usedAt_put HM.out HX.out HC.out hin)
            have hd : decide (f3 ∈ M) = false := decide_eq_false hin
            have hrd := own6.rd
            have hput := l1Put_new g 0 n6 c6 _ M f3 wr hrd (Nat.le_refl _) i3 (by rw [← hML.out]; omega) hin
            clear hin
            go_wp2_with (go_at_call 45; (with_reducible refine (l1Has_eq _ n6 c6 _ M f3 _ hrd false hd).mono ?_); rintro e w' ⟨rfl, rfl⟩)
            refine hput.mono ?_
            rintro e w2 ⟨g2, c2, rfl, ho2, hb2⟩
            have hb3 := hb.trans (hb2.mono hb.size)
            replace ho2 := ho2.mono hb.size
            clear hput hb2 hb own6 hrd hc0 hc1 hc2 hc3
            go_wp2
            go_roundw
            case rel => exact ⟨k + 1, g2, _, c2, _, by omega, by go_num, rfl, HN, ho2, hb3⟩
            case measure => simp [intOf]; omega
        by_cases k6 : f0 = 6
        · subst k6
          have hf : 0 ≤ f1 := by
            have : isColorB f1 = true := by
              simp [designB] at hD
              exact hD.1.1
            exact (isColorB_yes this).1
          clear hD
          have HC := Lib.hid (show colD ⟨6, f1, f2, f3⟩ = [f1] by simp [colD])
          by_cases hin : f1 ∈ M
          · have HN := Lib.hid (usedAt_skip HM.out HX.out (by rw [HC.out]; simpa using hin))
            have hd : decide (f1 ∈ M) = true := decide_eq_true hin
            have hrd := own6.rd
            clear hin
            go_wp2_with (go_at_call 45; (with_reducible refine (l1Has_eq _ n6 c6 _ M f1 _ hrd true hd).mono ?_); rintro e w' ⟨rfl, rfl⟩)
            go_roundw
            case rel => exact ⟨k + 1, g, n6, c6, M, by omega, by go_num, rfl, HN, own6, hb⟩
            case measure => simp [intOf]; omega
          · have HN := Lib.hid (usedAt_put HM.out HX.out HC.out hin)
            have hd : decide (f1 ∈ M) = false := decide_eq_false hin
            have hrd := own6.rd
            have hput := l1Put_new g 0 n6 c6 _ M f1 wr hrd (Nat.le_refl _) i1 (by rw [← hML.out]; omega) hin
            clear hin
            go_wp2_with (go_at_call 45; (with_reducible refine (l1Has_eq _ n6 c6 _ M f1 _ hrd false hd).mono ?_); rintro e w' ⟨rfl, rfl⟩)
            refine hput.mono ?_
            rintro e w2 ⟨g2, c2, rfl, ho2, hb2⟩
            have hb3 := hb.trans (hb2.mono hb.size)
            replace ho2 := ho2.mono hb.size
            clear hput hb2 hb own6 hrd hc0 hc1 hc2 hc3
            go_wp2
            go_roundw
            case rel => exact ⟨k + 1, g2, _, c2, _, by omega, by go_num, rfl, HN, ho2, hb3⟩
            case measure => simp [intOf]; omega
        have HN := Lib.hid (usedAt_skip HM.out HX.out (by simp [colD, k1, k6]))
        have k1' : (f0 == 1) = false := by simpa using k1
        have k6' : (f0 == 6) = false := by simpa using k6
        go_wp2
        go_roundw
        case rel => exact ⟨k + 1, g, n6, c6, M, by omega, by go_num, rfl, HN, own6, hb⟩
        case measure => simp [intOf]; omega
      · have HF := Lib.hid (usedAt_end HM.out (show xs.length ≤ k by omega))
        have hl : n6 = (setI (colL xs)).length := by rw [← HF.out]; exact hML.out.symm
        rw [HF.out] at own6
        clear hML hM20 HM HF
        subst hl
        go_wp2
        go_ret2
        exact ⟨_, c6, rfl, own6, hb⟩
end Go.Proofs.Ytelbmecpheeifaa
