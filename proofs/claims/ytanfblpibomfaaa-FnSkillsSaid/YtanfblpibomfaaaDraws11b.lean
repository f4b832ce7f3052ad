/- The draw of a list of weavers. Condition: few draws. -/
import Derived.Test.YtanfblpibomfaaaDraws11
namespace Go.Proofs.Ytanfblpibomfaaa
open Go.RowKit

/-- What a draw of a card of weavers leaves. -/
def DrewWeavers (w : World) (p k : Nat) (e : Ending) (w' : World) : Prop := ∃ (A : Option Addr) (c : Nat) (xs : List WeaverR), e = .returned (.slice A xs.length c) ∧ xs.length ≤ 11 ∧ OwnF weaverF w' w.heap.size (.slice A xs.length c) xs ∧ Cur w' p k ∧ w.grownBy w' (some p)
set_option maxRecDepth 100000 in
set_option maxHeartbeats 16000000 in
theorem weavers_any (p k : Nat) (w : World) (h : Cur w p k) (hk : k + 10000 ≤ 4294967296) : Calls Try.prog 34 #[.pointer (some ⟨p, 0, none⟩)] w (DrewWeavers w p (k + 10000)) := by
  have hpw := h.lt
  have hb0 : Below w.heap.size w (w.alloc (.cells #[] 40)) := (Below.refl _ _).alloc (Nat.le_refl _) _
  have HG := below_grown (row := some p) hb0
  have hc0 := h.all hb0
  have ho0 := OwnF.empty weaverF (w := w) (Nat.le_refl _)
  clear h hb0
  go_enter Try.func34, Try.ntmps34
  go_wp2_with fail
  refine (pick_any p k 7 _ hc0 (by omega) (by omega) (by omega)).mono ?_
  rintro e w1 ⟨x, rfl, ⟨x0, x1⟩, hc1, hg1⟩
  have ho1 := ho0.mark hg1 (fun z z' hz hz' => by cases hz; have := (ho0.bd z' hz').1; omega)
  replace HG := Lib.hid (grown_trans HG hg1)
  obtain ⟨N, rfl⟩ := Int.eq_ofNat_of_zero_le x0
  have hN : N ≤ 6 := by omega
  clear hc0 ho0 hg1 x0 x1
  go_wp2
  go_loopw [3, 4, 5] (fun out ii nn wr => ∃ (g c : Nat) (xs : List WeaverR) (iv : Int) (m : Nat), out = .slice (some ⟨g, 0, none⟩) xs.length c ∧ ii = .int .i64 iv ∧ nn = .int .i64 (m : Int) ∧ m ≤ 6 ∧ xs.length + m ≤ 6 ∧ -1000 * (6 - (m : Int)) ≤ iv ∧ iv ≤ 1000 * (6 - (m : Int)) ∧
      OwnF weaverF wr w.heap.size (.slice (some ⟨g, 0, none⟩) xs.length c) xs ∧ Cur wr p (k + 2 + 200 * (6 - m)) ∧ Hid (w.grownBy wr (some p))) (fun _ _ nn _ => (intOf nn).toNat)
  case atStart => exact ⟨w.heap.size, 0, [], 0, N, rfl, rfl, rfl, hN, by simpa using hN, by omega, by omega, ho1, hc1.more (by omega), HG⟩
  case round =>
    obtain ⟨g, c, xs, iv, m, rfl, rfl, rfl, hm6, hxm, hi1, hi2, ho, hc, HGr⟩ := hrel
    have hzr := HGr.out.size
    have hgb := ho.bd g rfl
    have hbdo := fun q hq => (ho.bd q hq).1
    have hpr := hc.lt
    by_cases hm : 0 < m
    · have hmi : (0 : Int) < (m : Int) := by omega
      have e1 : IntKind.i64.wrap (iv + 1) = iv + 1 := IntWalk.i64_in _ (by omega)
      go_wp2_with fail
      refine (pick_any p _ 3 _ hc (by omega) (by omega) (by omega)).mono ?_
      rintro e w2 ⟨y, rfl, ⟨y0, y1⟩, hc2, hg2⟩
      have hz2 := hg2.size
      have ho2 := ho.mark hg2 (fun z z' hz hz' => by cases hz; have := hbdo z' hz'; omega)
      have HG2 := Lib.hid (grown_trans HGr.out hg2)
      have e2 : IntKind.i64.wrap (iv + 1 + y) = iv + 1 + y := IntWalk.i64_in _ (by omega)
      have Iid : I64 (iv + 1 + y) := ⟨by omega, by omega⟩
      have hb2 := (Below.refl w2.heap.size w2).alloc (Nat.le_refl _) (.cells #[] 40)
      have oN := OwnF.empty weaverF (w := w2) (Nat.le_refl _)
      have hgl : g < w2.heap.size := by omega
      have hblo := fun q hq => (ho2.bd q hq).2
      have ho2' := ho2.all hb2
      have hc2' := hc2.all hb2
      have HG2' := Lib.hid (grown_trans HG2.out (below_grown (row := some p) hb2))
      have hz2b := HG2.out.size
      clear hc ho HGr hg2 ho2 hc2 HG2 hb2
      go_wp2_with (refine wpList_appendF weaverF rfl _ (.tmp 20) (.tmp 21) 24 (.agg #[.int .i64 0, .string ⟨#[]⟩, .int .i64 0, .int .i64 0, .int .i64 0]) 48 rfl Try.underlying24 info_Weaver rfl (by decide) (by decide) w2.heap.size _ [] xs g 0 xs.length c _ rfl rfl oN ho2'.rd (by simp; omega) (by simp) ?_)
      intro A3 c3 w3 ho3 hg3
      (try simp only [List.length_nil, Nat.zero_add, List.nil_append] at ho3 ⊢)
      have ho3o := ho2'.mark hg3 (fun z z' hz hz' => by
        have h1 : w2.heap.size = z := by simpa [Value.ownBlock] using hz
        have := hblo z' hz'
        omega)
      have hc3 := hc2'.mark hg3 (fun z hz => by
        have h1 : w2.heap.size = z := by simpa [Value.ownBlock] using hz
        omega)
      have HG3 := Lib.hid (grown_far HG2'.out hg3 (fun z hz => by
        have h1 : w2.heap.size = z := by simpa [Value.ownBlock] using hz
        omega))
      have hz3 := hg3.size
      (try simp at hz3)
      clear oN ho2' hc2' HG2' hg3
      go_wp2_with fail
      refine (weaver_any p _ (iv + 1 + y) _ hc3 (by omega) Iid).mono ?_
      rintro e w4 ⟨s, rfl, ⟨hs, _⟩, hc4, hg4⟩
      have hbd3 := fun q hq => (ho3.bd q hq).1
      have ho4 := ho3.mark hg4 (fun z z' hz hz' => by cases hz; have := hbd3 z' hz'; omega)
      have ho4o := ho3o.mark hg4 (fun z z' hz hz' => by cases hz; have := hbdo z' hz'; omega)
      have HG4 := Lib.hid (grown_trans HG3.out hg4)
      have hz4 := hg4.size
      have hz4b := HG4.out.size
      have hb4 := (Below.refl w4.heap.size w4).alloc (Nat.le_refl _) (.cells #[.int .i64 s.f0, .string s.f1, .int .i64 s.f2, .int .i64 s.f3, .int .i64 s.f4] 40)
      have ho5 := ho4.all hb4
      have ho5o := ho4o.all hb4
      have hc5 := hc4.all hb4
      have HG5 := Lib.hid (grown_trans HG4.out (below_grown (row := some p) hb4))
      have hr := RdF.lit (F := weaverF) (w := w4) (cs := #[.int .i64 s.f0, .string s.f1, .int .i64 s.f2, .int .i64 s.f3, .int .i64 s.f4]) (a := s) rfl hs
      clear hc3 ho3 ho3o ho4 ho4o HG3 HG4 hg4 hb4 hc4 e1 e2
      go_wp2_with (refine wpList_appendF weaverF rfl _ (.tmp 22) (.tmp 26) 24 (.agg #[.int .i64 0, .string ⟨#[]⟩, .int .i64 0, .int .i64 0, .int .i64 0]) 48 rfl Try.underlying24 info_Weaver rfl (by decide) (by decide) w2.heap.size _ xs [s] w4.heap.size 0 1 1 _ rfl rfl ho5 hr (by simp; omega) (by simp; omega) ?_)
      intro A6 c6 w6 ho6 hg6
      have ho6o := ho5o.mark hg6 (fun z z' hz hz' => by have := hbd3 z hz; have := hblo z' hz'; omega)
      have hc6 := hc5.mark hg6 (fun z hz => by have := hbd3 z hz; omega)
      have HG6 := Lib.hid (grown_far HG5.out hg6 (fun z hz => by have := hbd3 z hz; omega))
      obtain ⟨g6, rfl, hg6l, hg6h⟩ := ho6.some_ (by simp)
      have hz6 := HG6.out.size
      clear hc5 ho5 ho5o HG5 hg6 hr
      go_wp2_with fail
      refine (l11Good_any (some ⟨g6, 0, none⟩) _ c6 _ (xs ++ [s]) _ ho6.rd (Nat.le_refl _)).mono ?_
      rintro e w7 ⟨rfl, hb7⟩
      have ho7 := ho6.all hb7
      have ho7o := ho6o.all hb7
      have hc7 := hc6.all hb7
      have HG7 := Lib.hid (grown_trans HG6.out (below_grown (row := some p) hb7))
      obtain ⟨gd, hgd⟩ : ∃ gd, weaversB (xs ++ [s]) = gd := ⟨_, rfl⟩
      rw [hgd]
      clear hgd ho6 ho6o hc6 HG6 hb7
      cases gd with
      | true =>
        go_wp2
        go_roundw
        case rel => exact ⟨g6, c6, xs ++ [s], iv + 1 + y, m - 1, by rw [List.length_append]; rfl, rfl, by go_num, by omega, by rw [List.length_append]; simp; omega, by omega, by omega, by rw [List.length_append]; exact ho7.mono (by omega), hc7.more (by omega), HG7⟩
        case measure => simp [intOf]; omega
      | false =>
        have hp7 := hc7.lt
        have hz7 := HG7.out.size
        go_wp2_with fail
        refine (one_any p _ 30 _ hc7 (by omega) (by omega) (by omega)).mono ?_
        rintro e w8 ⟨d, rfl, hc8, hg8⟩
        have hbd7 := fun q hq => (ho7.bd q hq).1
        have ho8 := ho7.mark hg8 (fun z z' hz hz' => by cases hz; have := hbd7 z' hz'; omega)
        have ho8o := ho7o.mark hg8 (fun z z' hz hz' => by cases hz; have := hbdo z' hz'; omega)
        have HG8 := Lib.hid (grown_trans HG7.out hg8)
        clear ho7 ho7o hc7 HG7 hg8
        cases d with
        | true =>
          go_wp2
          go_roundw
          case rel => exact ⟨g6, c6, xs ++ [s], iv + 1 + y, m - 1, by rw [List.length_append]; rfl, rfl, by go_num, by omega, by rw [List.length_append]; simp; omega, by omega, by omega, by rw [List.length_append]; exact ho8.mono (by omega), hc8.more (by omega), HG8⟩
          case measure => simp [intOf]; omega
        | false =>
          go_wp2
          go_roundw
          case rel => exact ⟨g, c, xs, iv + 1 + y, m - 1, rfl, rfl, by go_num, by omega, by omega, by omega, by omega, ho8o, hc8.more (by omega), HG8⟩
          case measure => simp [intOf]; omega
    · have hm0 : m = 0 := by omega
      subst hm0
      go_wp2_with fail
      refine (one_any p _ 24 _ hc (by omega) (by omega) (by omega)).mono ?_
      rintro e w2 ⟨d, rfl, hc2, hg2⟩
      have ho2 := ho.mark hg2 (fun z z' hz hz' => by cases hz; have := hbdo z' hz'; omega)
      have HG2 := Lib.hid (grown_trans HGr.out hg2)
      replace hc2 := hc2.more (show _ ≤ k + 2000 by omega)
      clear hc ho HGr hg2
      cases d
      · go_wp2
        go_ret
        exact ⟨_, c, xs, rfl, by omega, ho2, hc2.more (by omega), HG2.out⟩
      · have hz2 := HG2.out.size
        have hb2 := (Below.refl w2.heap.size w2).alloc (Nat.le_refl _) (.cells #[] 40)
        have oN : OwnF weaverF (w2.alloc (.cells #[] 40)) w.heap.size (.slice (some ⟨w2.heap.size, 0, none⟩) 0 0) [] := (OwnF.empty weaverF (w := w2) hz2)
        have hc3 := hc2.all hb2
        have HG3 := Lib.hid (grown_trans HG2.out (below_grown (row := some p) hb2))
        clear hc2 ho2 HG2 hb2
        go_wp2
        go_loopw [3, 7] (fun out ii wr => ∃ (A : Option Addr) (c : Nat) (xs : List WeaverR), out = .slice A xs.length c ∧ ii = .int .i64 (xs.length : Int) ∧ xs.length ≤ 11 ∧
            OwnF weaverF wr w.heap.size (.slice A xs.length c) xs ∧ Cur wr p (k + 2000 + 4 * xs.length) ∧ Hid (w.grownBy wr (some p))) (fun out _ _ => 11 - lenV out)
        case atStart => exact ⟨_, 0, [], rfl, rfl, by simp, oN, hc3.more (by omega), HG3⟩
        case round =>
          obtain ⟨A, c, xs, rfl, rfl, hxl, ho, hc, HGr⟩ := hrel
          have hzr := HGr.out.size
          have hbd := fun q hq => (ho.bd q hq).1
          go_wp2_with fail
          refine (pick_any p _ 2 _ hc (by omega) (by omega) (by omega)).mono ?_
          rintro e w3 ⟨y, rfl, ⟨y0, y1⟩, hc3, hg3⟩
          have ho3 := ho.mark hg3 (fun z z' hz hz' => by cases hz; have := hbd z' hz'; omega)
          have HG3 := Lib.hid (grown_trans HGr.out hg3)
          have hz3 := HG3.out.size
          have e1 : IntKind.i64.wrap (8 + y) = 8 + y := IntWalk.i64_in _ (by omega)
          clear hc ho HGr hg3
          by_cases hlt : (xs.length : Int) < 8 + y
          · have hx9 : xs.length ≤ 8 := by omega
            have e2 : IntKind.i64.wrap ((xs.length : Int) + 1) = (xs.length : Int) + 1 := IntWalk.i64_in _ (by omega)
            obtain ⟨a, HA⟩ : ∃ a : WeaverR, Hid (a = ⟨(xs.length : Int) + 1, ⟨#[120]⟩, 1, 500, 0⟩) := ⟨_, rfl⟩
            have Ia : a.ok := by
              rw [HA.out]
              exact ⟨⟨by simp only; omega, by simp only; omega⟩, by show (1 : Nat) ≤ maxLen; unfold maxLen; omega, i64_small5 (by simp only; omega) (by simp only; omega), i64_small5 (by simp only; omega) (by simp only; omega), i64_small5 (by simp only; omega) (by simp only; omega)⟩
            have hb4 := (Below.refl w3.heap.size w3).alloc (Nat.le_refl _) (.cells #[.int .i64 ((xs.length : Int) + 1), .string ⟨#[120]⟩, .int .i64 1, .int .i64 500, .int .i64 0] 40)
            have ho5 := ho3.all hb4
            have hc5 := hc3.all hb4
            have HG5 := Lib.hid (grown_trans HG3.out (below_grown (row := some p) hb4))
            have hr := RdF.lit (F := weaverF) (w := w3) (cs := #[.int .i64 ((xs.length : Int) + 1), .string ⟨#[120]⟩, .int .i64 1, .int .i64 500, .int .i64 0]) (a := a) (by rw [HA.out]; rfl) Ia
            clear hc3 ho3 HG3 hb4
            go_wp2_with (refine wpList_appendF weaverF rfl _ (.tmp 45) (.tmp 49) 24 (.agg #[.int .i64 0, .string ⟨#[]⟩, .int .i64 0, .int .i64 0, .int .i64 0]) 48 rfl Try.underlying24 info_Weaver rfl (by decide) (by decide) w.heap.size _ xs [a] w3.heap.size 0 1 1 (w3.heap.size + 1) rfl rfl ho5 hr (by simp; omega) (by simp; omega) ?_)
            intro A6 c6 w6 ho6 hg6
            have hc6 := hc5.mark hg6 (fun z hz => by have := hbd z hz; omega)
            have HG6 := Lib.hid (grown_far HG5.out hg6 hbd)
            clear hc5 ho5 HG5 hg6 hr e1
            go_wp2
            go_roundw
            case rel => exact ⟨A6, c6, xs ++ [a], by rw [List.length_append]; rfl, by rw [List.length_append]; go_num, by rw [List.length_append]; simp; omega, by rw [List.length_append]; exact ho6, hc6.more (by rw [List.length_append]; simp; omega), HG6⟩
            case measure => simp [lenV]; omega
          · go_wp2
            go_ret
            exact ⟨A, c, xs, rfl, by omega, ho3, hc3.more (by omega), HG3.out⟩
end Go.Proofs.Ytanfblpibomfaaa
