/- The draws of chapter 5: a list of looms, an id out of one. Condition: few draws. -/
import Derived.Test.YtoeognlfalbfkaaDraws5
namespace Go.Proofs.Ytoeognlfalbfkaa
open Go.RowKit

def lenV : Value → Nat
  | .slice _ n _ => n
  | _ => 0
theorem grown_far {w w1 w2 : World} {row row2 : Option Nat} (h : w.grownBy w1 row) (hg : w1.grownBy w2 row2) (hr : ∀ z, row2 = some z → w.heap.size ≤ z) : w.grownBy w2 row :=
  ⟨hg.os.trans h.os, hg.tape.trans h.tape, hg.output.trans h.output, Nat.le_trans h.size hg.size, fun k hk hne => (hg.block k (Nat.lt_of_lt_of_le hk h.size) (fun e => by have := hr k e.symm; omega)).trans (h.block k hk hne)⟩
/-- What a draw of a list of looms leaves. -/
def DrewLooms (w : World) (p k : Nat) (e : Ending) (w' : World) : Prop := ∃ (A : Option Addr) (c : Nat) (xs : List LoomR), e = .returned (.slice A xs.length c) ∧ xs.length ≤ 10 ∧ OwnF loomF w' w.heap.size (.slice A xs.length c) xs ∧ Cur w' p k ∧ w.grownBy w' (some p)
set_option maxRecDepth 100000 in
set_option maxHeartbeats 4000000 in
theorem looms5_any (p k : Nat) (w : World) (h : Cur w p k) (hk : k + 10000 ≤ 4294967296) : Calls Try.prog 34 #[.pointer (some ⟨p, 0, none⟩)] w (DrewLooms w p (k + 10000)) := by
  have hpw := h.lt
  have hb0 : Below w.heap.size w (w.alloc (.cells #[] 37)) := (Below.refl _ _).alloc (Nat.le_refl _) _
  have HG := below_grown (row := some p) hb0
  have hc0 := h.all hb0
  have ho0 := OwnF.empty loomF (w := w) (Nat.le_refl _)
  clear h hb0
  go_enter Try.func34, Try.ntmps34
  go_wp2_with fail
  refine (pick_any p k 7 _ hc0 (by omega) (by omega) (by omega)).mono ?_
  rintro e w1 ⟨x, rfl, ⟨x0, x1⟩, hc1, hg1⟩
  have ho1 := ho0.mark hg1 (fun z z' hz hz' => by cases hz; have := (ho0.bd z' hz').1; omega)
  replace HG := Lib.hid (grown_trans HG hg1)
  obtain ⟨N, rfl⟩ := Int.eq_ofNat_of_zero_le x0
  have hN : N ≤ 6 := by omega
  clear hc0 ho0 hg1 x0 x1
  go_wp2
  go_loopw [3, 4, 5] (fun out ii nn wr => ∃ (A : Option Addr) (c : Nat) (xs : List LoomR) (iv : Int) (m : Nat), out = .slice A xs.length c ∧ ii = .int .i64 iv ∧ nn = .int .i64 (m : Int) ∧ m ≤ 6 ∧ xs.length + m ≤ 6 ∧ -1000 * (6 - (m : Int)) ≤ iv ∧ iv ≤ 1000 * (6 - (m : Int)) ∧
      OwnF loomF wr w.heap.size (.slice A xs.length c) xs ∧ Cur wr p (k + 2 + 200 * (6 - m)) ∧ Hid (w.grownBy wr (some p))) (fun _ _ nn _ => (intOf nn).toNat)
  case atStart => exact ⟨some ⟨w.heap.size, 0, none⟩, 0, [], 0, N, rfl, rfl, rfl, hN, by simpa using hN, by omega, by omega, ho1, hc1.more (by omega), HG⟩
  case round =>
    obtain ⟨A, c, xs, iv, m, rfl, rfl, rfl, hm6, hxm, hi1, hi2, ho, hc, HGr⟩ := hrel
    have hzr := HGr.out.size
    by_cases hm : 0 < m
    · have hmi : (0 : Int) < (m : Int) := by omega
      have hbd := fun q hq => (ho.bd q hq).1
      go_wp2_with fail
      refine (pick_any p _ 3 _ hc (by omega) (by omega) (by omega)).mono ?_
      rintro e w2 ⟨y, rfl, ⟨y0, y1⟩, hc2, hg2⟩
      have ho2 := ho.mark hg2 (fun z z' hz hz' => by cases hz; have := hbd z' hz'; omega)
      have HG2 := Lib.hid (grown_trans HGr.out hg2)
      clear hc ho HGr hg2
      go_wp2_with fail
      refine (pick_any p _ 80 _ hc2 (by omega) (by omega) (by omega)).mono ?_
      rintro e w3 ⟨z, rfl, ⟨z0, z1⟩, hc3, hg3⟩
      have ho3 := ho2.mark hg3 (fun z z' hz hz' => by cases hz; have := hbd z' hz'; omega)
      have HG3 := Lib.hid (grown_trans HG2.out hg3)
      have hq : Int.tdiv z 79 = z / 79 := Int.tdiv_eq_ediv_of_nonneg z0
      have hq0 : 0 ≤ z / 79 ∧ z / 79 ≤ 1 := by omega
      have e1 : IntKind.i64.wrap (iv + 1) = iv + 1 := IntWalk.i64_in _ (by omega)
      have e2 : IntKind.i64.wrap (iv + 1 + y) = iv + 1 + y := IntWalk.i64_in _ (by omega)
      have e3 : IntKind.i64.wrap (iv + 1 + y - z / 79) = iv + 1 + y - z / 79 := IntWalk.i64_in _ (by omega)
      have hid : -1000000 ≤ iv + 1 + y - z / 79 ∧ iv + 1 + y - z / 79 ≤ 1000000 := by omega
      clear hc2 ho2 HG2 hg3
      go_wp2_with fail
      refine (loom_any p _ (iv + 1 + y - z / 79) _ hc3 (by omega) hid).mono ?_
      rintro e w4 ⟨s, rfl, hs, hc4, hg4⟩
      have ho4 := ho3.mark hg4 (fun z z' hz hz' => by cases hz; have := hbd z' hz'; omega)
      have HG4 := Lib.hid (grown_trans HG3.out hg4)
      have hz4 := HG4.out.size
      have hb4 := (Below.refl w4.heap.size w4).alloc (Nat.le_refl _) (.cells #[.int .i64 s.f0, .int .i64 s.f1, .int .i64 s.f2, .int .i64 s.f3, .int .i64 s.f4] 37)
      have ho5 := ho4.all hb4
      have hc5 := hc4.all hb4
      have HG5 := Lib.hid (grown_trans HG4.out (below_grown (row := some p) hb4))
      have hr := RdF.lit (F := loomF) (w := w4) (cs := #[.int .i64 s.f0, .int .i64 s.f1, .int .i64 s.f2, .int .i64 s.f3, .int .i64 s.f4]) (a := s) rfl hs
      clear hc3 ho3 ho4 HG3 HG4 hg4 hb4 hc4 e1 e2 hq
      go_wp2_with (refine wpList_appendF loomF rfl _ (.tmp 22) (.tmp 26) 24 (.agg #[.int .i64 0, .int .i64 0, .int .i64 0, .int .i64 0, .int .i64 0]) 40 rfl Try.underlying24 info_Loom rfl (by decide) (by decide) w.heap.size _ xs [s] w4.heap.size 0 1 1 _ rfl rfl ho5 hr (by simp; omega) (by simp; omega) ?_)
      intro A6 c6 w6 ho6 hg6
      have hc6 := hc5.mark hg6 (fun z hz => by have := hbd z hz; omega)
      have HG6 := Lib.hid (grown_far HG5.out hg6 hbd)
      clear hc5 ho5 HG5 hg6 hr
      go_wp2
      go_roundw
      case rel => exact ⟨A6, c6, xs ++ [s], iv + 1 + y - z / 79, m - 1, by rw [List.length_append]; rfl, rfl, by go_num, by omega, by rw [List.length_append]; simp; omega, by omega, by omega, by rw [List.length_append]; exact ho6, hc6.more (by omega), HG6⟩
      case measure => simp [intOf]; omega
    · have hm0 : m = 0 := by omega
      subst hm0
      have hbd := fun q hq => (ho.bd q hq).1
      go_wp2_with fail
      refine (one_any p _ 24 _ hc (by omega) (by omega) (by omega)).mono ?_
      rintro e w2 ⟨d, rfl, hc2, hg2⟩
      have ho2 := ho.mark hg2 (fun z z' hz hz' => by cases hz; have := hbd z' hz'; omega)
      have HG2 := Lib.hid (grown_trans HGr.out hg2)
      have hxl : xs.length ≤ 6 := by omega
      replace hc2 := hc2.more (show _ ≤ k + 2000 by omega)
      clear hc ho HGr hg2 hbd
      cases d
      · go_wp2
        go_ret
        exact ⟨A, c, xs, rfl, by omega, ho2, hc2.more (by omega), HG2.out⟩
      · go_wp2
        go_loopw [3, 4] (fun out ii wr => ∃ (A : Option Addr) (c : Nat) (xs : List LoomR) (iv : Int), out = .slice A xs.length c ∧ ii = .int .i64 iv ∧ xs.length ≤ 10 ∧ -6000 ≤ iv ∧ iv ≤ 6000 + (xs.length : Int) ∧
            OwnF loomF wr w.heap.size (.slice A xs.length c) xs ∧ Cur wr p (k + 2000 + 4 * xs.length) ∧ Hid (w.grownBy wr (some p))) (fun out _ _ => 10 - lenV out)
        case atStart => exact ⟨A, c, xs, iv, rfl, rfl, by omega, by omega, by omega, ho2, hc2.more (by omega), HG2⟩
        case round =>
          obtain ⟨A, c, xs, iv, rfl, rfl, hxl, hi1, hi2, ho, hc, HGr⟩ := hrel
          have hzr := HGr.out.size
          have hbd := fun q hq => (ho.bd q hq).1
          go_wp2_with fail
          refine (pick_any p _ 2 _ hc (by omega) (by omega) (by omega)).mono ?_
          rintro e w3 ⟨y, rfl, ⟨y0, y1⟩, hc3, hg3⟩
          have ho3 := ho.mark hg3 (fun z z' hz hz' => by cases hz; have := hbd z' hz'; omega)
          have HG3 := Lib.hid (grown_trans HGr.out hg3)
          have hz3 := HG3.out.size
          have e1 : IntKind.i64.wrap (8 + y) = 8 + y := IntWalk.i64_in _ (by omega)
          have e2 : IntKind.i64.wrap (iv + 1) = iv + 1 := IntWalk.i64_in _ (by omega)
          have Iiv : I64 (iv + 1) := ⟨by omega, by omega⟩
          have I0 : I64 0 := i64_small5 (by decide) (by decide)
          clear hc ho HGr hg3
          by_cases hlt : (xs.length : Int) < 8 + y
          · have hx9 : xs.length ≤ 8 := by omega
            have hb4 := (Below.refl w3.heap.size w3).alloc (Nat.le_refl _) (.cells #[.int .i64 (iv + 1), .int .i64 100, .int .i64 0, .int .i64 0, .int .i64 0] 37)
            have ho5 := ho3.all hb4
            have hc5 := hc3.all hb4
            have HG5 := Lib.hid (grown_trans HG3.out (below_grown (row := some p) hb4))
            have hr := RdF.lit (F := loomF) (w := w3) (cs := #[.int .i64 (iv + 1), .int .i64 100, .int .i64 0, .int .i64 0, .int .i64 0]) (a := ⟨iv + 1, 100, 0, 0, 0⟩) rfl ⟨Iiv, i64_small5 (x := 100) (by decide) (by decide), I0, I0, I0⟩
            clear hc3 ho3 HG3 hb4
            go_wp2_with (refine wpList_appendF loomF rfl _ (.tmp 38) (.tmp 41) 24 (.agg #[.int .i64 0, .int .i64 0, .int .i64 0, .int .i64 0, .int .i64 0]) 40 rfl Try.underlying24 info_Loom rfl (by decide) (by decide) w.heap.size _ xs [⟨iv + 1, 100, 0, 0, 0⟩] w3.heap.size 0 1 1 _ rfl rfl ho5 hr (by simp; omega) (by simp; omega) ?_)
            intro A6 c6 w6 ho6 hg6
            have hc6 := hc5.mark hg6 (fun z hz => by have := hbd z hz; omega)
            have HG6 := Lib.hid (grown_far HG5.out hg6 hbd)
            clear hc5 ho5 HG5 hg6 hr e1
            go_wp2
            go_roundw
            case rel => exact ⟨A6, c6, xs ++ [⟨iv + 1, 100, 0, 0, 0⟩], iv + 1, by rw [List.length_append]; rfl, rfl, by rw [List.length_append]; simp; omega, by omega, by rw [List.length_append]; simp; omega, by rw [List.length_append]; exact ho6, hc6.more (by rw [List.length_append]; simp; omega), HG6⟩
            case measure => simp [lenV]; omega
          · go_wp2
            go_ret
            exact ⟨A, c, xs, rfl, by omega, ho3, hc3.more (by omega), HG3.out⟩
set_option maxRecDepth 100000 in
set_option maxHeartbeats 4000000 in
theorem loomId_any (p k : Nat) (A : Option Addr) (c lo : Nat) (xs : List LoomR) (st : Int) (w : World) (h : Cur w p k) (hk : k + 1000 ≤ 4294967296) (ho : OwnF loomF w lo (.slice A xs.length c) xs) (hlo : p < lo) (hl : xs.length ≤ 10) :
    Calls Try.prog 35 #[.pointer (some ⟨p, 0, none⟩), .slice A xs.length c, .int .i64 st] w (Drew w p (k + 1000) I64) := by
  have hpw := h.lt
  have hb0 : Below w.heap.size w (w.alloc (.cells #[] 3)) := (Below.refl _ _).alloc (Nat.le_refl _) _
  have HG := Lib.hid (below_grown (row := some p) hb0)
  have hc0 := h.all hb0
  have hn0 := Own.empty (w := w) (Nat.le_refl _)
  have hbl := fun z hz => (ho.bd z hz).1
  clear h hb0
  go_enter Try.func35, Try.ntmps35
  go_wp2
  go_loopw [7, 8] (fun ids ii wr => ∃ (A' : Option Addr) (c' : Nat) (ys : List Int) (j : Nat), ids = .slice A' ys.length c' ∧ ii = .int .i64 j ∧ j ≤ xs.length ∧ ys.length ≤ j ∧ Own wr w.heap.size (.slice A' ys.length c') ys ∧ Cur wr p (k + 4 * j) ∧ Hid (w.grownBy wr (some p))) (fun _ ii _ => xs.length - (intOf ii).toNat)
  case atStart => exact ⟨some ⟨w.heap.size, 0, none⟩, 0, [], 0, rfl, rfl, Nat.zero_le _, Nat.le_refl _, hn0, hc0, HG⟩
  case round =>
    obtain ⟨A1, c1, ys, j, rfl, rfl, hj, hyl, hy, hc, HGr⟩ := hrel
    have hzr := HGr.out.size
    have hbd := fun q hq => (hy.bd q hq).1
    by_cases hlt : j < xs.length
    · have hoR := ho.mark HGr.out (fun z z' hz hz' => by cases hz; have := hbl z' hz'; omega)
      obtain ⟨b, off, a, rfl, hbB, ha, HX, hc0', hc1', hc2', hc3', hc4'⟩ := LoomR_at (F := loomF) rfl (fun _ => rfl) (fun _ => rfl) hoR.rd hlt
      have hbp : b ≠ p := by
        have := hbl b rfl
        omega
      obtain ⟨f0, f1, f2, f3, f4⟩ := a
      simp only at hc0' hc4'
      have hf0 : I64 f0 := ha.1
      clear hc1' hc2' hc3' hoR HX
      by_cases hs : f4 = st
      · subst hs
        have hb4 := (Below.refl wr.heap.size wr).alloc (Nat.le_refl _) (.cells #[.int .i64 f0] 3)
        go_wp2_with (refine wpList_append_one wr rfl (.tmp 27) (.tmp 33) 54 rfl Try.underlying54 info_int w.heap.size _ ys f0 rfl rfl hy (by omega) hf0 hzr ?_)
        intro A2 c2 w2 hy2 hg2
        have hc2 := hc.mark hg2 (fun z hz => by have := hbd z hz; omega)
        have HG2 := Lib.hid (grown_far HGr.out hg2 hbd)
        clear hy hc HGr hg2 hb4
        go_wp2
        go_roundw
        case rel => exact ⟨A2, c2, ys ++ [f0], j + 1, by rw [List.length_append]; rfl, by go_num, by omega, by rw [List.length_append]; simp; omega, by rw [List.length_append]; exact hy2, hc2.more (by omega), HG2⟩
        case measure => simp [intOf]; omega
      · have hs' : (f4 == st) = false := by simpa using hs
        clear hs
        go_wp2_with fail
        refine (one_any p _ 6 _ hc (by omega) (by omega) (by omega)).mono ?_
        rintro e w2 ⟨d, rfl, hc2, hg2⟩
        have hy2 := hy.kept hg2 (by
          rcases hv : (Value.slice A1 ys.length c1).ownBlock with _ | z
          · exact .inl rfl
          · exact .inr fun e => by cases e; have := hbd _ hv; omega)
        have HG2 := Lib.hid (grown_trans HGr.out hg2)
        have hz2 := HG2.out.size
        have hx0 := hg2.cell (a := ⟨b, off + j * 5, none⟩) hc0' (by simpa using hbp)
        clear hy hc HGr hg2 hc0' hc4'
        cases d
        · go_wp2
          go_roundw
          case rel => exact ⟨A1, c1, ys, j + 1, rfl, by go_num, by omega, by omega, hy2, hc2.more (by omega), HG2⟩
          case measure => simp [intOf]; omega
        · go_wp2_with (refine wpList_append_one w2 rfl (.tmp 27) (.tmp 33) 54 rfl Try.underlying54 info_int w.heap.size _ ys f0 rfl rfl hy2 (by omega) hf0 hz2 ?_)
          intro A3 c3 w3 hy3 hg3
          have hc3 := hc2.mark hg3 (fun z hz => by have := hbd z hz; omega)
          have HG3 := Lib.hid (grown_far HG2.out hg3 hbd)
          clear hy2 hc2 HG2 hg3
          go_wp2
          go_roundw
          case rel => exact ⟨A3, c3, ys ++ [f0], j + 1, by rw [List.length_append]; rfl, by go_num, by omega, by rw [List.length_append]; simp; omega, by rw [List.length_append]; exact hy3, hc3.more (by omega), HG3⟩
          case measure => simp [intOf]; omega
    · have hji : ¬ (j : Int) < (xs.length : Int) := by omega
      by_cases hy0 : ys.length = 0
      · have hy0' : ((ys.length : Int) == 0) = true := by simp [hy0]
        have HY0 := Lib.hid hy0
        clear hy0
        go_wp2_with fail
        refine (among5 p _ wr.heap.size 4 [0, 1, 2, 50] wr rfl rfl hc (by omega) (by decide) (by decide) (i64_lit (by decide))).mono ?_
        rintro e w3 ⟨y, rfl, hy', hc3, hg3⟩
        have hyI := i64_lit (l := [0, 1, 2, 50]) (by decide) y hy'
        have HG3 := grown_trans HGr.out hg3
        clear hy'
        go_wp2
        go_ret
        exact ⟨y, rfl, hyI, hc3.more (by omega), HG3⟩
      · have hy0' : ((ys.length : Int) == 0) = false := by simpa using hy0
        go_wp2_with fail
        refine (pick_any p _ ys.length _ hc (by omega) (by omega) (by omega)).mono ?_
        rintro e w3 ⟨y, rfl, ⟨y0, y1⟩, hc3, hg3⟩
        have hy3 := hy.kept hg3 (by
          rcases hv : (Value.slice A1 ys.length c1).ownBlock with _ | z
          · exact .inl rfl
          · exact .inr fun e => by cases e; have := hbd _ hv; omega)
        have HG3 := grown_trans HGr.out hg3
        obtain ⟨q, rfl⟩ := Int.eq_ofNat_of_zero_le y0
        have hq : q < ys.length := by omega
        obtain ⟨b, off, x, rfl, _, hcx, hxl, hxu, _⟩ := hy3.rd.at hq
        have hqn : (q : Int) < (ys.length : Int) := by omega
        clear hy hc HGr hg3 y1 hy3 hy0
        go_wp2
        go_ret
        exact ⟨x, rfl, ⟨hxl, hxu⟩, hc3.more (by omega), HG3⟩
end Go.Proofs.Ytoeognlfalbfkaa
