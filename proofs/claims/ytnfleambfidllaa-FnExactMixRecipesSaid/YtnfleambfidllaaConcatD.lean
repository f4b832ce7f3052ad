/- The walks of slices.Grow at nil and of slices.Concat over lists of parts. Condition: few parts, no empty list. -/
import Derived.Test.YtnfleambfidllaaAppF
import Derived.Test.YtnfleambfidllaaDyePartHelp
import Derived.Lib.AppendZerosOnto
namespace Go.Proofs.Ytnfleambfidllaa
open Go.RowKit

structure SlR where
  A : Option Addr
  n : Nat
  c : Nat
def sliF : Flat SlR := { t := 24, k := 1, enc := fun s => [.slice s.A s.n s.c], ok := fun _ => True, len := fun _ => rfl, one := fun s v h => by simp only [List.mem_cons, List.not_mem_nil, or_false] at h; subst h; rfl }
theorem Sl_at {w : World} {B n c j : Nat} {A : Option Addr} {ss : List SlR} (h : RdF sliF w B A n c ss) (hj : j < n) : ∃ b off s, A = some ⟨b, off, none⟩ ∧ b < B ∧ Hid (ss[j]? = some s) ∧ w.cell? ⟨b, off + j, none⟩ = some (.slice s.A s.n s.c) := by
  obtain ⟨b, off, s, e, hb, _, hx, hc⟩ := h.at hj
  have hc' := hc
  unfold Hid at hc'
  refine ⟨b, off, s, e, hb, hx, ?_⟩
  have := hc' 0 _ rfl
  simpa [sliF] using this
/-- The headers ss are those of slices that read as the lists yss, none empty. -/
def SeenS (w : World) (B : Nat) (ss : List SlR) (yss : List (List DyePartR)) : Prop := ss.length = yss.length ∧ ∀ (j : Nat) (s : SlR) (ys : List DyePartR), ss[j]? = some s → yss[j]? = some ys → s.n = ys.length ∧ 1 ≤ ys.length ∧ RdF dyePartF w B s.A s.n s.c ys
def lenTo (yss : List (List DyePartR)) (i : Nat) : Nat := ((yss.take i).map List.length).sum
theorem lenTo_succ {yss : List (List DyePartR)} {i : Nat} {ys : List DyePartR} (h : yss[i]? = some ys) : lenTo yss (i + 1) = lenTo yss i + ys.length := by
  obtain ⟨hi, rfl⟩ := List.getElem?_eq_some_iff.1 h
  unfold lenTo
  rw [List.take_succ_eq_append_getElem hi, List.map_append, List.sum_append_nat]
  simp
theorem catTo_succ {yss : List (List DyePartR)} {i : Nat} {ys : List DyePartR} (h : yss[i]? = some ys) : (yss.take (i + 1)).flatten = (yss.take i).flatten ++ ys := by
  obtain ⟨hi, rfl⟩ := List.getElem?_eq_some_iff.1 h
  rw [List.take_succ_eq_append_getElem hi, List.flatten_append]
  simp
theorem catTo_len (yss : List (List DyePartR)) : ∀ i, ((yss.take i).flatten).length = lenTo yss i := by
  intro i
  unfold lenTo
  rw [List.length_flatten]
set_option maxRecDepth 100000 in
set_option maxHeartbeats 2000000 in
theorem growNil_any (N : Nat) (w : World) (h1 : 1 ≤ N) (h2 : N ≤ 4096) :
    Calls Try.prog 71 #[.slice none 0 0, .int .i64 N] w fun e w' => ∃ c, e = .returned (.slice (some ⟨w.heap.size, 0, none⟩) 0 c) ∧ OwnF dyePartF w' w.heap.size (.slice (some ⟨w.heap.size, 0, none⟩) 0 c) [] ∧ Below w.heap.size w w' := by
  obtain ⟨i0, hi, hz0, hz1, hz2⟩ := info_parts info_DyePart
  have hold : (Builtin.firstCells i0.size 0 (.slice none 0 0)).run Try.prog w.drew = .ok ([] : List Value).toArray w.drew := run_firstCells_none w.drew i0.size 0 0 0
  have hrz : ∀ ty, (Builtin.append_ #[24, 3] ty #[.slice none 0 0, .int .i64 (N : Int)]).run Try.prog w = .ok (.slice (some ⟨w.heap.size, 0, none⟩) N (grownCap w N 0 43)) (w.drew.alloc (.cells (#[] ++ Builtin.zeroCells (Value.agg #[.string ⟨#[]⟩, .int .i64 0]).cells N ++ Builtin.zeroCells (Value.agg #[.string ⟨#[]⟩, .int .i64 0]).cells (grownCap w N 0 43 - N)) 43)) := fun ty => by
    have h := Lib.run_append_grow_zeros w 24 3 ty 43 i0 (.agg #[.string ⟨#[]⟩, .int .i64 0]) .i64 .i64 Try.underlying24 Try.underlying3 hi hz0 none 0 0 [] hold N (by omega) (by omega) (by omega) (by omega) (by rw [hz2]; omega) (by rw [hz2]; unfold Builtin.nextslicecap; rw [if_pos (by omega)]; omega)
    simpa only [Nat.zero_add] using h
  have hG1 : N ≤ grownCap w N 0 43 := grownCap_ge w _ _ _
  have hG2 := grownCap_le_maxLen w N 0 43 (by unfold maxLen; omega)
  obtain ⟨G, hG⟩ : ∃ G, G = grownCap w N 0 43 := ⟨_, rfl⟩
  rw [← hG] at hrz hG1 hG2
  clear hG hold
  obtain ⟨cs, hcs⟩ : ∃ cs, cs = #[] ++ Builtin.zeroCells (Value.agg #[.string ⟨#[]⟩, .int .i64 0]).cells N ++ Builtin.zeroCells (Value.agg #[.string ⟨#[]⟩, .int .i64 0]).cells (G - N) := ⟨_, rfl⟩
  have hsz : cs.size = G * 2 := by
    have e1 : (Value.agg #[.string ⟨#[]⟩, .int .i64 0]).cells.size = 2 := rfl
    rw [hcs]
    simp only [Array.size_append, size_zeroCells, e1]
    simp
    omega
  rw [← hcs] at hrz
  clear hcs
  have hO : OwnF dyePartF (w.drew.alloc (.cells cs 43)) w.heap.size (.slice (some ⟨w.heap.size, 0, none⟩) 0 G) [] :=
    ⟨⟨rfl, .inr ⟨w.heap.size, G, cs, rfl, Nat.le_refl _, heap_alloc_new w.drew _, Nat.zero_le _, hG2, by show cs.size = G * 2; omega, by simp⟩⟩, fun _ h => by simp at h⟩
  have HB := Lib.hid ((belowD (Below.refl w.heap.size w)).alloc (Nat.le_refl _) (.cells cs 43))
  have hN0 : (0 : Int) < (N : Int) := by omega
  have hw : IntKind.i64.wrap (N : Int) = (N : Int) := IntWalk.i64_in _ (by omega)
  have hG64 : (G : Int) ≤ 9223372036854775807 := by unfold maxLen at hG2; omega
  clear hi hz0 hz1 hz2 hsz
  go_enter Try.func71, Try.ntmps71
  go_wp2_with (at_builtin; refine Lib.wpList_append_run _ rfl _ _ _ _ rfl _ _ rfl rfl _ _ (hrz _) ?_)
  go_ret
  exact ⟨G, rfl, hO, HB.out⟩
set_option maxRecDepth 100000 in
set_option maxHeartbeats 4000000 in
theorem concat_any (A : Option Addr) (n c B : Nat) (ss : List SlR) (yss : List (List DyePartR)) (w : World) (h : RdF sliF w B A n c ss) (hB : B ≤ w.heap.size) (hS : SeenS w w.heap.size ss yss) (hn : 1 ≤ n) (htot : lenTo yss n ≤ 4096) :
    Calls Try.prog 67 #[.slice A n c] w fun e w' => ∃ A' c', e = .returned (.slice A' yss.flatten.length c') ∧ OwnF dyePartF w' w.heap.size (.slice A' yss.flatten.length c') yss.flatten ∧ Below w.heap.size w w' := by
  have hl := h.len
  have hlt := h.len_lt
  have HS := Lib.hid hS
  have hyl := Lib.hid (show yss.length = n from hS.1.symm.trans hl)
  have hmono := Lib.hid (show ∀ i, i ≤ n → lenTo yss i ≤ lenTo yss n from fun i hi => by
    rw [← catTo_len, ← catTo_len]
    have e : (yss.take n).flatten = (yss.take i).flatten ++ ((yss.take n).drop i).flatten := by
      rw [← List.flatten_append]
      congr 1
      conv => lhs; rw [← List.take_append_drop i (yss.take n)]
      rw [List.take_take, Nat.min_eq_left hi]
    rw [e, List.length_append]
    omega)
  have hb0 := Lib.hid (Below.refl w.heap.size w)
  clear hS
  go_enter Try.func67, Try.ntmps67
  go_wp2
  go_loopw [3, 11] (fun s3 s11 wr => ∃ i : Nat, i ≤ n ∧ s11 = .int .i64 i ∧ s3 = .int .i64 (lenTo yss i : Int) ∧ wr = w) (fun _ s11 _ => n - (intOf s11).toNat)
  case atStart => exact ⟨0, Nat.zero_le _, rfl, rfl, rfl⟩
  case round =>
    obtain ⟨i, hi, rfl, rfl, rfl⟩ := hrel
    by_cases hin : i < n
    · obtain ⟨b, off, s, rfl, hb, HX, e0⟩ := Sl_at h hin
      have hyi : yss[i]? = some (yss[i]'(by rw [hyl.out]; exact hin)) := List.getElem?_eq_getElem _
      obtain ⟨h1, h2, h3⟩ := HS.out.2 i s _ HX.out hyi
      have hsu := Lib.hid (lenTo_succ hyi)
      generalize yss[i]'(by rw [hyl.out]; exact hin) = ys at *
      have hle := hmono.out (i + 1) hin
      rw [hsu.out] at hle
      have hw : IntKind.i64.wrap ((lenTo yss i : Int) + (s.n : Int)) = (lenTo yss i : Int) + (s.n : Int) := IntWalk.i64_in _ (by omega)
      have HE := Lib.hid (show ((lenTo yss (i + 1) : Nat) : Int) = (lenTo yss i : Int) + (s.n : Int) by rw [hsu.out, h1]; omega)
      have hnn : ¬ ((lenTo yss i : Int) + (s.n : Int)) < 0 := by omega
      clear h1 h2 h3 hyi
      go_wp2
      go_roundw
      case rel => exact ⟨i + 1, by omega, by go_num, by rw [HE.out], by first | rfl | trivial⟩
      case measure => simp [intOf]; omega
    · obtain rfl : i = n := by omega
      have ht1 : 1 ≤ lenTo yss i := by
        have hy0 : yss[0]? = some (yss[0]'(by rw [hyl.out]; omega)) := List.getElem?_eq_getElem _
        obtain ⟨s0, hs0⟩ : ∃ s0, ss[0]? = some s0 := ⟨_, List.getElem?_eq_getElem (by omega)⟩
        have h2 := (HS.out.2 0 s0 _ hs0 hy0).2.1
        have h5 := hmono.out 1 hn
        rw [lenTo_succ hy0] at h5
        omega
      obtain ⟨w0, hw0⟩ : ∃ w0, w0 = wr := ⟨_, rfl⟩
      subst hw0
      go_wp2_with fail
      refine (growNil_any (lenTo yss i) w0 ht1 htot).mono ?_
      rintro e w2 ⟨c2, rfl, o2, hb2⟩
      have HB2 := Lib.hid hb2
      have R2 := h.below hb2 hB
      clear hb2
      go_wp2
      go_loopw [6, 27] (fun s6 s27 wq => ∃ (j : Nat) (A' : Option Addr) (c' : Nat) (zs : List DyePartR), j ≤ i ∧ s27 = .int .i64 j ∧ s6 = .slice A' zs.length c' ∧ Hid (zs = (yss.take j).flatten) ∧ OwnF dyePartF wq w0.heap.size (.slice A' zs.length c') zs ∧ RdF sliF wq B A i c ss ∧ Hid (Below w0.heap.size w0 wq)) (fun _ s27 _ => i - (intOf s27).toNat)
      case atStart => exact ⟨0, _, c2, [], Nat.zero_le _, rfl, rfl, rfl, o2, R2, HB2⟩
      case round =>
        clear o2 R2 HB2
        obtain ⟨j, A', c', zs, hj, rfl, rfl, hzs, o1, R1, HB⟩ := hrel
        by_cases hji : j < i
        · obtain ⟨b, off, s, rfl, hb, HX, e0⟩ := Sl_at R1 hji
          have hyi : yss[j]? = some (yss[j]'(by rw [hyl.out]; exact hji)) := List.getElem?_eq_getElem _
          obtain ⟨h1, h2, h3⟩ := HS.out.2 j s _ HX.out hyi
          have hcat := Lib.hid (catTo_succ hyi)
          have hzl := Lib.hid (catTo_len yss j)
          have hmj := hmono.out j hj
          have hmj1 := hmono.out (j + 1) hji
          rw [lenTo_succ hyi] at hmj1
          generalize yss[j]'(by rw [hyl.out]; exact hji) = ys at *
          obtain ⟨bs, os, hsA, _, _⟩ := h3.cells (by omega)
          have hR3 := h3.below HB.out (Nat.le_refl _)
          rw [hsA] at hR3 e0
          have hlen : zs.length + ys.length ≤ 1073741824 := by rw [hzs.out, hzl.out]; omega
          have HN := Lib.hid (show zs ++ ys = (yss.take (j + 1)).flatten by rw [hcat.out, ← hzs.out])
          clear h3 hyi hcat hzl HX h1 hsA
          go_wp2_with (refine wpList_appendF dyePartF rfl _ (.tmp 31) (.tmp 32) 24 (.agg #[.string ⟨#[]⟩, .int .i64 0]) 24 rfl Try.underlying24 info_DyePart rfl (by decide) (by decide) w0.heap.size _ zs ys bs os s.n s.c w0.heap.size rfl rfl o1 hR3 hlen HB.out.size ?_)
          intro A5 c5 w5 o5 hg5
          have R5 := R1.mark hg5 (fun k hk => by have := (o1.bd k hk).1; omega) (Nat.le_trans hB HB.out.size)
          have HB5 := Lib.hid (HB.out.grown hg5 HB.out.size (fun k hk => (o1.bd k hk).1))
          clear o1 R1 HB hR3 e0
          go_wp2
          go_roundw
          case rel => exact ⟨j + 1, A5, c5, zs ++ ys, by omega, by go_num, by rw [List.length_append], HN, by rw [List.length_append]; exact o5, R5, HB5⟩
          case measure => simp [intOf]; omega
        · obtain rfl : j = i := by omega
          have hall := Lib.hid (show zs = yss.flatten by rw [hzs.out, List.take_of_length_le (by rw [hyl.out]; exact Nat.le_refl _)])
          go_wp2
          go_ret
          exact ⟨A', c', by rw [← hall.out]; rfl, by rw [← hall.out]; exact o1, HB.out⟩
end Go.Proofs.Ytnfleambfidllaa
