/- The walks of WeaveDays and CutOff, both texts. No condition. -/
import Derived.Test.YtoeognlfalbfkaaActs5
import Derived.Deep.LoopGhost
namespace Go.Proofs.Ytoeognlfalbfkaa
open Go.RowKit

theorem look_sub {xs : List LoomR} {id : Int} {st st' : List Int} (h : look xs id st = none) (hs : ∀ x ∈ st', x ∈ st) : look xs id st' = none := by
  unfold look at *
  by_cases hg : loomsB xs = true
  · rw [if_pos hg] at *
    refine seek_none fun i a _ ha => ?_
    have h1 := seek_off h a (List.mem_of_getElem? ha)
    unfold isAt at *
    cases hd : decide (a.f0 = id)
    · rfl
    · rw [hd, Bool.true_and] at h1
      rw [Bool.true_and]
      cases hc : st'.contains a.f4
      · rfl
      · rw [List.contains_iff_mem] at hc
        have := List.contains_iff_mem.2 (hs _ hc)
        rw [this] at h1
        cases h1
  · rw [if_neg hg] at *
theorem look_in {xs : List LoomR} {id : Int} {st : List Int} {k : Nat} {a : LoomR} (hg : loomsB xs = true) (ha : xs[k]? = some a) (hid : a.f0 = id) (hs : a.f4 ∈ st) : look xs id st = some (k, a) := by
  rw [look_seek hg]
  refine seek_some ha ((isAt_eq hid).trans (List.contains_iff_mem.2 hs)) fun i c hi hc => isAt_id fun he => ?_
  have := looms_inj (loomsB_of hg) hc ha (by rw [he, hid])
  omega
theorem look_out {xs : List LoomR} {id : Int} {st : List Int} {k : Nat} {a : LoomR} (hg : loomsB xs = true) (ha : xs[k]? = some a) (hid : a.f0 = id) (hs : a.f4 ∉ st) : look xs id st = none := by
  rw [look_seek hg]
  refine seek_none fun i c hi hc => ?_
  by_cases he : c.f0 = id
  · have := looms_inj (loomsB_of hg) hc ha (by rw [he, hid])
    subst this
    rw [ha] at hc
    cases hc
    rw [isAt_eq hid]
    cases hh : st.contains a.f4
    · rfl
    · exact absurd (List.contains_iff_mem.1 hh) hs
  · exact isAt_id he
theorem l1Most_eq5 (a b c : Int) (w : World) (h : mostI a b = c) : Calls Try.prog 45 #[.int .i64 a, .int .i64 b] w fun e w' => e = .returned (.int .i64 c) ∧ w = w' := h ▸ l1Most_any a b w
/-- How long a busy loom weaves, and what it is then. -/
def wovenI (a : LoomR) (d : Int) : Int := min d ((a.f3 - 50) / 3)
def wovenR (a : LoomR) (d : Int) : LoomR := ⟨a.f0, a.f1, a.f2, a.f3 - 3 * wovenI a d, if wovenI a d < d then 3 else 2⟩
noncomputable def weave5 (xs : List LoomR) (id d : Int) : List LoomR × Int × Bool := match look xs id [2] with
  | some (k, a) => if inB d 0 200 = true then ((put5 xs k (wovenR a d)).1, wovenI a d, (put5 xs k (wovenR a d)).2) else ([], 0, false)
  | none => ([], 0, false)
noncomputable def cut5 (xs : List LoomR) (id : Int) : List LoomR × Int × Bool := match look xs id [1, 2, 3] with
  | some (k, a) => ((put5 xs k ⟨a.f0, a.f1, 0, 0, 0⟩).1, a.f2, (put5 xs k ⟨a.f0, a.f1, 0, 0, 0⟩).2)
  | none => ([], 0, false)
theorem weave5_len (xs : List LoomR) (id d : Int) : (weave5 xs id d).1.length ≤ 100000 := by
  unfold weave5
  cases hl : look xs id [2] with
  | none => simp
  | some p =>
    obtain ⟨k, a⟩ := p
    have := put5_len (look_of hl).1 k (wovenR a d)
    simp only
    split
    · simp only; omega
    · simp
theorem cut5_len (xs : List LoomR) (id : Int) : (cut5 xs id).1.length ≤ 100000 := by
  unfold cut5
  cases hl : look xs id [1, 2, 3] with
  | none => simp
  | some p =>
    obtain ⟨k, a⟩ := p
    have := put5_len (look_of hl).1 k ⟨a.f0, a.f1, 0, 0, 0⟩
    simp only; omega
theorem ok_small {a : LoomR} (h : a.ok) {x y z : Int} (hx : I64 x) (hy : I64 y) (hz : I64 z) : LoomR.ok ⟨a.f0, a.f1, x, y, z⟩ := ⟨h.1, h.2.1, hx, hy, hz⟩
theorem i64_small {x : Int} (h1 : -1000000 ≤ x) (h2 : x ≤ 1000000) : I64 x := ⟨by omega, by omega⟩
set_option maxRecDepth 100000 in
set_option maxHeartbeats 4000000 in
theorem implCutOff_any (A : Option Addr) (n c B : Nat) (xs : List LoomR) (id : Int) (w : World) (h : RdF loomF w B A n c xs) (hB : B ≤ w.heap.size) :
    Calls Try.prog 13 #[.slice A n c, .int .i64 id] w (OutFib loomF w (cut5 xs id).1 (cut5 xs id).2.1 (cut5 xs id).2.2) := by
  obtain rfl := h.len
  have q0 := Blk.new w #[.int .i64 1, .int .i64 2, .int .i64 3] 3
  have HB : Below w.heap.size w (w.alloc (.cells #[.int .i64 1, .int .i64 2, .int .i64 3] 3)) := (Below.refl _ _).alloc (Nat.le_refl _) _
  have hR := h.alloc hB (.cells #[.int .i64 1, .int .i64 2, .int .i64 3] 3)
  rcases hl : look xs id [1, 2, 3] with _ | ⟨k, a⟩
  · have H := Lib.hid (show cut5 xs id = ([], 0, false) by unfold cut5; rw [hl])
    have HL := Lib.hid hl
    clear hl
    go_enter Try.func13, Try.ntmps13
    go_wp2_with fail
    refine (loomIn_none A _ c B xs id [1, 2, 3] w.heap.size 3 _ hR (by simp; omega) q0 rfl (by omega) HL.out).mono ?_
    rintro e w1 ⟨rfl, hb⟩
    replace HB := HB.trans (hb.mono HB.size)
    have hz1 := HB.size
    clear hb
    go_wp2
    go_ret3
    rw [H.out]
    exact ⟨none, 0, rfl, OwnF.nil _ _ _, by repeat (first | assumption | exact Below.refl _ _ | refine belowN ?_ _ | refine belowD ?_ | (refine Below.setCell ?_ (by first | (simp; done) | (simp; omega) | omega) _) | (refine Below.alloc ?_ (by first | (simp; done) | (simp; omega) | omega) _))⟩
  obtain ⟨hg, ha, hid0, hst⟩ := look_of hl
  have hkl := (List.getElem?_eq_some_iff.1 ha).1
  have H := Lib.hid (show cut5 xs id = ((put5 xs k ⟨a.f0, a.f1, 0, 0, 0⟩).1, a.f2, (put5 xs k ⟨a.f0, a.f1, 0, 0, 0⟩).2) by unfold cut5; rw [hl])
  obtain ⟨b, off, a', rfl, hbB, ok, HX, _, _, _, _, _⟩ := LoomR_at (F := loomF) rfl (fun _ => rfl) (fun _ => rfl) h hkl
  obtain rfl : a' = a := Option.some.inj (HX.out.symm.trans ha)
  have HL := Lib.hid hl
  clear hl hst hid0
  go_enter Try.func13, Try.ntmps13
  go_wp2_with fail
  refine (loomIn_some _ _ c B xs id [1, 2, 3] w.heap.size 3 _ hR (by simp; omega) q0 rfl (by omega) k a' HL.out).mono ?_
  rintro e w1 ⟨rfl, hb⟩
  replace hR := hR.all hb (by simp; omega)
  replace HB := HB.trans (hb.mono HB.size)
  have hz1 := HB.size
  clear hb
  have x7 := Blk.new w1 #[.int .i64 a'.f0, .int .i64 a'.f1, .int .i64 a'.f2, .int .i64 a'.f3, .int .i64 a'.f4] 37
  have hok := ok_small ok (i64_small (x := 0) (by omega) (by omega)) (i64_small (x := 0) (by omega) (by omega)) (i64_small (x := 0) (by omega) (by omega))
  go_wp2_with fail
  refine (withLoom_any b off _ c B xs ⟨a'.f0, a'.f1, 0, 0, 0⟩ k a' _ (hR.alloc (by omega) _) (by simp; omega) hg ha rfl hok).mono ?_
  rintro e w2 ⟨A2, c2, rfl, ho, hb⟩
  replace x7 := x7.all hb
  have HB2 := (HB.alloc hz1 _).trans (hb.mono (by simp; omega))
  replace ho := ho.mono (lo' := w.heap.size) (by simp; omega)
  clear hb
  have e2 := x7.cell 2
  go_wp2
  go_quiet (fail)
  go_wp2
  go_ret3
  rw [H.out]
  exact ⟨A2, c2, rfl, ho.drewN _, belowN HB2 _⟩
set_option maxRecDepth 100000 in
set_option maxHeartbeats 4000000 in
theorem specCutOff_any (A : Option Addr) (n c B : Nat) (xs : List LoomR) (id : Int) (w : World) (h : RdF loomF w B A n c xs) (hB : B ≤ w.heap.size) :
    Calls Try.prog 14 #[.slice A n c, .int .i64 id] w (OutFib loomF w (cut5 xs id).1 (cut5 xs id).2.1 (cut5 xs id).2.2) := by
  obtain rfl := h.len
  rcases hl : look xs id [1, 2, 3] with _ | ⟨k, a⟩
  · have H := Lib.hid (show cut5 xs id = ([], 0, false) by unfold cut5; rw [hl])
    have HL := Lib.hid (look_sub hl (st' := [1, 2]) (by simp))
    have HL2 := Lib.hid (look_sub hl (st' := [3, 3]) (by simp))
    clear hl
    go_enter Try.func14, Try.ntmps14
    go_wp2_with fail
    refine (l5Find_none A _ c B xs id 1 2 _ h hB HL.out).mono ?_
    rintro e w1 ⟨rfl, hb⟩
    have hR := h.all hb hB
    have hz1 := hb.size
    go_wp2_with fail
    refine (l5Find_none A _ c B xs id 3 3 _ hR (by omega) HL2.out).mono ?_
    rintro e w2 ⟨rfl, hb2⟩
    have HB := hb.trans (hb2.mono hz1)
    have hz2 := HB.size
    clear hb hb2
    go_wp2_with fail
    refine (l1Most_eq5 (-1) (-1) (-1) _ (by decide)).mono ?_
    rintro e w3 ⟨rfl, rfl⟩
    go_wp2
    go_ret3
    rw [H.out]
    exact ⟨some ⟨w2.heap.size, 0, none⟩, 0, rfl, OwnF.empty loomF hz2, HB.alloc hz2 _⟩
  obtain ⟨hg, ha, hid0, hst⟩ := look_of hl
  have hkl := (List.getElem?_eq_some_iff.1 ha).1
  have H := Lib.hid (show cut5 xs id = ((put5 xs k ⟨a.f0, a.f1, 0, 0, 0⟩).1, a.f2, (put5 xs k ⟨a.f0, a.f1, 0, 0, 0⟩).2) by unfold cut5; rw [hl])
  have hk0 : (0 : Int) ≤ (k : Int) := by omega
  have hkn : (k : Int) < (xs.length : Int) := by omega
  obtain ⟨i1, i2, HF⟩ : ∃ i1 i2 : Int, Hid (placeI (look xs id [1, 2]) = i1 ∧ placeI (look xs id [3, 3]) = i2 ∧ mostI i1 i2 = k) := by
    refine ⟨_, _, rfl, rfl, ?_⟩
    by_cases h3 : a.f4 = 3
    · rw [look_out hg ha hid0 (st := [1, 2]) (by rw [h3]; decide), look_in hg ha hid0 (st := [3, 3]) (by rw [h3]; decide)]
      show mostI (-1) (k : Int) = k
      unfold mostI
      split <;> omega
    · rw [look_in hg ha hid0 (st := [1, 2]) (by simp at hst ⊢; omega), look_out hg ha hid0 (st := [3, 3]) (by simpa using h3)]
      show mostI (k : Int) (-1) = k
      unfold mostI
      split <;> omega
  clear hl hst
  subst hid0
  go_enter Try.func14, Try.ntmps14
  go_wp2_with fail
  refine (l5Find_any A _ c B xs _ 1 2 _ h hB).mono ?_
  rintro e w1 ⟨rfl, hb⟩
  have hR := h.all hb hB
  have hz1 := hb.size
  rw [HF.out.1]
  go_wp2_with fail
  refine (l5Find_any A _ c B xs _ 3 3 _ hR (by omega)).mono ?_
  rintro e w2 ⟨rfl, hb2⟩
  rw [HF.out.2.1]
  have HB := hb.trans (hb2.mono hz1)
  have hz2 := HB.size
  replace hR := hR.all hb2 (by omega)
  clear hb hb2
  go_wp2_with fail
  refine (l1Most_eq5 _ _ _ _ HF.out.2.2).mono ?_
  rintro e w3 ⟨rfl, rfl⟩
  obtain ⟨b, off, a', rfl, hbB, ok, HX, hc0, hc1, hc2, hc3, hc4⟩ := LoomR_at (F := loomF) rfl (fun _ => rfl) (fun _ => rfl) hR hkl
  obtain rfl : a' = a := Option.some.inj (HX.out.symm.trans ha)
  have hok := ok_small ok (i64_small (x := 0) (by omega) (by omega)) (i64_small (x := 0) (by omega) (by omega)) (i64_small (x := 0) (by omega) (by omega))
  go_wp2_with fail
  refine (l5With_any b off _ c B xs ⟨a'.f0, a'.f1, 0, 0, 0⟩ k a' _ hR (by omega) hg ha rfl hok).mono ?_
  rintro e w4 ⟨A2, c2, rfl, ho, hb⟩
  have HB2 := HB.trans (hb.mono (by omega))
  replace ho := ho.mono (lo' := w.heap.size) (by omega)
  have hq2 := (hb.cell (p := ⟨b, off + k * 5 + 2, none⟩) (by show b < _; omega)).trans hc2
  clear hb hc0 hc1 hc2 hc3 hc4
  go_wp2
  go_quiet (fail)
  go_wp2
  go_ret3
  rw [H.out]
  exact ⟨A2, c2, rfl, ho.drewN _, belowN HB2 _⟩
set_option maxRecDepth 100000 in
set_option maxHeartbeats 4000000 in
theorem implWeaveDays_any (A : Option Addr) (n c B : Nat) (xs : List LoomR) (id : Int) (d : Int) (w : World) (h : RdF loomF w B A n c xs) (hB : B ≤ w.heap.size) :
    Calls Try.prog 7 #[.slice A n c, .int .i64 id, .int .i64 d] w (OutFib loomF w (weave5 xs id d).1 (weave5 xs id d).2.1 (weave5 xs id d).2.2) := by
  obtain rfl := h.len
  have q0 := Blk.new w #[.int .i64 2] 3
  have HB : Below w.heap.size w (w.alloc (.cells #[.int .i64 2] 3)) := (Below.refl _ _).alloc (Nat.le_refl _) _
  have hR := h.alloc hB (.cells #[.int .i64 2] 3)
  rcases hl : look xs id [2] with _ | ⟨k, a⟩
  · have H := Lib.hid (show weave5 xs id d = ([], 0, false) by unfold weave5; rw [hl])
    have HL := Lib.hid hl
    clear hl
    go_enter Try.func7, Try.ntmps7
    go_wp2_with fail
    refine (loomIn_none A _ c B xs id [2] w.heap.size 1 _ hR (by simp; omega) q0 rfl (by omega) HL.out).mono ?_
    rintro e w1 ⟨rfl, hb⟩
    replace HB := HB.trans (hb.mono HB.size)
    have hz1 := HB.size
    clear hb
    go_wp2
    go_ret3
    rw [H.out]
    exact ⟨none, 0, rfl, OwnF.nil _ _ _, by repeat (first | assumption | exact Below.refl _ _ | refine belowN ?_ _ | refine belowD ?_ | (refine Below.setCell ?_ (by first | (simp; done) | (simp; omega) | omega) _) | (refine Below.alloc ?_ (by first | (simp; done) | (simp; omega) | omega) _))⟩
  obtain ⟨hg, ha, hid0, hst⟩ := look_of hl
  have hkl := (List.getElem?_eq_some_iff.1 ha).1
  have hbusy : LoomOk a := loomB_of ((loomsB_of hg).2.1 k a hkl ha)
  have hf4 : a.f4 = 2 := by simpa using hst
  have hp : 50 ≤ a.f3 ∧ a.f3 ≤ 500 := by
    obtain ⟨_, _, _, h3, h4⟩ := hbusy
    unfold LoomSt at h4
    omega
  by_cases hd : inB d 0 200 = true
  rotate_left
  · have hd' := not_false hd
    have H := Lib.hid (show weave5 xs id d = ([], 0, false) by unfold weave5; rw [hl]; exact if_neg hd)
    have HL := Lib.hid hl
    clear hl hst hid0 hf4 hbusy hd
    go_enter Try.func7, Try.ntmps7
    go_wp2_with fail
    refine (loomIn_some _ _ c B xs id [2] w.heap.size 1 _ hR (by simp; omega) q0 rfl (by omega) k a HL.out).mono ?_
    rintro e w1 ⟨rfl, hb⟩
    replace hR := hR.all hb (by simp; omega)
    replace HB := HB.trans (hb.mono HB.size)
    have hz1 := HB.size
    clear hb
    go_wp2_with fail
    refine (isBetween_any _ _ _ _).mono ?_
    rintro e w2 ⟨rfl, rfl⟩
    rw [hd']
    go_wp2
    go_ret3
    rw [H.out]
    exact ⟨none, 0, rfl, OwnF.nil _ _ _, by repeat (first | assumption | exact Below.refl _ _ | refine belowN ?_ _ | refine belowD ?_ | (refine Below.setCell ?_ (by first | (simp; done) | (simp; omega) | omega) _) | (refine Below.alloc ?_ (by first | (simp; done) | (simp; omega) | omega) _))⟩
  have H := Lib.hid (show weave5 xs id d = ((put5 xs k (wovenR a d)).1, wovenI a d, (put5 xs k (wovenR a d)).2) by unfold weave5; rw [hl]; exact if_pos hd)
  obtain ⟨b, off, a', rfl, hbB, ok, HX, _, _, _, _, _⟩ := LoomR_at (F := loomF) rfl (fun _ => rfl) (fun _ => rfl) h hkl
  obtain rfl : a' = a := Option.some.inj (HX.out.symm.trans ha)
  have hdr := inB_yes hd
  have HL := Lib.hid hl
  obtain ⟨v, hv⟩ : ∃ v, wovenI a' d = v := ⟨_, rfl⟩
  have hv0 : 0 ≤ v ∧ v ≤ 200 ∧ v ≤ d ∧ 3 * v ≤ a'.f3 - 50 := by unfold wovenI at hv; omega
  obtain ⟨hv1, hv2, hv3, hv4⟩ := hv0
  have HV := Lib.hid hv
  have HM := Lib.hid (show min d ((a'.f3 - 50) / 3) = v from hv)
  obtain ⟨hp1, hp2⟩ := hp
  have HF4 := Lib.hid hf4
  clear hl hst hid0 hbusy hv hf4
  by_cases hlt : v < d
  · have HR := Lib.hid (show wovenR a' d = ⟨a'.f0, a'.f1, a'.f2, a'.f3 - v * 3, 3⟩ by unfold wovenR; rw [HV.out, if_pos hlt, show a'.f3 - 3 * v = a'.f3 - v * 3 by omega])
    have hok : LoomR.ok ⟨a'.f0, a'.f1, a'.f2, a'.f3 - v * 3, 3⟩ := ok_small ok ok.2.2.1 (i64_small (by omega) (by omega)) (i64_small (by omega) (by omega))
    have e3 : IntKind.i64.wrap (v * 3) = v * 3 := IntWalk.i64_in _ (by omega)
    have e4 : IntKind.i64.wrap (a'.f3 - v * 3) = a'.f3 - v * 3 := IntWalk.i64_in _ (by omega)
    go_enter Try.func7, Try.ntmps7
    go_wp2_with fail
    refine (loomIn_some _ _ c B xs id [2] w.heap.size 1 _ hR (by simp; omega) q0 rfl (by omega) k a' HL.out).mono ?_
    rintro e w1 ⟨rfl, hb⟩
    replace hR := hR.all hb (by simp; omega)
    replace HB := HB.trans (hb.mono HB.size)
    have hz1 := HB.size
    clear hb
    have x9 := Blk.new w1 #[.int .i64 a'.f0, .int .i64 a'.f1, .int .i64 a'.f2, .int .i64 a'.f3, .int .i64 a'.f4] 37
    have hRx := hR.alloc (by omega) (.cells #[.int .i64 a'.f0, .int .i64 a'.f1, .int .i64 a'.f2, .int .i64 a'.f3, .int .i64 a'.f4] 37)
    have HBx := HB.alloc hz1 (.cells #[.int .i64 a'.f0, .int .i64 a'.f1, .int .i64 a'.f2, .int .i64 a'.f3, .int .i64 a'.f4] 37)
    go_wp2_with fail
    refine (isBetween_any _ _ _ _).mono ?_
    rintro e w2 ⟨rfl, rfl⟩
    rw [hd]
    go_wp2_with fail
    refine (daysLeftOf_any a' _ ⟨hp1, hp2⟩).mono ?_
    rintro e w3 ⟨rfl, hb⟩
    replace x9 := x9.all hb
    replace hRx := hRx.all hb (by simp; omega)
    replace HBx := HBx.trans (hb.mono HBx.size)
    have hz3 := HBx.size
    have hz9 := x9.lt
    clear hb HB hR
    have c90 := x9.cell 0
    have c91 := x9.cell 1
    have c92 := x9.cell 2
    have c93 := x9.cell 3
    have c94 := x9.cell 4
    have f93 := x9.frozen 3
    have f94 := x9.frozen 4
    have HR3 := Lib.hid (hRx.keep (w' := w3.setCell ⟨w1.heap.size, 3, none⟩ (.int .i64 (a'.f3 - v * 3))) (fun b o hb => World.cell?_setCell_other _ _ _ _ (by first | (simp; done) | (simp; omega))))
    have HB3 := Lib.hid (HBx.setCell (p := ⟨w1.heap.size, 3, none⟩) hz1 (.int .i64 (a'.f3 - v * 3)))
    have HR4 := Lib.hid (HR3.out.keep (w' := (w3.setCell ⟨w1.heap.size, 3, none⟩ (.int .i64 (a'.f3 - v * 3))).setCell ⟨w1.heap.size, 4, none⟩ (.int .i64 3)) (fun b o hb => World.cell?_setCell_other _ _ _ _ (by first | (simp; done) | (simp; omega))))
    have HB4 := Lib.hid (HB3.out.setCell (p := ⟨w1.heap.size, 4, none⟩) hz1 (.int .i64 3))
    have hmin := HM.out
    go_wp2_with fail
    refine (withLoom_any b off _ c B xs ⟨a'.f0, a'.f1, a'.f2, a'.f3 - v * 3, 3⟩ k a' _ HR4.out (by simp; omega) hg ha rfl hok).mono ?_
    rintro e w4 ⟨A2, c2, rfl, ho, hb⟩
    have HB5 := HB4.out.trans (hb.mono (by simp; omega))
    replace ho := ho.mono (lo' := w.heap.size) (by simp; omega)
    clear hb
    go_wp2
    go_ret3
    rw [H.out, HR.out, HV.out]
    exact ⟨A2, c2, rfl, ho, HB5⟩
  · have HR := Lib.hid (show wovenR a' d = ⟨a'.f0, a'.f1, a'.f2, a'.f3 - v * 3, a'.f4⟩ by unfold wovenR; rw [HV.out, if_neg hlt, show a'.f3 - 3 * v = a'.f3 - v * 3 by omega, HF4.out])
    have hok : LoomR.ok ⟨a'.f0, a'.f1, a'.f2, a'.f3 - v * 3, a'.f4⟩ := ok_small ok ok.2.2.1 (i64_small (by omega) (by omega)) ok.2.2.2.2
    have e3 : IntKind.i64.wrap (v * 3) = v * 3 := IntWalk.i64_in _ (by omega)
    have e4 : IntKind.i64.wrap (a'.f3 - v * 3) = a'.f3 - v * 3 := IntWalk.i64_in _ (by omega)
    go_enter Try.func7, Try.ntmps7
    go_wp2_with fail
    refine (loomIn_some _ _ c B xs id [2] w.heap.size 1 _ hR (by simp; omega) q0 rfl (by omega) k a' HL.out).mono ?_
    rintro e w1 ⟨rfl, hb⟩
    replace hR := hR.all hb (by simp; omega)
    replace HB := HB.trans (hb.mono HB.size)
    have hz1 := HB.size
    clear hb
    have x9 := Blk.new w1 #[.int .i64 a'.f0, .int .i64 a'.f1, .int .i64 a'.f2, .int .i64 a'.f3, .int .i64 a'.f4] 37
    have hRx := hR.alloc (by omega) (.cells #[.int .i64 a'.f0, .int .i64 a'.f1, .int .i64 a'.f2, .int .i64 a'.f3, .int .i64 a'.f4] 37)
    have HBx := HB.alloc hz1 (.cells #[.int .i64 a'.f0, .int .i64 a'.f1, .int .i64 a'.f2, .int .i64 a'.f3, .int .i64 a'.f4] 37)
    go_wp2_with fail
    refine (isBetween_any _ _ _ _).mono ?_
    rintro e w2 ⟨rfl, rfl⟩
    rw [hd]
    go_wp2_with fail
    refine (daysLeftOf_any a' _ ⟨hp1, hp2⟩).mono ?_
    rintro e w3 ⟨rfl, hb⟩
    replace x9 := x9.all hb
    replace hRx := hRx.all hb (by simp; omega)
    replace HBx := HBx.trans (hb.mono HBx.size)
    have hz3 := HBx.size
    have hz9 := x9.lt
    clear hb HB hR
    have c90 := x9.cell 0
    have c91 := x9.cell 1
    have c92 := x9.cell 2
    have c93 := x9.cell 3
    have c94 := x9.cell 4
    have f93 := x9.frozen 3
    have f94 := x9.frozen 4
    have HR3 := Lib.hid (hRx.keep (w' := w3.setCell ⟨w1.heap.size, 3, none⟩ (.int .i64 (a'.f3 - v * 3))) (fun b o hb => World.cell?_setCell_other _ _ _ _ (by first | (simp; done) | (simp; omega))))
    have HB3 := Lib.hid (HBx.setCell (p := ⟨w1.heap.size, 3, none⟩) hz1 (.int .i64 (a'.f3 - v * 3)))
    have HR4 := Lib.hid (HR3.out.keep (w' := (w3.setCell ⟨w1.heap.size, 3, none⟩ (.int .i64 (a'.f3 - v * 3))).setCell ⟨w1.heap.size, 4, none⟩ (.int .i64 3)) (fun b o hb => World.cell?_setCell_other _ _ _ _ (by first | (simp; done) | (simp; omega))))
    have HB4 := Lib.hid (HB3.out.setCell (p := ⟨w1.heap.size, 4, none⟩) hz1 (.int .i64 3))
    have hmin := HM.out
    go_wp2_with fail
    refine (withLoom_any b off _ c B xs ⟨a'.f0, a'.f1, a'.f2, a'.f3 - v * 3, a'.f4⟩ k a' _ HR3.out (by simp; omega) hg ha rfl hok).mono ?_
    rintro e w4 ⟨A2, c2, rfl, ho, hb⟩
    have HB5 := HB3.out.trans (hb.mono (by simp; omega))
    replace ho := ho.mono (lo' := w.heap.size) (by simp; omega)
    clear hb
    go_wp2
    go_ret3
    rw [H.out, HR.out, HV.out]
    exact ⟨A2, c2, rfl, ho, HB5⟩
set_option maxRecDepth 100000 in
set_option maxHeartbeats 4000000 in
theorem specWeaveDays_any (A : Option Addr) (n c B : Nat) (xs : List LoomR) (id : Int) (d : Int) (w : World) (h : RdF loomF w B A n c xs) (hB : B ≤ w.heap.size) :
    Calls Try.prog 8 #[.slice A n c, .int .i64 id, .int .i64 d] w (OutFib loomF w (weave5 xs id d).1 (weave5 xs id d).2.1 (weave5 xs id d).2.2) := by
  obtain rfl := h.len
  rcases hl : look xs id [2] with _ | ⟨k, a⟩
  · have H := Lib.hid (show weave5 xs id d = ([], 0, false) by unfold weave5; rw [hl])
    have HL := Lib.hid ((look_dup xs id 2).trans hl)
    clear hl
    go_enter Try.func8, Try.ntmps8
    go_wp2_with fail
    refine (l5Find_none A _ c B xs id 2 2 _ h hB HL.out).mono ?_
    rintro e w1 ⟨rfl, hb⟩
    have hz1 := hb.size
    go_wp2
    go_ret3
    rw [H.out]
    exact ⟨some ⟨w1.heap.size, 0, none⟩, 0, rfl, OwnF.empty loomF hz1, hb.alloc hz1 _⟩
  obtain ⟨hg, ha, hid0, hst⟩ := look_of hl
  have hkl := (List.getElem?_eq_some_iff.1 ha).1
  have hbusy : LoomOk a := loomB_of ((loomsB_of hg).2.1 k a hkl ha)
  have hf4 : a.f4 = 2 := by simpa using hst
  have hp : 50 ≤ a.f3 ∧ a.f3 ≤ 500 := by
    obtain ⟨_, _, _, h3, h4⟩ := hbusy
    unfold LoomSt at h4
    omega
  have HL := Lib.hid ((look_dup xs id 2).trans hl)
  have hk0 : (0 : Int) ≤ (k : Int) := by omega
  have hkn : (k : Int) < (xs.length : Int) := by omega
  by_cases hd : inB d 0 200 = true
  rotate_left
  · have hd' := not_false hd
    have H := Lib.hid (show weave5 xs id d = ([], 0, false) by unfold weave5; rw [hl]; exact if_neg hd)
    clear hl hst hid0 hf4 hbusy hd
    go_enter Try.func8, Try.ntmps8
    go_wp2_with fail
    refine (l5Find_some _ _ c B xs id 2 2 _ h hB k a HL.out).mono ?_
    rintro e w1 ⟨rfl, hb⟩
    have hz1 := hb.size
    go_wp2_with fail
    refine (l1In_any _ _ _ _).mono ?_
    rintro e w2 ⟨rfl, rfl⟩
    rw [hd']
    go_wp2
    go_ret3
    rw [H.out]
    exact ⟨some ⟨w1.heap.size, 0, none⟩, 0, rfl, OwnF.empty loomF hz1, hb.alloc hz1 _⟩
  have H := Lib.hid (show weave5 xs id d = ((put5 xs k (wovenR a d)).1, wovenI a d, (put5 xs k (wovenR a d)).2) by unfold weave5; rw [hl]; exact if_pos hd)
  have hdr := inB_yes hd
  obtain ⟨D, rfl⟩ : ∃ D : Nat, d = (D : Int) := ⟨d.toNat, by omega⟩
  obtain ⟨hp1, hp2⟩ := hp
  have hD : D ≤ 200 := by omega
  have HF4 := Lib.hid hf4
  clear hl hst hid0 hbusy hf4
  go_enter Try.func8, Try.ntmps8
  go_wp2_with fail
  refine (l5Find_some _ _ c B xs id 2 2 _ h hB k a HL.out).mono ?_
  rintro e w1 ⟨rfl, hb⟩
  have hR := h.all hb hB
  have HB := hb
  have hz1 := HB.size
  obtain ⟨b, off, a', rfl, hbB, ok, HX, hc0, hc1, hc2, hc3, hc4⟩ := LoomR_at (F := loomF) rfl (fun _ => rfl) (fun _ => rfl) hR hkl
  obtain rfl : a' = a := Option.some.inj (HX.out.symm.trans ha)
  have x9 := Blk.new w1 #[.int .i64 a'.f0, .int .i64 a'.f1, .int .i64 a'.f2, .int .i64 a'.f3, .int .i64 a'.f4] 37
  rw [HF4.out] at x9
  clear hb
  go_wp2_with fail
  refine (l1In_any _ _ _ _).mono ?_
  rintro e w2 ⟨rfl, rfl⟩
  rw [hd]
  replace hR := hR.alloc (by omega) (.cells #[.int .i64 a'.f0, .int .i64 a'.f1, .int .i64 a'.f2, .int .i64 a'.f3, .int .i64 a'.f4] 37)
  replace HB := HB.alloc hz1 (.cells #[.int .i64 a'.f0, .int .i64 a'.f1, .int .i64 a'.f2, .int .i64 a'.f3, .int .i64 a'.f4] 37)
  rw [HF4.out] at hR HB hc4
  go_wp2
  clear hc0 hc1 hc2 hc3 hc4
  generalize w1.alloc (.cells #[.int .i64 a'.f0, .int .i64 a'.f1, .int .i64 a'.f2, .int .i64 a'.f3, .int .i64 2] 37) = w3 at *
  have hP := x9.lt
  generalize w1.heap.size = P at *
  go_loopg [11] (2 * D + 1) (fun gh s11 wr => ∃ (j : Nat) (st : Int) (m : Nat), m ≤ gh ∧ j ≤ D ∧ s11 = .int .i64 (j : Int) ∧ Hid ((st = 2 ∧ 3 * (j : Int) ≤ a'.f3 - 50 ∧ 2 * (D - j) + 1 ≤ m) ∨ (st = 3 ∧ (j : Int) = (a'.f3 - 50) / 3 ∧ j < D ∧ 2 * (D - j) ≤ m)) ∧
      Blk wr P 37 #[.int .i64 a'.f0, .int .i64 a'.f1, .int .i64 a'.f2, .int .i64 (a'.f3 - 3 * (j : Int)), .int .i64 st] ∧ RdF loomF wr B (some ⟨b, off, none⟩) xs.length c xs ∧ Below w.heap.size w wr)
  case atStart => exact ⟨0, 2, 2 * D + 1, Nat.le_refl _, Nat.zero_le _, rfl, Or.inl ⟨rfl, by omega, by omega⟩, by simpa using x9, hR, HB⟩
  case round =>
    obtain ⟨j, st, m, hm, hj, rfl, HC, x9, hR, HB⟩ := hrel
    have hzr := HB.size
    have hP9 := x9.lt
    by_cases hex : st = 2 ∧ j < D
    · obtain ⟨rfl, hjD⟩ := hex
      obtain ⟨hj3, hgh⟩ : 3 * (j : Int) ≤ a'.f3 - 50 ∧ 2 * (D - j) + 1 ≤ m := by
        rcases HC.out with ⟨_, h1, h2⟩ | ⟨h1, _⟩
        · exact ⟨h1, h2⟩
        · omega
      have hjd : (j : Int) < (D : Int) := by omega
      obtain ⟨p, hp⟩ : ∃ p, a'.f3 - 3 * (j : Int) = p := ⟨_, rfl⟩
      have HP := Lib.hid hp
      have hpb : 50 ≤ p ∧ p ≤ 500 := by omega
      obtain ⟨hpb1, hpb2⟩ := hpb
      rw [hp] at x9
      clear hp
      have c93 := x9.cell 3
      have c94 := x9.cell 4
      have f93 := x9.frozen 3
      have f94 := x9.frozen 4
      have e5 : IntKind.i64.wrap (p - 3) = p - 3 := IntWalk.i64_in _ (by omega)
      by_cases hbr : p - 3 < 50
      · have x10 := x9.set_ 4 (.int .i64 3)
        have hR4 := hR.keep (w' := wr.setCell ⟨P, 4, none⟩ (.int .i64 3)) (fun b o hb => World.cell?_setCell_other _ _ _ _ (by first | (simp; done) | (simp; omega)))
        have HB4 := HB.setCell (p := ⟨P, 4, none⟩) hz1 (.int .i64 3)
        have HP2 := Lib.hid (show (j : Int) = (a'.f3 - 50) / 3 ∧ j < D ∧ 2 * (D - j) ≤ 2 * (D - j) by have := HP.out; omega)
        clear HB hR x9
        go_wp2
        go_roundg (2 * (D - j))
        case measure => omega
        case rel => exact ⟨j, 3, _, Nat.le_refl _, hj, rfl, Or.inr ⟨rfl, HP2.out⟩, by rw [HP.out]; exact x10, hR4, HB4⟩
      · have x10 := x9.set_ 3 (.int .i64 (p - 3))
        have hR4 := hR.keep (w' := wr.setCell ⟨P, 3, none⟩ (.int .i64 (p - 3))) (fun b o hb => World.cell?_setCell_other _ _ _ _ (by first | (simp; done) | (simp; omega)))
        have HB4 := HB.setCell (p := ⟨P, 3, none⟩) hz1 (.int .i64 (p - 3))
        have HP2 := Lib.hid (show 3 * (((j + 1 : Nat)) : Int) ≤ a'.f3 - 50 ∧ 2 * (D - (j + 1)) + 1 ≤ 2 * (D - (j + 1)) + 1 by have := HP.out; omega)
        have HP3 := Lib.hid (show a'.f3 - 3 * ((j + 1 : Nat) : Int) = p - 3 by have := HP.out; omega)
        clear HB hR x9
        go_wp2
        go_roundg (2 * (D - (j + 1)) + 1)
        case measure => omega
        case rel => exact ⟨j + 1, 2, _, Nat.le_refl _, by omega, by go_num, Or.inl ⟨rfl, HP2.out⟩, by rw [HP3.out]; exact x10, hR4, HB4⟩
    · obtain ⟨HV, HR⟩ : Hid (wovenI a' (D : Int) = (j : Int)) ∧ Hid (wovenR a' (D : Int) = ⟨a'.f0, a'.f1, a'.f2, a'.f3 - 3 * (j : Int), st⟩) := by
        have hv : wovenI a' (D : Int) = (j : Int) := by
          unfold wovenI
          rcases HC.out with ⟨h1, h2, _⟩ | ⟨h1, h2, h3, _⟩
          · have : ¬ j < D := fun h' => hex ⟨h1, h'⟩
            omega
          · omega
        refine ⟨hv, ?_⟩
        show wovenR a' (D : Int) = _
        unfold wovenR
        rw [hv]
        rcases HC.out with ⟨h1, h2, _⟩ | ⟨h1, h2, h3, _⟩
        · have : ¬ j < D := fun h' => hex ⟨h1, h'⟩
          rw [if_neg (by omega), h1]
        · rw [if_pos (by omega), h1]
      have hstb : -1000 ≤ st ∧ st ≤ 1000 ∧ 0 ≤ a'.f3 - 3 * (j : Int) ∧ a'.f3 - 3 * (j : Int) ≤ 1000 := by
        rcases HC.out with ⟨h1, h2, _⟩ | ⟨h1, h2, h3, _⟩ <;> omega
      have hok : LoomR.ok ⟨a'.f0, a'.f1, a'.f2, a'.f3 - 3 * (j : Int), st⟩ := ok_small ok ok.2.2.1 (i64_small (by omega) (by omega)) (i64_small (by omega) (by omega))
      have c90 := x9.cell 0
      have c91 := x9.cell 1
      have c92 := x9.cell 2
      have c93 := x9.cell 3
      have c94 := x9.cell 4
      by_cases hjD : j < D
      · have hst2 : (st == 2) = false := by
          simp only [beq_eq_false_iff_ne, ne_eq]
          exact fun h' => hex ⟨h', hjD⟩
        have hjd : (j : Int) < (D : Int) := by omega
        go_wp2_with fail
        refine (l5With_any b off _ c B xs ⟨a'.f0, a'.f1, a'.f2, a'.f3 - 3 * (j : Int), st⟩ k a' _ hR (by omega) hg ha rfl hok).mono ?_
        rintro e w4 ⟨A2, c2, rfl, ho, hb⟩
        have HB5 := HB.trans (hb.mono (by omega))
        replace ho := ho.mono (lo' := w.heap.size) (by omega)
        clear hb
        go_wp2
        go_ret3
        rw [H.out, HR.out, HV.out]
        exact ⟨A2, c2, rfl, ho, HB5⟩
      · have hjd : ¬ (j : Int) < (D : Int) := by omega
        go_wp2_with fail
        refine (l5With_any b off _ c B xs ⟨a'.f0, a'.f1, a'.f2, a'.f3 - 3 * (j : Int), st⟩ k a' _ hR (by omega) hg ha rfl hok).mono ?_
        rintro e w4 ⟨A2, c2, rfl, ho, hb⟩
        have HB5 := HB.trans (hb.mono (by omega))
        replace ho := ho.mono (lo' := w.heap.size) (by omega)
        clear hb
        go_wp2
        go_ret3
        rw [H.out, HR.out, HV.out]
        exact ⟨A2, c2, rfl, ho, HB5⟩
end Go.Proofs.Ytoeognlfalbfkaa
