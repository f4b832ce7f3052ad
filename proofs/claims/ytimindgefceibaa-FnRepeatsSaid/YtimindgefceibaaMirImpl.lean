/- The walk of the program's MirrorRepeat. No condition. -/
import Derived.Test.YtimindgefceibaaRepImpl
import Derived.Test.YtimindgefceibaaMirrored
namespace Go.Proofs.Ytimindgefceibaa
open Go.RowKit

def mirOk (W H : Int) (xs : List Int) (a : Int) : Bool := goodB W H xs && isSideB a
def mirAll (W H : Int) (xs : List Int) (a : Int) : Bool := mirOk W H xs a && isSideB (a * W)
def mirX (W H : Int) (xs : List Int) (a : Int) : List Int := if mirAll W H xs a = true then mirRepL W.toNat H.toNat xs a.toNat else []
theorem mirX_len (W H : Int) (xs : List Int) (a : Int) : (mirX W H xs a).length ≤ 1048576 := by
  unfold mirX
  split
  · rename_i h
    simp only [mirAll, mirOk, Bool.and_eq_true] at h
    obtain ⟨⟨hg, ha⟩, h1⟩ := h
    have hW := goodB_yes hg
    have := isSideB_yes ha
    have := tile_le (d := 1) (k := H.toNat) (f := mirF W.toNat xs) (nat_side h1 (by omega) (by omega)) (by omega)
    unfold mirRepL
    omega
  · simp
theorem mir_no {W H : Int} {xs : List Int} {a : Int} (h : ¬ mirOk W H xs a = true) : goodB W H xs = false ∨ (goodB W H xs = true ∧ isSideB a = false) := by
  unfold mirOk at h
  revert h
  generalize goodB W H xs = x
  generalize isSideB a = y
  cases x <;> cases y <;> simp
theorem mir_yes {W H : Int} {xs : List Int} {a : Int} (h : mirOk W H xs a = true) : goodB W H xs = true ∧ isSideB a = true := by simpa [mirOk] using h
/-- Every second header below i is that of a mirrored chart of the call's own. -/
def SeenM (w : World) (lo m k b off c : Nat) (xs : List Int) (a i : Nat) (hs : List ChR) : Prop :=
  hs.length = a ∧ ∀ j, j < a → (¬ (j % 2 = 1 ∧ j < i) → hs[j]? = some ⟨m, k, some ⟨b, off, none⟩, xs.length, c⟩) ∧ ((j % 2 = 1 ∧ j < i) → ∃ A c', hs[j]? = some ⟨m, k, A, (mirrorL m k xs).length, c'⟩ ∧ Own w lo (.slice A (mirrorL m k xs).length c') (mirrorL m k xs))
section
variable {w w' : World} {lo m k b off c a i B : Nat} {xs : List Int} {hs : List ChR}
theorem SeenM.start (hs : List ChR) (h : hs.length = a) (he : ∀ j, j < a → hs[j]? = some ⟨m, k, some ⟨b, off, none⟩, xs.length, c⟩) : SeenM w lo m k b off c xs a 1 hs :=
  ⟨h, fun j hj => ⟨fun _ => he j hj, fun hh => by omega⟩⟩
theorem SeenM.all (h : SeenM w lo m k b off c xs a i hs) (hb : Below w.heap.size w w') : SeenM w' lo m k b off c xs a i hs :=
  ⟨h.1, fun j hj => ⟨(h.2 j hj).1, fun hh => by
    obtain ⟨A, c', e, ho⟩ := (h.2 j hj).2 hh
    exact ⟨A, c', e, ho.all hb⟩⟩⟩
theorem SeenM.mark {lo' n : Nat} {v : Value} {zs : List Value} (h : SeenM w lo m k b off c xs a i hs) (hr : w.ownsRow lo' 26 3 v n zs) (hg : w.grownBy w' v.ownBlock) : SeenM w' lo m k b off c xs a i hs :=
  ⟨h.1, fun j hj => ⟨(h.2 j hj).1, fun hh => by
    obtain ⟨A, c', e, d⟩ := (h.2 j hj).2 hh
    refine ⟨A, c', e, d.mark hg (fun k k' hk hk' e => ?_)⟩
    subst e
    rcases d.1.2 with ⟨e1, _⟩ | ⟨g, cap, cur, e1, _, hgc, _⟩
    · rw [e1] at hk'; cases hk'
    · rw [e1] at hk'; cases hk'
      rcases hr.2 with ⟨e2, _⟩ | ⟨g2, cap2, cur2, e2, _, hgc2, _⟩
      · rw [e2] at hk; cases hk
      · rw [e2] at hk; cases hk
        rw [hgc] at hgc2
        simp only [Option.some.injEq, Obj.cells.injEq] at hgc2
        exact absurd hgc2.2.1 (by decide)⟩⟩
theorem SeenM.step {A : Option Addr} {c' : Nat} (h : SeenM w lo m k b off c xs a i hs) (hi : i < a) (ho : i % 2 = 1) (hd : Own w lo (.slice A (mirrorL m k xs).length c') (mirrorL m k xs)) :
    SeenM w lo m k b off c xs a (i + 2) (hs.set i ⟨m, k, A, (mirrorL m k xs).length, c'⟩) := by
  refine ⟨by rw [List.length_set]; exact h.1, fun j hj => ?_⟩
  have hl := h.1
  by_cases e : j = i
  · subst e
    refine ⟨fun hn => absurd ⟨ho, by omega⟩ hn, fun _ => ⟨A, c', ?_, hd⟩⟩
    rw [List.getElem?_set_self (by omega)]
  · rw [List.getElem?_set_ne (by omega)]
    refine ⟨fun hn => (h.2 j hj).1 (fun hh => hn ⟨hh.1, by omega⟩), fun hh => (h.2 j hj).2 ⟨hh.1, by omega⟩⟩
theorem SeenM.seen (h : SeenM w lo m k b off c xs a i hs) (hi : a ≤ i) (hR : Rd w B (some ⟨b, off, none⟩) xs.length c xs) (hB : B ≤ w.heap.size) :
    SeenR w w.heap.size hs (picsF m k a fun i => if i % 2 = 1 then mirrorL m k xs else xs) := by
  refine ⟨by rw [picsF_len]; exact h.1, fun j x q hx hq => ?_⟩
  have hj : j < a := by have := (List.getElem?_eq_some_iff.1 hq).1; rwa [picsF_len] at this
  rw [picsF_at hj] at hq
  simp only [Option.some.injEq] at hq
  subst hq
  by_cases e : j % 2 = 1
  · obtain ⟨A, c', e', ho⟩ := (h.2 j hj).2 ⟨e, by omega⟩
    rw [hx] at e'
    simp only [Option.some.injEq] at e'
    subst e'
    simp only [if_pos e]
    exact ⟨by simp, by simp, by simp, ho.rd⟩
  · have e' := (h.2 j hj).1 (fun hh => e hh.1)
    rw [hx] at e'
    simp only [Option.some.injEq] at e'
    subst e'
    simp only [if_neg e]
    exact ⟨by simp, by simp, by simp, hR.more hB⟩
end
set_option maxRecDepth 100000 in
set_option maxHeartbeats 4000000 in
theorem implMirrorRepeat_any (W H : Int) (A : Option Addr) (n c B : Nat) (xs : List Int) (a : Int) (w : World) (hR : Rd w B A n c xs) (hB : B ≤ w.heap.size) :
    Calls Try.prog 14 #[chartV W H (.slice A n c), .int .i64 a] w (OutChart w (orZero (mirAll W H xs a) (a * W)) (orZero (mirAll W H xs a) H) (mirX W H xs a) (mirAll W H xs a)) := by
  have hb0 := Lib.hid (((Below.refl w.heap.size w).alloc (Nat.le_refl _) (.cells #[.int .i64 W, .int .i64 H, .slice A n c] 26)).alloc (by simp) (.cells #[.int .i64 0, .int .i64 0, .slice none 0 0] 26))
  have h' := Lib.hid ((hR.alloc hB (.cells #[.int .i64 W, .int .i64 H, .slice A n c] 26)).alloc (by simp; omega) (.cells #[.int .i64 0, .int .i64 0, .slice none 0 0] 26))
  have r0 := (Blk.new (w.alloc (.cells #[.int .i64 W, .int .i64 H, .slice A n c] 26)) #[.int .i64 0, .int .i64 0, .slice none 0 0] 26)
  have x0 := (Blk.new w #[.int .i64 W, .int .i64 H, .slice A n c] 26).alloc (.cells #[.int .i64 0, .int .i64 0, .slice none 0 0] 26)
  by_cases h : mirOk W H xs a = true
  · obtain ⟨hg, ha⟩ := mir_yes h
    have hall : mirAll W H xs a = isSideB (a * W) := by unfold mirAll; rw [h]; simp
    have hX : mirX W H xs a = if isSideB (a * W) = true then mirRepL W.toNat H.toNat xs a.toNat else [] := by unfold mirX; rw [hall]
    obtain ⟨ok, hok⟩ : ∃ ok, Hid (mirAll W H xs a = ok) := ⟨_, rfl⟩
    obtain ⟨ys, hys⟩ : ∃ ys, Hid (mirX W H xs a = ys) := ⟨_, rfl⟩
    have HALL := Lib.hid (hall.symm.trans hok.out)
    have HX := Lib.hid (hX.symm.trans hys.out)
    rw [hok.out, hys.out]
    clear hX hall h hok hys
    obtain ⟨m, k, rfl, rfl, m1, m8, k1, k8, hl, h64, hl1, hcol⟩ := good_nat hg
    obtain ⟨a, rfl, a1, a8⟩ := isSideB_nat ha
    simp only [Int.toNat_natCast] at HX
    obtain rfl := hR.len
    obtain ⟨b, off, rfl, _, _⟩ := hR.cells (by omega)
    clear hR
    go_enter Try.func14, Try.ntmps14
    go_wp2_with fail
    refine (implIsChart_any m k _ _ c B xs _ h'.out (by simp; omega)).mono ?_
    rintro e w1 ⟨rfl, hb⟩
    have r1 := (r0.all hb).at_ (q := w.heap.size + 1) (by simp)
    have x1 := x0.all hb
    have R1 := h'.out.all hb (by simp; omega)
    have HB := Lib.hid (hb0.out.trans (hb.mono (by simp; omega)))
    have hsz := r1.lt
    have e0 := x1.cell 0
    have e1 := x1.cell 1
    have e2 := x1.cell 2
    clear hb r0 x0 h' hb0
    rw [hg]
    go_wp2_with (go_at_call 35; (with_reducible refine (isCopyCount_any _ _).mono ?_); rintro e w' ⟨rfl, rfl⟩)
    have hlit : RdF chartsF (w1.alloc (.cells #[.int .i64 (m : Int), .int .i64 (k : Int), .slice (some ⟨b, off, none⟩) xs.length c] 26)) (w1.heap.size + 1) (some ⟨w1.heap.size, 0, none⟩) 1 1 [⟨(m : Int), (k : Int), some ⟨b, off, none⟩, xs.length, c⟩] := RdF.lit (F := chartsF) (a := ⟨(m : Int), (k : Int), some ⟨b, off, none⟩, xs.length, c⟩) rfl trivial
    refine (repeatC_any w1.heap.size 0 1 (w1.heap.size + 1) a [⟨(m : Int), (k : Int), some ⟨b, off, none⟩, xs.length, c⟩] _ hlit (by simp) (Nat.le_refl _) a1 (by simp; omega)).mono ?_
    rintro e w2 ⟨g, rfl, own, hb⟩
    have hb' := Lib.hid (((Below.refl w1.heap.size w1).alloc (Nat.le_refl _) (.cells #[.int .i64 (m : Int), .int .i64 (k : Int), .slice (some ⟨b, off, none⟩) xs.length c] 26)).trans (hb.mono (by simp)))
    have r2 := r1.all hb'.out
    have x2 := x1.all hb'.out
    have R2 := R1.all hb'.out (by omega)
    have HB2 := Lib.hid (HB.out.trans (hb'.out.mono (by omega)))
    have hz2 : w1.heap.size ≤ w2.heap.size := hb'.out.size
    have hrl : (repT [(⟨(m : Int), (k : Int), some ⟨b, off, none⟩, xs.length, c⟩ : ChR)] a).length = a := by rw [repT_len]; simp
    have hgb := (own.bd g rfl).1
    replace hgb : w1.heap.size < g := by have := hgb; simp at this; omega
    replace own := own.mono (show w.heap.size ≤ _ by simp; omega)
    have hse := Lib.hid (SeenM.start (w := w2) (lo := w.heap.size) (m := m) (k := k) (b := b) (off := off) (c := c) (xs := xs) _ hrl (fun j hj => by rw [repT_at a j (by simpa using hj)]; simp [Nat.mod_one]))
    clear hb hb' e0 e1 e2 hlit x1 r1 R1 HB
    rw [hrl] at own ⊢
    generalize repT [(⟨(m : Int), (k : Int), some ⟨b, off, none⟩, xs.length, c⟩ : ChR)] a = h0 at *
    clear hrl
    go_wp2_with fail
    go_loopw [7] (fun s7 wr => ∃ (i : Nat) (hs : List ChR), s7 = .int .i64 i ∧ i % 2 = 1 ∧ i ≤ a + 1 ∧ Hid (SeenM wr w.heap.size m k b off c xs a i hs) ∧ OwnF chartsF wr w.heap.size (.slice (some ⟨g, 0, none⟩) a a) hs ∧ Blk wr w.heap.size 26 #[.int .i64 (m : Int), .int .i64 (k : Int), .slice (some ⟨b, off, none⟩) xs.length c] ∧ Blk wr (w.heap.size + 1) 26 #[.int .i64 0, .int .i64 0, .slice none 0 0] ∧ Rd wr B (some ⟨b, off, none⟩) xs.length c xs ∧ Hid (Below w.heap.size w wr)) (fun s7 _ => a + 1 - (intOf s7).toNat)
    case atStart => exact ⟨1, h0, rfl, rfl, by omega, hse, own, x2, r2, R2, HB2⟩
    case round =>
      clear hse own x2 r2 R2 HB2
      obtain ⟨i, hs, rfl, hodd, hia, hse, own, x2, r2, R2, HB2⟩ := hrel
      by_cases hlt : i < a
      · have x20 := x2.cell 0
        have x21 := x2.cell 1
        have x22 := x2.cell 2
        have hwz := HB2.out.size
        go_wp2_with fail
        refine (mirrored_any m k b off c B xs _ R2 (Nat.le_trans hB hwz) m1 m8 k1 k8 hl (Nat.mul_le_mul m8 k8) hl1).mono ?_
        rintro e w3 ⟨A3, c3, rfl, own3, hb3⟩
        have x3 := x2.all hb3
        have r3 := r2.all hb3
        have R3 := R2.all hb3 (Nat.le_trans hB hwz)
        have HB3 := Lib.hid (HB2.out.trans (hb3.mono hwz))
        have ho := own.all hb3
        have hs3 := Lib.hid (hse.out.all hb3)
        have hhl : hs.length = a := hse.out.1
        have hgs : g < wr.heap.size := (own.bd g rfl).2
        have hne3 := (own3.bd)
        have hz3 : wr.heap.size ≤ w3.heap.size := hb3.size
        replace own3 := own3.mono hwz
        clear own x2 r2 R2 HB2 hse hb3 x20 x21 x22
        obtain ⟨y0, hy0⟩ := ho.there (j := i) (i := 0) (by omega) (by decide)
        obtain ⟨y1, hy1⟩ := ho.there (j := i) (i := 1) (by omega) (by decide)
        obtain ⟨y2, hy2⟩ := ho.there (j := i) (i := 2) (by omega) (by decide)
        have hf0 : w3.frozen? ⟨g, i * 3, none⟩ = false := ho.frozen _
        have hf1 : w3.frozen? ⟨g, i * 3 + 1, none⟩ = false := ho.frozen _
        have hf2 : w3.frozen? ⟨g, i * 3 + 2, none⟩ = false := ho.frozen _
        replace hy0 : w3.cell? ⟨g, i * 3, none⟩ = some y0 := hy0
        replace hy1 : w3.cell? ⟨g, i * 3 + 1, none⟩ = some y1 := hy1
        replace hy2 : w3.cell? ⟨g, i * 3 + 2, none⟩ = some y2 := hy2
        have HP := Lib.hid (ho.put (j := i) (by omega) ⟨(m : Int), (k : Int), A3, (mirrorL m k xs).length, c3⟩ trivial)
        have hw2 : IntKind.i64.wrap ((i : Int) + 2) = (i : Int) + 2 := IntWalk.i64_in _ (by omega)
        go_wp2_with fail
        have hg := Lib.hid (show w3.grownBy _ (some g) from HP.out.2)
        have o4 := HP.out.1
        have x4 := x3.mark hg.out (fun z hz => by cases hz; omega)
        have r4 := r3.mark hg.out (fun z hz => by cases hz; omega)
        have R4 := R3.mark hg.out (fun z hz => by cases hz; omega) (by omega)
        have HB4 := Lib.hid (HB3.out.grown hg.out (by omega) (fun z hz => by cases hz; omega))
        have hs4 := Lib.hid (hs3.out.mark ho.1 hg.out)
        have own4 := own3.mark hg.out (fun z z' hz hz' e => by cases hz; have := (hne3 z' hz').1; omega)
        have hs5 := Lib.hid (hs4.out.step hlt hodd own4)
        clear HP ho hg x3 r3 R3 HB3 hs3 hs4 own3 own4 hy0 hy1 hy2 hf0 hf1 hf2 hne3
        go_roundw
        case rel => exact ⟨i + 2, _, by go_num, by omega, by omega, hs5, o4, x4, r4, R4, HB4⟩
        case measure => simp [intOf]; omega
      · have hwz := HB2.out.size
        have hmn : 1 * 1 ≤ a * m := Nat.mul_le_mul a1 m1
        have hps := picsF_ok (F := fun i => if i % 2 = 1 then mirrorL m k xs else xs) m1 m8 k1 k8 (a := a) (fun i _ => by
          show (if i % 2 = 1 then mirrorL m k xs else xs).length = m * k
          split
          · rw [mirrorL_len, Nat.mul_comm]
          · exact hl.out)
        have hwd : widP (picsF m k a fun i => if i % 2 = 1 then mirrorL m k xs else xs) (picsF m k a fun i => if i % 2 = 1 then mirrorL m k xs else xs).length = a * m := by rw [picsF_len, widP_pics (Nat.le_refl _)]
        have HSR := Lib.hid (hse.out.seen (by omega) R2 (Nat.le_trans hB hwz))
        have hti := Lib.hid (mir_tile (k := k) (xs := xs) m1 a1 hl.out)
        have HSZ := Lib.hid (show 1 ≤ (sideTo (picsF m k a fun i => if i % 2 = 1 then mirrorL m k xs else xs) k).length by
          rw [sideTo_len hps (Nat.le_refl _), hwd]
          exact Nat.mul_le_mul k1 hmn)
        obtain ⟨ps, hpe⟩ : ∃ ps, ps = picsF m k a fun i => if i % 2 = 1 then mirrorL m k xs else xs := ⟨_, rfl⟩
        rw [← hpe] at hps hwd HSR hti HSZ
        clear hpe hse
        go_wp2_with fail
        refine (sideBySide_any hs ps _ a a _ k wr own.rd (Nat.le_refl _) HSR.out a1 a8 k1 k8 hps).mono ?_
        rintro e w3 ⟨A3, c3, rfl, own3, hb3⟩
        have r3 := r2.all hb3
        have HB3 := Lib.hid (HB2.out.trans (hb3.mono hwz))
        have hz3 : w.heap.size ≤ w3.heap.size := HB3.out.size
        replace own3 := own3.mono hwz
        rw [hwd]
        clear own x2 r2 R2 HB2 hb3 hps HSR hwd
        generalize sideTo ps k = zs at *
        have HG := Lib.hid (show goodB ((a * m : Nat) : Int) (k : Int) zs = ok by
          have hk8 : isSideB (k : Int) = true := by unfold isSideB; rw [decide_eq_true_eq]; omega
          have e1 : mirRepL m k xs a = gridL (1 * k) (a * m) fun i j => mirF m xs (i / k) (j / m) (i % k) (j % m) := rfl
          rw [← HALL.out, hti.out, e1, Nat.one_mul, good_grid (fun i j => by unfold mirF; split <;> exact elt_color hcol), hk8, Bool.and_true, Int.natCast_mul])
        have HY := Lib.hid (show (if ok = true then zs else []) = ys by rw [← HX.out, HALL.out, hti.out])
        go_wp2_with fail
        refine (checkedChart_any _ _ _ _ _ w.heap.size zs w3 own3 rfl ok HG.out ys HY.out).mono ?_
        rintro e w4 ⟨A4, c4, rfl, own4, hb4⟩
        have r4 := r3.all hb4
        have HB4 := Lib.hid (HB3.out.trans (hb4.mono hz3))
        have g0 := r4.cell 0
        have g1 := r4.cell 1
        have g2 := r4.cell 2
        have z0 := r4.frozen 0
        have z1 := r4.frozen 1
        have z2 := r4.frozen 2
        have hz6 := r4.lt
        clear hb4 own3 r3 HB3
        have F := fin3 (p := w.heap.size + 1) (a := .int .i64 (orZero ok ((a * m : Nat) : Int))) (b := .int .i64 (orZero ok (k : Int))) (c := .slice A4 ys.length c4) own4 (row_ne' own4.1 r4 (by decide)) HB4.out (by omega)
        go_wp2
        exact bodyPost_ret (v := .tuple #[chartV (orZero ok ((a * m : Nat) : Int)) (orZero ok (k : Int)) (.slice A4 ys.length c4), .bool ok]) (by simp [results, Try.results14, go_sem, g0, g1, g2]) rfl ⟨A4, c4, by rw [Int.natCast_mul], F.1, F.2⟩
  · have hno : mirAll W H xs a = false := by unfold mirAll; rw [not_false h]; rfl
    have hX : mirX W H xs a = [] := by unfold mirX; rw [hno]; rfl
    rw [hX, hno]
    rcases mir_no h with hg | ⟨hg, ha⟩
    all_goals
      go_enter Try.func14, Try.ntmps14
      go_wp2_with fail
      refine (implIsChart_any W H A n c B xs _ h'.out (by simp; omega)).mono ?_
      rintro e w1 ⟨rfl, hb⟩
      have r1 := (r0.all hb).at_ (q := w.heap.size + 1) (by simp)
      have HB := Lib.hid (hb0.out.trans (hb.mono (by simp; omega)))
      have g0 := r1.cell 0
      have g1 := r1.cell 1
      have g2 := r1.cell 2
      have z0 := r1.frozen 0
      have z1 := r1.frozen 1
      have z2 := r1.frozen 2
      clear hb r0
      rw [hg]
      go_wp2_with (go_at_call 35; (with_reducible refine (isCopyCount_any _ _).mono ?_); rintro e w' ⟨rfl, rfl⟩)
      have F := fin3 (p := w.heap.size + 1) (a := .int .i64 0) (b := .int .i64 0) (c := .slice none 0 0) (Own.nil w1 w.heap.size) (by simp [Value.ownBlock]) HB.out (by omega)
      exact bodyPost_ret (v := .tuple #[chartV 0 0 (.slice none 0 0), .bool false]) (by simp [results, Try.results14, go_sem, g0, g1, g2]) rfl ⟨none, 0, rfl, F.1, F.2⟩
end Go.Proofs.Ytimindgefceibaa
