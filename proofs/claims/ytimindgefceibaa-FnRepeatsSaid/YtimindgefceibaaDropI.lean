/- The walk of the program's HalfDrop. No condition. -/
import Derived.Test.YtimindgefceibaaRepImpl
import Derived.Test.YtimindgefceibaaConcat
import Derived.Test.YtimindgefceibaaPerA
namespace Go.Proofs.Ytimindgefceibaa
open Go.RowKit

def evenB (H : Int) : Bool := decide (H.toNat % 2 = 0)
def drpOk (W H : Int) (xs : List Int) : Bool := goodB W H xs && evenB H
def drpAll (W H : Int) (xs : List Int) : Bool := drpOk W H xs && isSideB (2 * W)
def drpX (W H : Int) (xs : List Int) : List Int := if drpAll W H xs = true then dropL W.toNat H.toNat xs else []
theorem drpX_len (W H : Int) (xs : List Int) : (drpX W H xs).length ≤ 1048576 := by
  unfold drpX
  split
  · rename_i h
    simp only [drpAll, drpOk, Bool.and_eq_true] at h
    obtain ⟨⟨hg, _⟩, h1⟩ := h
    have hW := goodB_yes hg
    have h2 := isSideB_yes h1
    unfold dropL
    rw [gridL_len]
    have : H.toNat * (2 * W.toNat) ≤ 8 * 8 := Nat.mul_le_mul (by omega) (by omega)
    omega
  · simp
theorem drp_no {W H : Int} {xs : List Int} (h : ¬ drpOk W H xs = true) : goodB W H xs = false ∨ (goodB W H xs = true ∧ evenB H = false) := by
  unfold drpOk at h
  revert h
  generalize goodB W H xs = x
  generalize evenB H = y
  cases x <;> cases y <;> simp
theorem drp_yes {W H : Int} {xs : List Int} (h : drpOk W H xs = true) : goodB W H xs = true ∧ evenB H = true := by simpa [drpOk] using h
theorem rem2m (s : Nat) : Int.tmod (s : Int) 2 = ((s % 2 : Nat) : Int) := by
  rw [Int.tmod_eq_emod_of_nonneg (by omega)]; omega
/-- A literal of some elements. -/
theorem RdF.lits {α : Type} (F : Flat α) {w : World} (cs : Array Value) (xs : List α) (hm : xs.length ≤ maxLen) (e : cs.toList = xs.flatMap F.enc) (hf : ∀ x ∈ xs, F.ok x) :
    RdF F (w.alloc (.cells cs F.t)) (w.heap.size + 1) (some ⟨w.heap.size, 0, none⟩) xs.length xs.length xs := by
  have := (OwnF.made F (w := w) (lo := w.heap.size) cs xs (Nat.le_refl _) hm e hf).rd
  simpa using this
theorem far1 {w : World} {p b o q : Nat} {v a1 : Value} (h : w.cell? ⟨b, o, none⟩ = some v) (hp : p ≠ b) : (w.setCell ⟨p, q, none⟩ a1).cell? ⟨b, o, none⟩ = some v := by
  rw [World.cell?_setCell_far _ _ _ _ hp, h]
theorem alk {w : World} {b o : Nat} {v : Value} (ob : Obj) (h : w.cell? ⟨b, o, none⟩ = some v) (hb : b < w.heap.size) : ((w.alloc ob).drew).cell? ⟨b, o, none⟩ = some v :=
  (World.cell?_alloc_lt w ob ⟨b, o, none⟩ hb).trans h
theorem alk' {w : World} {b o : Nat} {v : Value} (ob : Obj) (h : w.cell? ⟨b, o, none⟩ = some v) (hb : b < w.heap.size) : (w.alloc ob).cell? ⟨b, o, none⟩ = some v :=
  (World.cell?_alloc_lt w ob ⟨b, o, none⟩ hb).trans h
set_option maxRecDepth 100000 in
set_option maxHeartbeats 4000000 in
theorem implHalfDrop_any (W H : Int) (A : Option Addr) (n c B : Nat) (xs : List Int) (w : World) (hR : Rd w B A n c xs) (hB : B ≤ w.heap.size) :
    Calls Try.prog 18 #[chartV W H (.slice A n c)] w (OutChart w (orZero (drpAll W H xs) (2 * W)) (orZero (drpAll W H xs) H) (drpX W H xs) (drpAll W H xs)) := by
  have hb0 := Lib.hid (((Below.refl w.heap.size w).alloc (Nat.le_refl _) (.cells #[.int .i64 W, .int .i64 H, .slice A n c] 26)).alloc (by simp) (.cells #[.int .i64 0, .int .i64 0, .slice none 0 0] 26))
  have h' := Lib.hid ((hR.alloc hB (.cells #[.int .i64 W, .int .i64 H, .slice A n c] 26)).alloc (by simp; omega) (.cells #[.int .i64 0, .int .i64 0, .slice none 0 0] 26))
  have r0 := (Blk.new (w.alloc (.cells #[.int .i64 W, .int .i64 H, .slice A n c] 26)) #[.int .i64 0, .int .i64 0, .slice none 0 0] 26)
  have x0 := (Blk.new w #[.int .i64 W, .int .i64 H, .slice A n c] 26).alloc (.cells #[.int .i64 0, .int .i64 0, .slice none 0 0] 26)
  by_cases h : drpOk W H xs = true
  · obtain ⟨hg, hev⟩ := drp_yes h
    have hall : drpAll W H xs = isSideB (2 * W) := by unfold drpAll; rw [h]; simp
    have hX : drpX W H xs = if isSideB (2 * W) = true then dropL W.toNat H.toNat xs else [] := by unfold drpX; rw [hall]
    obtain ⟨ok, hok⟩ : ∃ ok, Hid (drpAll W H xs = ok) := ⟨_, rfl⟩
    obtain ⟨ys, hys⟩ : ∃ ys, Hid (drpX W H xs = ys) := ⟨_, rfl⟩
    have HALL := Lib.hid (hall.symm.trans hok.out)
    have HX := Lib.hid (hX.symm.trans hys.out)
    rw [hok.out, hys.out]
    clear hX hall h hok hys
    obtain ⟨m, k, rfl, rfl, m1, m8, k1, k8, hl, h64, hl1, hcol⟩ := good_nat hg
    simp only [Int.toNat_natCast] at HX
    obtain rfl := hR.len
    obtain ⟨b, off, rfl, _, _⟩ := hR.cells (by omega)
    have hcap := hR.cap
    have hmaxl := hR.max
    clear hR
    have hk2 : k % 2 = 0 := by simpa [evenB] using hev
    obtain ⟨hh, hk⟩ : ∃ hh, k = 2 * hh := ⟨k / 2, by omega⟩
    have hh1 : 1 ≤ hh := by omega
    have hh4 : hh ≤ 4 := by omega
    have HK := Lib.hid hk
    have hrem : Int.tmod (k : Int) 2 = 0 := by rw [rem2m, hk2]; rfl
    clear hev hk2 hk
    go_enter Try.func18, Try.ntmps18
    go_wp2_with fail
    refine (implIsChart_any m k _ _ c B xs _ h'.out (by simp; omega)).mono ?_
    rintro e w1 ⟨rfl, hb⟩
    have r1 := (r0.all hb).at_ (q := w.heap.size + 1) (by simp)
    have x1 := x0.all hb
    have R1 := h'.out.all hb (by simp; omega)
    have HB := Lib.hid (hb0.out.trans (hb.mono (by simp; omega)))
    have hsz := r1.lt
    have e0 := x1.cell 0
    have e1 := x1.cell 1
    have e2 := x1.cell 2
    clear hb r0 x0 h' hb0
    rw [hg]
    have hmd : xs.length = 2 * (hh * m) := by rw [hl.out, HK.out, Nat.mul_comm m, Nat.mul_assoc]
    obtain ⟨md, hmdd⟩ : ∃ md, md = hh * m := ⟨_, rfl⟩
    rw [← hmdd] at hmd
    have HMD := Lib.hid hmdd
    have HX2 := Lib.hid hmd
    have md1 : 1 ≤ md := by rw [hmdd]; exact Nat.mul_le_mul hh1 m1
    have hquo : Int.tdiv (xs.length : Int) 2 = (md : Int) := by rw [Int.tdiv_eq_ediv_of_nonneg (by omega)]; omega
    have hmn : md ≤ xs.length := by omega
    have hmc : ¬ c = md := by omega
    have hmz0 : (0 : Int) ≤ (md : Int) := by omega
    have hmz1 : (md : Int) ≤ (xs.length : Int) := by omega
    have hmz2 : (md : Int) ≤ (c : Int) := by omega
    have hR0 := (R1.from_ hmn)
    rw [if_neg hmc] at hR0
    have hR5 := R1.head_ hmn
    clear hmdd hmd
    go_wp2_with fail
    have y0 := Blk.new w1 #[.int .i64 (m : Int), .int .i64 (k : Int), .slice (some ⟨b, off, none⟩) xs.length c] 26
    have x2 := x1.alloc (.cells #[.int .i64 (m : Int), .int .i64 (k : Int), .slice (some ⟨b, off, none⟩) xs.length c] 26)
    have r2 := r1.alloc (.cells #[.int .i64 (m : Int), .int .i64 (k : Int), .slice (some ⟨b, off, none⟩) xs.length c] 26)
    have R2 := R1.alloc (by omega) (.cells #[.int .i64 (m : Int), .int .i64 (k : Int), .slice (some ⟨b, off, none⟩) xs.length c] 26)
    have hRa := hR0.alloc (by omega) (.cells #[.int .i64 (m : Int), .int .i64 (k : Int), .slice (some ⟨b, off, none⟩) xs.length c] 26)
    have hRb := hR5.alloc (by omega) (.cells #[.int .i64 (m : Int), .int .i64 (k : Int), .slice (some ⟨b, off, none⟩) xs.length c] 26)
    have HB2 := Lib.hid (HB.out.alloc (by omega) (.cells #[.int .i64 (m : Int), .int .i64 (k : Int), .slice (some ⟨b, off, none⟩) xs.length c] 26))
    have hz12 : w1.heap.size + 1 = (w1.alloc (.cells #[.int .i64 (m : Int), .int .i64 (k : Int), .slice (some ⟨b, off, none⟩) xs.length c] 26)).heap.size := by simp
    clear e0 e1 e2 x1 r1 R1 HB hR0 hR5
    obtain ⟨wv, hwv⟩ : ∃ wv, wv = w1.alloc (.cells #[.int .i64 (m : Int), .int .i64 (k : Int), .slice (some ⟨b, off, none⟩) xs.length c] 26) := ⟨_, rfl⟩
    rw [← hwv] at y0 x2 r2 R2 hRa hRb HB2 hz12 ⊢
    clear hwv
    have ex2 := x2.cell 2
    have ex0 := x2.cell 0
    have ex1 := x2.cell 1
    have hxl := x2.lt
    have hzv := HB2.out.size
    obtain ⟨wl, hwl⟩ : ∃ wl, wl = (wv.alloc (.cells #[.slice (some ⟨b, off + md, none⟩) (xs.length - md) (c - md), .slice (some ⟨b, off, none⟩) md c] 24)).drew := ⟨_, rfl⟩
    have hlit : RdF sliF wl (wv.heap.size + 1) (some ⟨wv.heap.size, 0, none⟩) 2 2 [⟨some ⟨b, off + md, none⟩, xs.length - md, c - md⟩, ⟨some ⟨b, off, none⟩, md, c⟩] := by
      rw [hwl]
      exact RdF.drew (RdF.lits sliF (w := wv) #[.slice (some ⟨b, off + md, none⟩) (xs.length - md) (c - md), .slice (some ⟨b, off, none⟩) md c] [⟨some ⟨b, off + md, none⟩, xs.length - md, c - md⟩, ⟨some ⟨b, off, none⟩, md, c⟩] (by unfold maxLen; simp) rfl (fun _ _ => trivial))
    have hbl : Below wv.heap.size wv wl := by rw [hwl]; exact belowD ((Below.refl wv.heap.size wv).alloc (Nat.le_refl _) (.cells #[.slice (some ⟨b, off + md, none⟩) (xs.length - md) (c - md), .slice (some ⟨b, off, none⟩) md c] 24))
    have hzl : wl.heap.size = wv.heap.size + 1 := by rw [hwl]; show (wv.alloc (.cells #[.slice (some ⟨b, off + md, none⟩) (xs.length - md) (c - md), .slice (some ⟨b, off, none⟩) md c] 24)).heap.size = _; simp
    have HSS := Lib.hid (show SeenS wl wl.heap.size [⟨some ⟨b, off + md, none⟩, xs.length - md, c - md⟩, ⟨some ⟨b, off, none⟩, md, c⟩] [xs.drop md, xs.take md] from by
      refine ⟨rfl, fun j s zs hs hz => ?_⟩
      rcases (show j = 0 ∨ j = 1 by have := (List.getElem?_eq_some_iff.1 hs).1; simp at this; omega) with rfl | rfl
      · simp only [List.getElem?_cons_zero, Option.some.injEq] at hs hz
        subst hs; subst hz
        exact ⟨by simp, by have := HX2.out; rw [List.length_drop]; omega, (hRa.below hbl (by omega)).more (by omega)⟩
      · simp only [List.getElem?_cons_succ, List.getElem?_cons_zero, Option.some.injEq] at hs hz
        subst hs; subst hz
        exact ⟨by show md = _; rw [List.length_take]; omega, by rw [List.length_take]; omega, (hRb.below hbl (by omega)).more (by omega)⟩)
    have htot : lenTo [xs.drop md, xs.take md] 2 ≤ 4096 := by
      unfold lenTo
      simp
      omega
    have hcatE := Lib.hid (show ([xs.drop md, xs.take md] : List (List Int)).flatten = xs.drop md ++ xs.take md by simp)
    have hcl := Lib.hid (show (xs.drop md ++ xs.take md).length = xs.length by rw [List.length_append, List.length_drop, List.length_take]; omega)
    have hlit' : RdF sliF ((wv.alloc (.cells #[.slice (some ⟨b, off + md, none⟩) (xs.length - md) (c - md), .slice (some ⟨b, off, none⟩) md c] 24)).drew) (wv.heap.size + 1) (some ⟨wv.heap.size, 0, none⟩) 2 2 [⟨some ⟨b, off + md, none⟩, xs.length - md, c - md⟩, ⟨some ⟨b, off, none⟩, md, c⟩] := by rw [← hwl]; exact hlit
    have HSS' : Hid (SeenS ((wv.alloc (.cells #[.slice (some ⟨b, off + md, none⟩) (xs.length - md) (c - md), .slice (some ⟨b, off, none⟩) md c] 24)).drew) ((wv.alloc (.cells #[.slice (some ⟨b, off + md, none⟩) (xs.length - md) (c - md), .slice (some ⟨b, off, none⟩) md c] 24)).drew).heap.size [⟨some ⟨b, off + md, none⟩, xs.length - md, c - md⟩, ⟨some ⟨b, off, none⟩, md, c⟩] [xs.drop md, xs.take md]) := by rw [← hwl]; exact HSS
    have hbl' : Below wv.heap.size wv ((wv.alloc (.cells #[.slice (some ⟨b, off + md, none⟩) (xs.length - md) (c - md), .slice (some ⟨b, off, none⟩) md c] 24)).drew) := by rw [← hwl]; exact hbl
    have hzl' : wv.heap.size + 1 ≤ ((wv.alloc (.cells #[.slice (some ⟨b, off + md, none⟩) (xs.length - md) (c - md), .slice (some ⟨b, off, none⟩) md c] 24)).drew).heap.size := by rw [← hwl, hzl]; exact Nat.le_refl _
    clear hlit HSS hbl hzl hwl hRa hRb wl
    have HTI := Lib.hid (show sideTo (picsF m k 2 fun i => if i = 0 then xs else xs.drop md ++ xs.take md) k = dropL m k xs from by
      have e := drop_tile (m := m) (h := hh) (xs := xs) m1 (by rw [hl.out, HK.out])
      rw [← HK.out, ← HMD.out] at e
      exact e)
    generalize xs.drop md ++ xs.take md = zs at *
    have hnx : w1.heap.size ≠ w.heap.size := by omega
    have hmin : min md c = md := Nat.min_eq_left (by omega)
    go_region_held3 (fun w' => w'.cell? ⟨w.heap.size, 2, none⟩ = some (.slice (some ⟨b, off, none⟩) xs.length c)) (first | exact ex2 | exact alk _ ex2 hxl | exact alk' _ ex2 hxl | exact far1 ex2 hnx | go_keep) (first | (go_at_call 61; (with_reducible refine (concat_any _ 2 2 _ _ _ _ hlit' hzl' HSS'.out (by omega) htot).mono ?_); rintro e w5 ⟨A5, c5, rfl, own5, hb5⟩; rw [hcatE.out] at own5 ⊢; have hb6 := hbl'.trans (hb5.mono (by omega)); have own6 := own5.toI.mono (show w.heap.size ≤ _ from Nat.le_trans hzv (Nat.le_trans (Nat.le_succ _) hzl')); have x5 := x2.all hb6; have y5 := y0.all hb6; have r5 := r2.all hb6; have R5 := R2.all hb6 (by omega); have HB5 := Lib.hid (HB2.out.trans (hb6.mono hzv)); have hz5 : wv.heap.size ≤ w5.heap.size := hb6.size; replace ex2 := cells_of hb6 ex2 hxl; have yf := y5.frozen 2; have yc := y5.cell 2; have hyl := y5.lt; have hne5 := row_ne' own6.1 y5 (by decide); clear hb5 hb6 own5))
    have hwz5 : w.heap.size + 1 < w5.heap.size := by omega
    have own7 := own6.far (a := ⟨w1.heap.size, 2, none⟩) hne5 (.slice A5 zs.length c5)
    have x7 := x5.far (a := ⟨w1.heap.size, 2, none⟩) (by simp; omega) (.slice A5 zs.length c5)
    have r7 := r5.far (a := ⟨w1.heap.size, 2, none⟩) (by simp; omega) (.slice A5 zs.length c5)
    have y7 := y5.set_ 2 (.slice A5 zs.length c5)
    have R7 := R5.keep (w' := w5.setCell ⟨w1.heap.size, 2, none⟩ (.slice A5 zs.length c5)) (fun bb oo hbb => by rw [World.cell?_setCell_far _ _ _ _ (by simp; omega)])
    have HB7 := Lib.hid (HB5.out.setCell (p := ⟨w1.heap.size, 2, none⟩) (by simp; omega) (.slice A5 zs.length c5))
    obtain ⟨w7, hw7⟩ : ∃ w7, w7 = w5.setCell ⟨w1.heap.size, 2, none⟩ (.slice A5 zs.length c5) := ⟨_, rfl⟩
    rw [← hw7] at own7 x7 r7 y7 R7 HB7 ⊢
    have y8 : Blk w7 w1.heap.size 26 #[.int .i64 (m : Int), .int .i64 (k : Int), .slice A5 zs.length c5] := by simpa using y7
    have ax0 := x7.cell 0
    have ax1 := x7.cell 1
    have ax2 := x7.cell 2
    have ay0 := y8.cell 0
    have ay1 := y8.cell 1
    have ay2 := y8.cell 2
    have hz7 : w.heap.size + 1 < w7.heap.size := by rw [hw7]; simpa [World.setCell] using hwz5
    clear y7 y5 x5 r5 own6 R5 HB5 yf yc hw7
    have hps := picsF_ok (F := fun i => if i = 0 then xs else zs) m1 m8 k1 k8 (a := 2) (fun i _ => by
      show (if i = 0 then xs else zs).length = m * k
      split
      · exact hl.out
      · rw [hcl.out]; exact hl.out)
    have hwd : widP (picsF m k 2 fun i => if i = 0 then xs else zs) (picsF m k 2 fun i => if i = 0 then xs else zs).length = 2 * m := by rw [picsF_len, widP_pics (Nat.le_refl _)]
    have hlit2 : RdF chartsF (w7.alloc (.cells #[.int .i64 (m : Int), .int .i64 (k : Int), .slice (some ⟨b, off, none⟩) xs.length c, .int .i64 (m : Int), .int .i64 (k : Int), .slice A5 zs.length c5] 26)) (w7.heap.size + 1) (some ⟨w7.heap.size, 0, none⟩) 2 2 [⟨(m : Int), (k : Int), some ⟨b, off, none⟩, xs.length, c⟩, ⟨(m : Int), (k : Int), A5, zs.length, c5⟩] := RdF.lits chartsF (w := w7) #[.int .i64 (m : Int), .int .i64 (k : Int), .slice (some ⟨b, off, none⟩) xs.length c, .int .i64 (m : Int), .int .i64 (k : Int), .slice A5 zs.length c5] [⟨(m : Int), (k : Int), some ⟨b, off, none⟩, xs.length, c⟩, ⟨(m : Int), (k : Int), A5, zs.length, c5⟩] (by unfold maxLen; simp) rfl (fun _ _ => trivial)
    have own8 := own7.alloc (.cells #[.int .i64 (m : Int), .int .i64 (k : Int), .slice (some ⟨b, off, none⟩) xs.length c, .int .i64 (m : Int), .int .i64 (k : Int), .slice A5 zs.length c5] 26)
    have R8 := R7.alloc (by omega) (.cells #[.int .i64 (m : Int), .int .i64 (k : Int), .slice (some ⟨b, off, none⟩) xs.length c, .int .i64 (m : Int), .int .i64 (k : Int), .slice A5 zs.length c5] 26)
    have r8 := r7.alloc (.cells #[.int .i64 (m : Int), .int .i64 (k : Int), .slice (some ⟨b, off, none⟩) xs.length c, .int .i64 (m : Int), .int .i64 (k : Int), .slice A5 zs.length c5] 26)
    have HB8 := Lib.hid (HB7.out.alloc (by omega) (.cells #[.int .i64 (m : Int), .int .i64 (k : Int), .slice (some ⟨b, off, none⟩) xs.length c, .int .i64 (m : Int), .int .i64 (k : Int), .slice A5 zs.length c5] 26))
    have hz8 : w.heap.size ≤ (w7.alloc (.cells #[.int .i64 (m : Int), .int .i64 (k : Int), .slice (some ⟨b, off, none⟩) xs.length c, .int .i64 (m : Int), .int .i64 (k : Int), .slice A5 zs.length c5] 26)).heap.size := HB8.out.size
    have HSR := Lib.hid (show SeenR (w7.alloc (.cells #[.int .i64 (m : Int), .int .i64 (k : Int), .slice (some ⟨b, off, none⟩) xs.length c, .int .i64 (m : Int), .int .i64 (k : Int), .slice A5 zs.length c5] 26)) (w7.alloc (.cells #[.int .i64 (m : Int), .int .i64 (k : Int), .slice (some ⟨b, off, none⟩) xs.length c, .int .i64 (m : Int), .int .i64 (k : Int), .slice A5 zs.length c5] 26)).heap.size [⟨(m : Int), (k : Int), some ⟨b, off, none⟩, xs.length, c⟩, ⟨(m : Int), (k : Int), A5, zs.length, c5⟩] (picsF m k 2 fun i => if i = 0 then xs else zs) from by
      refine ⟨by rw [picsF_len]; rfl, fun j x q hx hq => ?_⟩
      rcases (show j = 0 ∨ j = 1 by have := (List.getElem?_eq_some_iff.1 hx).1; simp at this; omega) with rfl | rfl
      · rw [picsF_at (by omega)] at hq
        simp only [List.getElem?_cons_zero, Option.some.injEq] at hx hq
        subst hx; subst hq
        exact ⟨rfl, rfl, rfl, R8.more (by omega)⟩
      · rw [picsF_at (by omega)] at hq
        simp only [List.getElem?_cons_succ, List.getElem?_cons_zero, Option.some.injEq] at hx hq
        subst hx; subst hq
        exact ⟨rfl, rfl, rfl, own8.rd⟩)
    obtain ⟨ps, hpe⟩ : ∃ ps, ps = picsF m k 2 fun i => if i = 0 then xs else zs := ⟨_, rfl⟩
    rw [← hpe] at hps hwd HSR HTI
    clear hpe own7 R7 r7 HB7 x7 y8
    go_wp2_with fail
    refine (sideBySide_any [⟨(m : Int), (k : Int), some ⟨b, off, none⟩, xs.length, c⟩, ⟨(m : Int), (k : Int), A5, zs.length, c5⟩] ps _ 2 2 _ k _ hlit2 (by simp) HSR.out (by omega) (by omega) k1 k8 hps).mono ?_
    rintro e w9 ⟨A9, c9, rfl, own9, hb9⟩
    have r9 := r8.all hb9
    have HB9 := Lib.hid (HB8.out.trans (hb9.mono hz8))
    have hz9 : w.heap.size ≤ w9.heap.size := HB9.out.size
    replace own9 := own9.mono hz8
    rw [hwd]
    clear own8 R8 r8 HB8 hb9 hps HSR hwd hlit2 ax0 ax1 ax2 ay0 ay1 ay2
    generalize sideTo ps k = vs at *
    have HG := Lib.hid (show goodB ((2 * m : Nat) : Int) (k : Int) vs = ok by
      have hk8 : isSideB (k : Int) = true := by unfold isSideB; rw [decide_eq_true_eq]; omega
      have e1 : dropL m k xs = gridL k (2 * m) fun i j => if j < m then elt m xs i j else elt m xs ((i + k / 2) % k) (j - m) := rfl
      rw [← HALL.out, HTI.out, e1, good_grid (fun i j => by split <;> exact elt_color hcol), hk8, Bool.and_true, Int.natCast_mul]
      rfl)
    have HY := Lib.hid (show (if ok = true then vs else []) = ys by rw [← HX.out, HALL.out, HTI.out])
    go_wp2_with fail
    refine (checkedChart_any _ _ _ _ _ w.heap.size vs w9 own9 rfl ok HG.out ys HY.out).mono ?_
    rintro e w10 ⟨A10, c10, rfl, own10, hb10⟩
    have r10 := r9.all hb10
    have HB10 := Lib.hid (HB9.out.trans (hb10.mono hz9))
    have g0 := r10.cell 0
    have g1 := r10.cell 1
    have g2 := r10.cell 2
    have z0 := r10.frozen 0
    have z1 := r10.frozen 1
    have z2 := r10.frozen 2
    have hz11 := r10.lt
    clear hb10 own9 r9 HB9
    have F := fin3 (p := w.heap.size + 1) (a := .int .i64 (orZero ok ((2 * m : Nat) : Int))) (b := .int .i64 (orZero ok (k : Int))) (c := .slice A10 ys.length c10) own10 (row_ne' own10.1 r10 (by decide)) HB10.out (by omega)
    go_wp2
    exact bodyPost_ret (v := .tuple #[chartV (orZero ok ((2 * m : Nat) : Int)) (orZero ok (k : Int)) (.slice A10 ys.length c10), .bool ok]) (by simp [results, Try.results18, go_sem, g0, g1, g2]) rfl ⟨A10, c10, by rw [Int.natCast_mul]; rfl, F.1, F.2⟩
  · have hno : drpAll W H xs = false := by unfold drpAll; rw [not_false h]; rfl
    have hX : drpX W H xs = [] := by unfold drpX; rw [hno]; rfl
    rw [hX, hno]
    rcases drp_no h with hg | ⟨hg, hev⟩
    · clear x0 h
      go_enter Try.func18, Try.ntmps18
      go_wp2_with fail
      refine (implIsChart_any W H A n c B xs _ h'.out (by simp; omega)).mono ?_
      rintro e w1 ⟨rfl, hb⟩
      have r1 := (r0.all hb).at_ (q := w.heap.size + 1) (by simp)
      have HB := Lib.hid (hb0.out.trans (hb.mono (by simp; omega)))
      have g0 := r1.cell 0
      have g1 := r1.cell 1
      have g2 := r1.cell 2
      have z0 := r1.frozen 0
      have z1 := r1.frozen 1
      have z2 := r1.frozen 2
      clear hb r0
      rw [hg]
      go_wp2_with fail
      have F := fin3 (p := w.heap.size + 1) (a := .int .i64 0) (b := .int .i64 0) (c := .slice none 0 0) (Own.nil w1 w.heap.size) (by simp [Value.ownBlock]) HB.out (by omega)
      exact bodyPost_ret (v := .tuple #[chartV 0 0 (.slice none 0 0), .bool false]) (by simp [results, Try.results18, go_sem, g0, g1, g2]) rfl ⟨none, 0, rfl, F.1, F.2⟩
    · obtain ⟨m, k, rfl, rfl, m1, m8, k1, k8, hl, h64, hl1, hcol⟩ := good_nat hg
      have hk2 : k % 2 = 1 := by
        have : ¬ k % 2 = 0 := by simpa [evenB] using hev
        omega
      have hrem : Int.tmod (k : Int) 2 = 1 := by rw [rem2m, hk2]; rfl
      clear hev h hk2
      go_enter Try.func18, Try.ntmps18
      go_wp2_with fail
      refine (implIsChart_any m k A n c B xs _ h'.out (by simp; omega)).mono ?_
      rintro e w1 ⟨rfl, hb⟩
      have r1 := (r0.all hb).at_ (q := w.heap.size + 1) (by simp)
      have x1 := x0.all hb
      have HB := Lib.hid (hb0.out.trans (hb.mono (by simp; omega)))
      have hsz := r1.lt
      have e1 := x1.cell 1
      have g0 := r1.cell 0
      have g1 := r1.cell 1
      have g2 := r1.cell 2
      have z0 := r1.frozen 0
      have z1 := r1.frozen 1
      have z2 := r1.frozen 2
      clear hb r0 x0
      rw [hg]
      go_wp2_with fail
      have F := fin3 (p := w.heap.size + 1) (a := .int .i64 0) (b := .int .i64 0) (c := .slice none 0 0) (Own.nil w1 w.heap.size) (by simp [Value.ownBlock]) HB.out (by omega)
      exact bodyPost_ret (v := .tuple #[chartV 0 0 (.slice none 0 0), .bool false]) (by simp [results, Try.results18, go_sem, g0, g1, g2]) rfl ⟨none, 0, rfl, F.1, F.2⟩
end Go.Proofs.Ytimindgefceibaa
