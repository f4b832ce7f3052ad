/- The walks of DyeYarn in both texts, and of what copies a bath. No condition. -/
import Derived.Test.YtjlidgeeehlkcaaReady
import Derived.Test.YtjlidgeeehlkcaaCopy
import Derived.Test.YtjlidgeeehlkcaaStep
namespace Go.Proofs.Ytjlidgeeehlkcaa
open Go.RowKit

/-- The first of one list, the rest of another one. -/
def mixL (a b : List Int) (k : Nat) : List Int := a.take k ++ b.drop k
theorem mixL_zero (a b : List Int) : mixL a b 0 = b := by simp [mixL]
theorem mixL_end {a b : List Int} (h : a.length = b.length) : mixL a b b.length = a := by simp [mixL, ← h]
theorem mixL_len {a b : List Int} {k : Nat} (h : a.length = b.length) (hk : k ≤ b.length) : (mixL a b k).length = b.length := by simp [mixL]; omega
theorem mixL_at {a b : List Int} {k : Nat} (h : a.length = b.length) (hk : k < b.length) : (mixL a b k).getD k 0 = b.getD k 0 := by
  simp [mixL, List.getD_eq_getElem?_getD, List.getElem?_append, List.length_take, h, Nat.min_eq_left (Nat.le_of_lt hk)]
theorem mixL_set {a b : List Int} {k : Nat} {x : Int} (h : a.length = b.length) (hk : k < b.length) (hx : a[k]? = some x) : (mixL a b k).set k x = mixL a b (k + 1) := by
  have ha : k < a.length := by omega
  obtain ⟨_, e⟩ := List.getElem?_eq_some_iff.1 hx
  unfold mixL
  rw [List.set_append, if_neg (by rw [List.length_take]; omega), List.length_take, Nat.min_eq_left (by omega), Nat.sub_self, List.drop_eq_getElem_cons hk, List.set_cons_zero, List.take_succ_eq_append_getElem ha, e, List.append_assoc]
  rfl

/-- The library's copy of a row of numbers. -/
theorem cloneInts_any (b off n c B : Nat) (xs : List Int) (w : World) (h : Rd w B (some ⟨b, off, none⟩) n c xs) (hB : B ≤ w.heap.size) (hn : n ≤ 1048576) :
    Calls Try.prog 42 #[.slice (some ⟨b, off, none⟩) n c] w (OwnCopy w xs) := by
  obtain ⟨i0, hi, hz0, hz1, hz2⟩ := info_parts info_int
  obtain rfl := h.len
  have h' := h.alloc hB (.cells #[] 3)
  have ho : Own (w.alloc (.cells #[] 3)) w.heap.size (.slice (some ⟨w.heap.size, 0, none⟩) 0 0) [] := Own.empty (Nat.le_refl _)
  have hb0 := Lib.hid ((Below.refl w.heap.size w).alloc (Nat.le_refl _) (.cells #[] 3))
  have hcells : ∀ j u, (xs.map (Value.int .i64))[j]? = some u → (w.alloc (.cells #[] 3)).cell? ((⟨b, off, none⟩ : Addr).add j) = some u := by
    intro j u hu
    have hj : j < xs.length := by have := (List.getElem?_eq_some_iff.1 hu).1; simpa using this
    obtain ⟨_, _, e, _, hc⟩ := h'.cells (by omega)
    cases e
    have e : (⟨b, off, none⟩ : Addr).add j = ⟨b, off + j, none⟩ := by unfold Addr.add; split <;> simp_all
    rw [e, hc j hj, getD_at hj]
    rw [List.getElem?_map, List.getElem?_eq_getElem hj] at hu
    exact hu
  have HC := Lib.hid hcells
  have HF := h.fits
  clear hcells h h'
  go_enter Try.func42, Try.ntmps42
  go_wp2_with fail
  rw [show Sem.run Try.prog (binOp BinOp.eql 25 (Value.slice (some ⟨b, off, none⟩) xs.length c) (Value.slice none 0 0)) w = .ok (.bool false) w from rfl]
  go_wp2_with (at_builtin; refine wpList_append_own _ rfl (.tmp 5) (.tmp 6) 25 rfl w.heap.size 3 i0 (.int .i64 0) 1 8 Try.underlying25 hi hz0 hz1 hz2 rfl (by decide) _ 0 _ rfl ho.1 ⟨b, off, none⟩ xs.length c (xs.map (Value.int .i64)) rfl (by simp) HC.out (ints_oneCell _ _) (by unfold maxLen; omega) (by omega) (by simp) ?_)
  intro v' w1 hown hg _
  have HO : Own w1 w.heap.size v' xs := ⟨by simpa using hown, HF⟩
  have HB := Lib.hid (hb0.out.grown hg (by simp) (fun k hk => by simp [Value.ownBlock] at hk; omega))
  obtain ⟨A', c', rfl, _, _⟩ := HO.form
  go_wp2
  go_ret
  exact ⟨A', c', rfl, HO, HB.out⟩
/-- What a copy of a bath leaves whose room is not told. -/
def OwnBath (w : World) (L T Y : Int) (xs : List Int) (e : Ending) (w' : World) : Prop :=
  ∃ g c, e = .returned (bathV L T Y (.slice (some ⟨g, 0, none⟩) xs.length c)) ∧ Own w' w.heap.size (.slice (some ⟨g, 0, none⟩) xs.length c) xs ∧ Below w.heap.size w w'
set_option maxRecDepth 100000 in
set_option maxHeartbeats 1000000 in
theorem copyBath_any (L T Y : Int) (b off n' c' B' : Nat) (ys : List Int) (w : World) (h' : Rd w B' (some ⟨b, off, none⟩) n' c' ys) (hB' : B' ≤ w.heap.size) (hn0 : 0 < n') (hn : n' ≤ 1048576) :
    Calls Try.prog 22 #[bathV L T Y (.slice (some ⟨b, off, none⟩) n' c')] w (OwnBath w L T Y ys) := by
  have HB : Below w.heap.size w ((w.alloc (.cells #[.int .i64 L, .int .i64 T, .int .i64 Y, .slice (some ⟨b, off, none⟩) n' c'] 27)).alloc (.cells #[.int .i64 0, .int .i64 0, .int .i64 0, .slice none 0 0] 27)) := ((Below.refl _ _).alloc (Nat.le_refl _) _).alloc (by simp) _
  have x3 := (Blk.new w #[.int .i64 L, .int .i64 T, .int .i64 Y, .slice (some ⟨b, off, none⟩) n' c'] 27).alloc (.cells #[.int .i64 0, .int .i64 0, .int .i64 0, .slice none 0 0] 27)
  have r4 := (Blk.new (w.alloc (.cells #[.int .i64 L, .int .i64 T, .int .i64 Y, .slice (some ⟨b, off, none⟩) n' c'] 27)) #[.int .i64 0, .int .i64 0, .int .i64 0, .slice none 0 0] 27).at_ (q := w.heap.size + 1) (by simp)
  have hR2 := (h'.alloc hB' (.cells #[.int .i64 L, .int .i64 T, .int .i64 Y, .slice (some ⟨b, off, none⟩) n' c'] 27)).alloc (by simp; omega) (.cells #[.int .i64 0, .int .i64 0, .int .i64 0, .slice none 0 0] 27)
  have hsz := HB.size
  have hz4 := r4.lt
  have ex0 := x3.cell 0
  have ex1 := x3.cell 1
  have ex2 := x3.cell 2
  have ex3 := x3.cell 3
  go_enter Try.func22, Try.ntmps22
  go_wp2_with fail
  generalize (w.alloc (.cells #[.int .i64 L, .int .i64 T, .int .i64 Y, .slice (some ⟨b, off, none⟩) n' c'] 27)).alloc (.cells #[.int .i64 0, .int .i64 0, .int .i64 0, .slice none 0 0] 27) = W1 at *
  refine (cloneInts_any b off n' c' B' ys _ hR2 (by omega) hn).mono ?_
  rintro e w2 ⟨A2, c2, rfl, own, hb⟩
  clear ex0 ex1 ex2 ex3
  have hl := Lib.hid h'.len
  obtain ⟨g, rfl, hg1, hg2⟩ := own.some_ (by have := hl.out; omega)
  replace x3 := x3.all hb
  replace r4 := r4.all hb
  replace HB := HB.trans (hb.mono hsz)
  clear hb
  have ex0 := x3.cell 0
  have fx0 := x3.frozen 0
  have ex1 := x3.cell 1
  have fx1 := x3.frozen 1
  have ex2 := x3.cell 2
  have fx2 := x3.frozen 2
  have ex3 := x3.cell 3
  have fx3 := x3.frozen 3
  have er0 := r4.cell 0
  have fr0 := r4.frozen 0
  have er1 := r4.cell 1
  have fr1 := r4.frozen 1
  have er2 := r4.cell 2
  have fr2 := r4.frozen 2
  have er3 := r4.cell 3
  have fr3 := r4.frozen 3
  go_wp2
  have o1 := own.setLow (p := ⟨w.heap.size, 3, none⟩) (by show w.heap.size < _; omega) (.slice (some ⟨g, 0, none⟩) ys.length c2)
  have F4 := fin4 (p := w.heap.size + 1) (a := .int .i64 L) (b := .int .i64 T) (c := .int .i64 Y) (d := .slice (some ⟨g, 0, none⟩) ys.length c2) (o1.mono (lo' := w.heap.size) (by omega)) (by simp [Value.ownBlock]; omega) (HB.setCell (p := ⟨w.heap.size, 3, none⟩) (Nat.le_refl _) (.slice (some ⟨g, 0, none⟩) ys.length c2)) (by omega)
  have R5 := (r4.far (a := ⟨w.heap.size, 3, none⟩) (by show w.heap.size + 1 ≠ w.heap.size; omega) (.slice (some ⟨g, 0, none⟩) ys.length c2)).put4t (a' := .int .i64 L) (b' := .int .i64 T) (c' := .int .i64 Y) (d' := .slice (some ⟨g, 0, none⟩) ys.length c2)
  have q0 := R5.cell 0
  have q1 := R5.cell 1
  have q2 := R5.cell 2
  have q3 := R5.cell 3
  clear HB x3 hR2 own o1
  clear ex0 ex1 ex2 ex3 fx0 fx1 fx2 fx3 er0 er1 er2 er3 fr0 fr1 fr2 fr3
  refine bodyPost_ret (v := bathV L T Y (.slice (some ⟨g, 0, none⟩) ys.length c2)) (by simp [results, Try.results22, go_sem, q0, q1, q2, q3]) rfl ⟨g, c2, rfl, F4.1, F4.2⟩
/-- What DyeYarn tells. -/
noncomputable def dyeN (xs : List DyePartR) (L T Y : Int) (ys : List Int) (v : Int) : Int := if dyeB xs L T Y ys = true then v else 0
noncomputable def dyeL (xs : List DyePartR) (L T Y : Int) (ys : List Int) : List Int := if dyeB xs L T Y ys = true then leftL xs Y ys else []
theorem dye_no {xs : List DyePartR} {L T Y : Int} {ys : List Int} (h : dyeB xs L T Y ys = false) : (∀ v, dyeN xs L T Y ys v = 0) ∧ dyeL xs L T Y ys = [] := by
  unfold dyeN dyeL; rw [h]; exact ⟨fun _ => rfl, rfl⟩
theorem dye_yes {xs : List DyePartR} {L T Y : Int} {ys : List Int} (h : dyeB xs L T Y ys = true) : (∀ v, dyeN xs L T Y ys v = v) ∧ dyeL xs L T Y ys = leftL xs Y ys := by
  unfold dyeN dyeL; rw [h]; exact ⟨fun _ => rfl, rfl⟩
theorem dye_len (xs : List DyePartR) (L T Y : Int) (ys : List Int) : (dyeL xs L T Y ys).length ≤ 1048576 := by
  cases h : dyeB xs L T Y ys
  · rw [(dye_no h).2]; simp
  · rw [(dye_yes h).2]
    simp only [dyeB, Bool.and_eq_true] at h
    obtain ⟨h1, h2, _⟩ := bath_of h.1
    have := rec_len h1
    rw [leftL_len h2]
    omega
theorem left_fit {xs : List DyePartR} {L T Y : Int} {ys : List Int} (h : bathB xs L T Y ys = true) {k : Nat} {p : DyePartR} {s : Int} (hp : xs[k]? = some p) (hs : ys[k]? = some s) : -50000 ≤ s - needI p Y ∧ s - needI p Y ≤ 50000 := by
  obtain ⟨h1, h2, h3, h4, h5, h6, h7⟩ := bath_of h
  obtain ⟨_, a, b⟩ := part_at h1 hp
  have := needI_bd a b h6 h7
  have := grams_at h3 hs
  omega
set_option maxRecDepth 100000 in
set_option maxHeartbeats 4000000 in
theorem implDyeYarn_any (A : Option Addr) (n c B : Nat) (xs : List DyePartR) (L T Y : Int) (A' : Option Addr) (n' c' B' : Nat) (ys : List Int) (w : World) (h : RdF dyePartF w B A n c xs) (hB : B ≤ w.heap.size) (h' : Rd w B' A' n' c' ys) (hB' : B' ≤ w.heap.size) :
    Calls Try.prog 6 #[.slice A n c, bathV L T Y (.slice A' n' c')] w (OutBath w (dyeN xs L T Y ys L) (dyeN xs L T Y ys T) 0 (dyeL xs L T Y ys) (dyeB xs L T Y ys)) := by
  have HB : Below w.heap.size w ((w.alloc (.cells #[.int .i64 L, .int .i64 T, .int .i64 Y, .slice A' n' c'] 27)).alloc (.cells #[.int .i64 0, .int .i64 0, .int .i64 0, .slice none 0 0] 27)) := ((Below.refl _ _).alloc (Nat.le_refl _) _).alloc (by simp) _
  have x3 := (Blk.new w #[.int .i64 L, .int .i64 T, .int .i64 Y, .slice A' n' c'] 27).alloc (.cells #[.int .i64 0, .int .i64 0, .int .i64 0, .slice none 0 0] 27)
  have r4 := (Blk.new (w.alloc (.cells #[.int .i64 L, .int .i64 T, .int .i64 Y, .slice A' n' c'] 27)) #[.int .i64 0, .int .i64 0, .int .i64 0, .slice none 0 0] 27).at_ (q := w.heap.size + 1) (by simp)
  have hR1 := (h.alloc hB (.cells #[.int .i64 L, .int .i64 T, .int .i64 Y, .slice A' n' c'] 27)).alloc (by simp; omega) (.cells #[.int .i64 0, .int .i64 0, .int .i64 0, .slice none 0 0] 27)
  have hR2 := (h'.alloc hB' (.cells #[.int .i64 L, .int .i64 T, .int .i64 Y, .slice A' n' c'] 27)).alloc (by simp; omega) (.cells #[.int .i64 0, .int .i64 0, .int .i64 0, .slice none 0 0] 27)
  have hsz := HB.size
  have hz3 := x3.lt
  have hz4 := r4.lt
  have ex0 := x3.cell 0
  have ex1 := x3.cell 1
  have ex2 := x3.cell 2
  have ex3 := x3.cell 3
  go_enter Try.func6, Try.ntmps6
  go_wp2_with fail
  generalize (w.alloc (.cells #[.int .i64 L, .int .i64 T, .int .i64 Y, .slice A' n' c'] 27)).alloc (.cells #[.int .i64 0, .int .i64 0, .int .i64 0, .slice none 0 0] 27) = W1 at *
  refine (implIsBath_any A n c B xs L T Y A' n' c' B' ys _ hR1 (by omega) hR2 (by omega)).mono ?_
  rintro e w2 ⟨rfl, hb⟩
  clear ex0 ex1 ex2 ex3
  replace x3 := x3.all hb
  replace r4 := r4.all hb
  replace hR1 := hR1.all hb (by omega)
  replace hR2 := hR2.all hb (by omega)
  replace HB := HB.trans (hb.mono hsz)
  replace hsz := HB.size
  replace hz3 := x3.lt
  replace hz4 := r4.lt
  clear hb
  have ex0 := x3.cell 0
  have ex1 := x3.cell 1
  have ex2 := x3.cell 2
  have ex3 := x3.cell 3
  cases hg : bathB xs L T Y ys
  case false =>
    have hd : dyeB xs L T Y ys = false := by unfold dyeB; rw [hg]; rfl
    have HD := Lib.hid (dye_no hd)
    have HDB := Lib.hid hd
    clear hd hg
    have er0 := r4.cell 0
    have fr0 := r4.frozen 0
    have er1 := r4.cell 1
    have fr1 := r4.frozen 1
    have er2 := r4.cell 2
    have fr2 := r4.frozen 2
    have er3 := r4.cell 3
    have fr3 := r4.frozen 3
    go_wp2
    have F4 := fin4 (p := w.heap.size + 1) (a := .int .i64 0) (b := .int .i64 0) (c := .int .i64 0) (d := .slice none 0 0) (Own.nil w2 w.heap.size) (by simp [Value.ownBlock]) HB (by omega)
    refine bodyPost_ret (v := .tuple #[bathV 0 0 0 (.slice none 0 0), .bool false]) (by simp [results, Try.results6, go_sem, *]) rfl ?_
    unfold OutBath
    rw [HD.out.1, HD.out.1, HD.out.2, HDB.out]
    exact ⟨none, 0, rfl, F4.1, F4.2⟩
  have HG := Lib.hid hg
  obtain ⟨_, _, _, _, _, hY0, hY1⟩ := bath_of hg
  clear hg
  go_wp2_with fail
  refine (isReadyBath_any A n c B xs L T Y A' n' c' B' ys _ hR1 (by omega) hR2 (by omega) HG.out).mono ?_
  rintro e w3 ⟨rfl, hb⟩
  clear ex0 ex1 ex2 ex3
  replace x3 := x3.all hb
  replace r4 := r4.all hb
  replace hR1 := hR1.all hb (by omega)
  replace hR2 := hR2.all hb (by omega)
  replace HB := HB.trans (hb.mono hsz)
  replace hsz := HB.size
  replace hz3 := x3.lt
  replace hz4 := r4.lt
  clear hb
  have ex0 := x3.cell 0
  have ex1 := x3.cell 1
  have ex2 := x3.cell 2
  have ex3 := x3.cell 3
  cases hr : readyB xs L T ys Y
  case false =>
    have hd : dyeB xs L T Y ys = false := by unfold dyeB; rw [hr, Bool.and_false]
    have HD := Lib.hid (dye_no hd)
    have HDB := Lib.hid hd
    clear hd hr
    have er0 := r4.cell 0
    have fr0 := r4.frozen 0
    have er1 := r4.cell 1
    have fr1 := r4.frozen 1
    have er2 := r4.cell 2
    have fr2 := r4.frozen 2
    have er3 := r4.cell 3
    have fr3 := r4.frozen 3
    go_wp2
    have F4 := fin4 (p := w.heap.size + 1) (a := .int .i64 0) (b := .int .i64 0) (c := .int .i64 0) (d := .slice none 0 0) (Own.nil w3 w.heap.size) (by simp [Value.ownBlock]) HB (by omega)
    refine bodyPost_ret (v := .tuple #[bathV 0 0 0 (.slice none 0 0), .bool false]) (by simp [results, Try.results6, go_sem, *]) rfl ?_
    unfold OutBath
    rw [HD.out.1, HD.out.1, HD.out.2, HDB.out]
    exact ⟨none, 0, rfl, F4.1, F4.2⟩
  have hd : dyeB xs L T Y ys = true := by unfold dyeB; rw [hr, HG.out]; rfl
  have HD := Lib.hid (dye_yes hd)
  have HDB := Lib.hid hd
  clear hd hr
  have HLen := Lib.hid h'.len
  obtain rfl := h.len
  obtain ⟨hr, hle, hgr, ⟨hL0, hL1⟩, ⟨hT0, hT1⟩, _, _⟩ := bath_of HG.out
  have hn6 := rec_len hr
  obtain rfl : n' = xs.length := by rw [← HLen.out, hle]
  have HR := Lib.hid hr
  have HLL := Lib.hid (show (leftL xs Y ys).length = ys.length from leftL_len hle)
  clear hle hr hgr
  obtain ⟨b, off, rfl, _, _⟩ := h'.cells (by omega)
  go_wp2_with fail
  refine (copyBath_any L T Y b off xs.length c' B' ys _ hR2 (by omega) (by omega) (by omega)).mono ?_
  rintro e w4 ⟨g, cg, rfl, own, hb⟩
  clear ex0 ex1 ex2 ex3
  have hlo := hsz
  replace x3 := x3.all hb
  replace r4 := r4.all hb
  replace hR1 := hR1.all hb (by omega)
  replace hR2 := hR2.all hb (by omega)
  replace HB := HB.trans (hb.mono hsz)
  replace hsz := HB.size
  replace hz3 := x3.lt
  replace hz4 := r4.lt
  clear hb
  replace own := own.mono hlo
  rw [HLen.out] at own ⊢
  have hg4 : w4.heap.size > g := (own.bd g rfl).2
  have hgx : g ≠ w.heap.size + 1 := by
    intro e
    subst e
    exact row_ne own.1 r4 (by decide) _ rfl rfl
  have hGL := (own.bd g rfl).1
  have x6 := Blk.new w4 #[.int .i64 L, .int .i64 T, .int .i64 0, .slice (some ⟨g, 0, none⟩) xs.length cg] 27
  have x3a := x3.alloc (.cells #[.int .i64 L, .int .i64 T, .int .i64 0, .slice (some ⟨g, 0, none⟩) xs.length cg] 27)
  have r4a := r4.alloc (.cells #[.int .i64 L, .int .i64 T, .int .i64 0, .slice (some ⟨g, 0, none⟩) xs.length cg] 27)
  have hR1a := hR1.alloc (by omega) (.cells #[.int .i64 L, .int .i64 T, .int .i64 0, .slice (some ⟨g, 0, none⟩) xs.length cg] 27)
  have owna := own.alloc (.cells #[.int .i64 L, .int .i64 T, .int .i64 0, .slice (some ⟨g, 0, none⟩) xs.length cg] 27)
  have HBa := HB.alloc hsz (.cells #[.int .i64 L, .int .i64 T, .int .i64 0, .slice (some ⟨g, 0, none⟩) xs.length cg] 27)
  have ex0 := x3.cell 0
  have ex1 := x3.cell 1
  have ex2 := x3.cell 2
  have ex3 := x3.cell 3
  go_wp2_with fail
  clear ex0 ex1 ex2 ex3
  clear hR1 hR2 x3 r4 own HB
  have hsz := HBa.size
  have hz3 := x3a.lt
  have hz4 := r4a.lt
  have hz6 := x6.lt
  have hg5 := (owna.bd g rfl).2
  have hg46 : g < w4.heap.size := hg4
  generalize w4.alloc (.cells #[.int .i64 L, .int .i64 T, .int .i64 0, .slice (some ⟨g, 0, none⟩) xs.length cg] 27) = W5 at *
  obtain ⟨P6, hP6⟩ : ∃ P6, w4.heap.size = P6 := ⟨_, rfl⟩
  rw [hP6] at x6 hz6 hg46 ⊢
  have hP0 : w.heap.size + 1 < P6 := by omega
  clear hP6 hg4
  refine (needsOf_any A _ c B xs Y _ hR1a (by omega) HR.out hY0 hY1).mono ?_
  rintro e w6 ⟨g2, rfl, own2, hb⟩
  have hg2 := (own2.bd g2 rfl).1
  have r4 := r4a.all hb
  have x6 := x6.all hb
  have own := owna.all hb
  have HB := HBa.trans (hb.mono hsz)
  clear hb r4a owna HBa x3a hR1a hsz hz3 hz4
  rw [needs_len] at own2 ⊢
  have hng : g2 ≠ g := by omega
  have hn6g : P6 ≠ g := by omega
  go_wp2
  go_loopw [28] (fun i wr => ∃ k : Nat, k ≤ xs.length ∧ i = .int .i64 k ∧ Own wr w.heap.size (.slice (some ⟨g, 0, none⟩) xs.length cg) (mixL (leftL xs Y ys) ys k) ∧ Own wr W5.heap.size (.slice (some ⟨g2, 0, none⟩) xs.length xs.length) (needs xs Y) ∧ Blk wr P6 27 #[.int .i64 L, .int .i64 T, .int .i64 0, .slice (some ⟨g, 0, none⟩) xs.length cg] ∧ Blk wr (w.heap.size + 1) 27 #[.int .i64 0, .int .i64 0, .int .i64 0, .slice none 0 0] ∧ Below w.heap.size w wr) (fun i _ => xs.length - (intOf i).toNat)
  case atStart => exact ⟨0, Nat.zero_le _, rfl, by rw [mixL_zero]; exact own, own2, x6, r4, HB⟩
  case round =>
    clear own own2 x6 r4 HB
    obtain ⟨k, hk, rfl, own, own2, x6, r4, HB⟩ := hrel
    have hsz := HB.size
    by_cases hlt : k < xs.length
    · obtain ⟨a, HA⟩ : ∃ a, Hid (xs[k]? = some a) := ⟨_, List.getElem?_eq_getElem hlt⟩
      obtain ⟨s, HS⟩ : ∃ s, Hid (ys[k]? = some s) := ⟨_, List.getElem?_eq_getElem (by rw [HLen.out]; exact hlt)⟩
      have HN := Lib.hid (needs_at (y := Y) HA.out)
      have HF := Lib.hid (leftL_at (y := Y) HA.out HS.out)
      have hfit := left_fit HG.out HA.out HS.out
      have hlm : k < (mixL (leftL xs Y ys) ys k).length := by rw [mixL_len HLL.out (by rw [HLen.out]; exact hk), HLen.out]; exact hlt
      have hgc : wr.cell? ⟨g2, k, none⟩ = some (.int .i64 (needI a Y)) := own_at own2 (by rw [needs_len]; exact hlt) (by rw [List.getD_eq_getElem?_getD, HN.out]; rfl)
      have hsc : wr.cell? ⟨g, k, none⟩ = some (.int .i64 s) := own_at own hlm (by rw [mixL_at HLL.out (by rw [HLen.out]; exact hlt), List.getD_eq_getElem?_getD, HS.out]; rfl)
      obtain ⟨hsf, H1, H2⟩ := own_put own k (s - needI a Y) ⟨by omega, by omega⟩
      rw [mixL_set HLL.out (by rw [HLen.out]; exact hlt) HF.out] at H1
      have e63 := x6.cell 3
      have ew : IntKind.i64.wrap (s - needI a Y) = s - needI a Y := IntWalk.i64_in _ (by omega)
      have hki : (0 : Int) ≤ (k : Int) := by omega
      have hkn : (k : Int) < (xs.length : Int) := by omega
      have own2' := own2.mark H2 (fun q q' hq hq' => by cases hq; cases hq'; exact fun e => hng e.symm)
      have x6' := x6.mark H2 (fun q hq => by cases hq; exact fun e => hn6g e.symm)
      have r4' := r4.mark H2 (fun q hq => by cases hq; exact hgx)
      have HB' := HB.grown H2 hsz (fun q hq => by cases hq; exact hGL)
      clear hlm
      go_wp2
      go_roundw
      case rel => exact ⟨k + 1, by omega, by go_num, H1, own2', x6', r4', HB'⟩
      case measure => simp [intOf]; omega
    · obtain rfl : k = xs.length := by omega
      rw [show mixL (leftL xs Y ys) ys xs.length = leftL xs Y ys by rw [← HLen.out]; exact mixL_end HLL.out] at own
      have ey0 := x6.cell 0
      have ey1 := x6.cell 1
      have ey2 := x6.cell 2
      have ey3 := x6.cell 3
      have er0 := r4.cell 0
      have fr0 := r4.frozen 0
      have er1 := r4.cell 1
      have fr1 := r4.frozen 1
      have er2 := r4.cell 2
      have fr2 := r4.frozen 2
      have er3 := r4.cell 3
      have fr3 := r4.frozen 3
      go_wp2
      have F4 := fin4 (p := w.heap.size + 1) (a := .int .i64 L) (b := .int .i64 T) (c := .int .i64 0) (d := .slice (some ⟨g, 0, none⟩) xs.length cg) own (by simp [Value.ownBlock]; exact hgx) HB (by omega)
      have R5 := r4.put4t (a' := .int .i64 L) (b' := .int .i64 T) (c' := .int .i64 0) (d' := .slice (some ⟨g, 0, none⟩) xs.length cg)
      have q0 := R5.cell 0
      have q1 := R5.cell 1
      have q2 := R5.cell 2
      have q3 := R5.cell 3
      refine bodyPost_ret (v := .tuple #[bathV L T 0 (.slice (some ⟨g, 0, none⟩) xs.length cg), .bool true]) (by simp [results, Try.results6, go_sem, q0, q1, q2, q3]) rfl ?_
      unfold OutBath
      have hll : (leftL xs Y ys).length = xs.length := by rw [HLL.out, HLen.out]
      rw [HD.out.1, HD.out.1, HD.out.2, HDB.out, hll]
      exact ⟨_, cg, rfl, F4.1, F4.2⟩
set_option maxRecDepth 100000 in
set_option maxHeartbeats 4000000 in
theorem specDyeYarn_any (A : Option Addr) (n c B : Nat) (xs : List DyePartR) (L T Y : Int) (A' : Option Addr) (n' c' B' : Nat) (ys : List Int) (w : World) (h : RdF dyePartF w B A n c xs) (hB : B ≤ w.heap.size) (h' : Rd w B' A' n' c' ys) (hB' : B' ≤ w.heap.size) :
    Calls Try.prog 7 #[.slice A n c, bathV L T Y (.slice A' n' c')] w (OutBath w (dyeN xs L T Y ys L) (dyeN xs L T Y ys T) 0 (dyeL xs L T Y ys) (dyeB xs L T Y ys)) := by
  have HB : Below w.heap.size w ((w.alloc (.cells #[.int .i64 L, .int .i64 T, .int .i64 Y, .slice A' n' c'] 27)).alloc (.cells #[.int .i64 0, .int .i64 0, .int .i64 0, .slice none 0 0] 27)) := ((Below.refl _ _).alloc (Nat.le_refl _) _).alloc (by simp) _
  have x3 := (Blk.new w #[.int .i64 L, .int .i64 T, .int .i64 Y, .slice A' n' c'] 27).alloc (.cells #[.int .i64 0, .int .i64 0, .int .i64 0, .slice none 0 0] 27)
  have r4 := (Blk.new (w.alloc (.cells #[.int .i64 L, .int .i64 T, .int .i64 Y, .slice A' n' c'] 27)) #[.int .i64 0, .int .i64 0, .int .i64 0, .slice none 0 0] 27).at_ (q := w.heap.size + 1) (by simp)
  have hR1 := (h.alloc hB (.cells #[.int .i64 L, .int .i64 T, .int .i64 Y, .slice A' n' c'] 27)).alloc (by simp; omega) (.cells #[.int .i64 0, .int .i64 0, .int .i64 0, .slice none 0 0] 27)
  have hR2 := (h'.alloc hB' (.cells #[.int .i64 L, .int .i64 T, .int .i64 Y, .slice A' n' c'] 27)).alloc (by simp; omega) (.cells #[.int .i64 0, .int .i64 0, .int .i64 0, .slice none 0 0] 27)
  have hsz := HB.size
  have hz3 := x3.lt
  have hz4 := r4.lt
  have ex0 := x3.cell 0
  have ex1 := x3.cell 1
  have ex2 := x3.cell 2
  have ex3 := x3.cell 3
  go_enter Try.func7, Try.ntmps7
  go_wp2_with fail
  generalize (w.alloc (.cells #[.int .i64 L, .int .i64 T, .int .i64 Y, .slice A' n' c'] 27)).alloc (.cells #[.int .i64 0, .int .i64 0, .int .i64 0, .slice none 0 0] 27) = W1 at *
  refine (l7Bath_any A n c B xs L T Y A' n' c' B' ys _ hR1 (by omega) hR2 (by omega)).mono ?_
  rintro e w2 ⟨rfl, hb⟩
  clear ex0 ex1 ex2 ex3
  replace x3 := x3.all hb
  replace r4 := r4.all hb
  replace hR1 := hR1.all hb (by omega)
  replace hR2 := hR2.all hb (by omega)
  replace HB := HB.trans (hb.mono hsz)
  replace hsz := HB.size
  replace hz3 := x3.lt
  replace hz4 := r4.lt
  clear hb
  have ex0 := x3.cell 0
  have ex1 := x3.cell 1
  have ex2 := x3.cell 2
  have ex3 := x3.cell 3
  cases hg : bathB xs L T Y ys
  case false =>
    have hd : dyeB xs L T Y ys = false := by unfold dyeB; rw [hg]; rfl
    have HD := Lib.hid (dye_no hd)
    have HDB := Lib.hid hd
    clear hd hg
    have er0 := r4.cell 0
    have fr0 := r4.frozen 0
    have er1 := r4.cell 1
    have fr1 := r4.frozen 1
    have er2 := r4.cell 2
    have fr2 := r4.frozen 2
    have er3 := r4.cell 3
    have fr3 := r4.frozen 3
    go_wp2
    have F4 := fin4 (p := w.heap.size + 1) (a := .int .i64 0) (b := .int .i64 0) (c := .int .i64 0) (d := .slice none 0 0) (Own.nil w2 w.heap.size) (by simp [Value.ownBlock]) HB (by omega)
    refine bodyPost_ret (v := .tuple #[bathV 0 0 0 (.slice none 0 0), .bool false]) (by simp [results, Try.results7, go_sem, *]) rfl ?_
    unfold OutBath
    rw [HD.out.1, HD.out.1, HD.out.2, HDB.out]
    exact ⟨none, 0, rfl, F4.1, F4.2⟩
  have HG := Lib.hid hg
  obtain ⟨_, _, _, _, _, hY0, hY1⟩ := bath_of hg
  clear hg
  go_wp2_with fail
  refine (l7Ready_any A n c B xs L T Y A' n' c' B' ys Y _ hR1 (by omega) hR2 (by omega) HG.out hY0 hY1).mono ?_
  rintro e w3 ⟨rfl, hb⟩
  clear ex0 ex1 ex2 ex3
  replace x3 := x3.all hb
  replace r4 := r4.all hb
  replace hR1 := hR1.all hb (by omega)
  replace hR2 := hR2.all hb (by omega)
  replace HB := HB.trans (hb.mono hsz)
  replace hsz := HB.size
  replace hz3 := x3.lt
  replace hz4 := r4.lt
  clear hb
  have ex0 := x3.cell 0
  have ex1 := x3.cell 1
  have ex2 := x3.cell 2
  have ex3 := x3.cell 3
  cases hr : readyB xs L T ys Y
  case false =>
    have hd : dyeB xs L T Y ys = false := by unfold dyeB; rw [hr, Bool.and_false]
    have HD := Lib.hid (dye_no hd)
    have HDB := Lib.hid hd
    clear hd hr
    have er0 := r4.cell 0
    have fr0 := r4.frozen 0
    have er1 := r4.cell 1
    have fr1 := r4.frozen 1
    have er2 := r4.cell 2
    have fr2 := r4.frozen 2
    have er3 := r4.cell 3
    have fr3 := r4.frozen 3
    go_wp2
    have F4 := fin4 (p := w.heap.size + 1) (a := .int .i64 0) (b := .int .i64 0) (c := .int .i64 0) (d := .slice none 0 0) (Own.nil w3 w.heap.size) (by simp [Value.ownBlock]) HB (by omega)
    refine bodyPost_ret (v := .tuple #[bathV 0 0 0 (.slice none 0 0), .bool false]) (by simp [results, Try.results7, go_sem, *]) rfl ?_
    unfold OutBath
    rw [HD.out.1, HD.out.1, HD.out.2, HDB.out]
    exact ⟨none, 0, rfl, F4.1, F4.2⟩
  have hd : dyeB xs L T Y ys = true := by unfold dyeB; rw [hr, HG.out]; rfl
  have HD := Lib.hid (dye_yes hd)
  have HDB := Lib.hid hd
  clear hd hr
  have HLen := Lib.hid h'.len
  obtain rfl := h.len
  obtain ⟨hr, hle, hgr, ⟨hL0, hL1⟩, ⟨hT0, hT1⟩, _, _⟩ := bath_of HG.out
  have hn6 := rec_len hr
  obtain rfl : n' = xs.length := by rw [← HLen.out, hle]
  have HR := Lib.hid hr
  have HLL := Lib.hid (show (leftL xs Y ys).length = ys.length from leftL_len hle)
  clear hle hr hgr
  obtain ⟨b, off, rfl, _, _⟩ := h'.cells (by omega)
  have x6 := Blk.new w3 #[.int .i64 L, .int .i64 T, .int .i64 0, .slice none 0 0] 27
  have x3a := x3.alloc (.cells #[.int .i64 L, .int .i64 T, .int .i64 0, .slice none 0 0] 27)
  have r4a := r4.alloc (.cells #[.int .i64 L, .int .i64 T, .int .i64 0, .slice none 0 0] 27)
  have hR1a := hR1.alloc (by omega) (.cells #[.int .i64 L, .int .i64 T, .int .i64 0, .slice none 0 0] 27)
  have HBa := HB.alloc hsz (.cells #[.int .i64 L, .int .i64 T, .int .i64 0, .slice none 0 0] 27)
  go_wp2_with fail
  clear ex0 ex1 ex2 ex3
  clear hR1 hR2 x3 r4 HB
  have hsz := HBa.size
  have hz3 := x3a.lt
  have hz4 := r4a.lt
  have hz6 := x6.lt
  generalize w3.alloc (.cells #[.int .i64 L, .int .i64 T, .int .i64 0, .slice none 0 0] 27) = W5 at *
  obtain ⟨P6, hP6⟩ : ∃ P6, w3.heap.size = P6 := ⟨_, rfl⟩
  rw [hP6] at x6 hz6 ⊢
  have hP0 : w.heap.size + 1 < P6 := by omega
  clear hP6
  refine (l7Needs_any A _ c B xs Y _ hR1a (by omega) HR.out hY0 hY1).mono ?_
  rintro e w6 ⟨A2, c2, rfl, own2, hb⟩
  rw [needs_len] at own2 ⊢
  obtain ⟨g2, rfl, hg2, hg26⟩ := own2.some_ (by rw [needs_len]; omega)
  have x3 := x3a.all hb
  have r4 := r4a.all hb
  have x6 := x6.all hb
  have HB := HBa.trans (hb.mono hsz)
  have hs6 : w.heap.size ≤ w6.heap.size := HB.size
  have hP6' : P6 < w6.heap.size := x6.lt
  clear hb r4a HBa x3a hR1a hsz hz3 hz4
  go_wp2
  go_loopw [8] (fun i wr => ∃ (k : Nat) (A3 : Option Addr) (c3 : Nat), k ≤ xs.length ∧ i = .int .i64 k ∧ Own wr w6.heap.size (.slice A3 k c3) ((leftL xs Y ys).take k) ∧ Own wr W5.heap.size (.slice (some ⟨g2, 0, none⟩) xs.length c2) (needs xs Y) ∧ Blk wr P6 27 #[.int .i64 L, .int .i64 T, .int .i64 0, .slice A3 k c3] ∧ Blk wr w.heap.size 27 #[.int .i64 L, .int .i64 T, .int .i64 Y, .slice (some ⟨b, off, none⟩) xs.length c'] ∧ Blk wr (w.heap.size + 1) 27 #[.int .i64 0, .int .i64 0, .int .i64 0, .slice none 0 0] ∧ Below w.heap.size w wr ∧ w6.heap.size ≤ wr.heap.size) (fun i _ => xs.length - (intOf i).toNat)
  case atStart => exact ⟨0, none, 0, Nat.zero_le _, rfl, Own.nil _ _, own2, x6, x3, r4, HB, Nat.le_refl _⟩
  case round =>
    clear own2 x6 x3 r4 HB
    obtain ⟨k, A3, c3, hk, rfl, own, own2, x6, x3, r4, HB, hz66⟩ := hrel
    have hsz := HB.size
    by_cases hlt : k < xs.length
    · obtain ⟨a, HA⟩ : ∃ a, Hid (xs[k]? = some a) := ⟨_, List.getElem?_eq_getElem hlt⟩
      obtain ⟨_, _, s, e, hbB, hsc, _, _, HX⟩ := (h'.all HB hB').at hlt
      cases e
      have HS := Lib.hid (get_at (xs := ys) (by rw [HLen.out]; exact hlt) HX.out)
      have HN := Lib.hid (needs_at (y := Y) HA.out)
      have HF := Lib.hid (leftL_at (y := Y) HA.out HS.out)
      have hfit := left_fit HG.out HA.out HS.out
      have hgc : wr.cell? ⟨g2, k, none⟩ = some (.int .i64 (needI a Y)) := own_at own2 (by rw [needs_len]; exact hlt) (by rw [List.getD_eq_getElem?_getD, HN.out]; rfl)
      obtain ⟨x, hx⟩ : ∃ x, s - needI a Y = x := ⟨_, rfl⟩
      have ew : IntKind.i64.wrap (s - needI a Y) = x := by rw [hx]; exact IntWalk.i64_in _ (by omega)
      have hxx : I64 x := ⟨by omega, by omega⟩
      rw [hx] at HF
      have HK := Lib.hid (show (leftL xs Y ys).take (k + 1) = (leftL xs Y ys).take k ++ [x] by
        obtain ⟨hi, e⟩ := List.getElem?_eq_some_iff.1 HF.out
        rw [List.take_succ_eq_append_getElem hi, e])
      have HT := Lib.hid (show ((leftL xs Y ys).take k).length = k by rw [List.length_take, HLL.out, HLen.out]; omega)
      clear hx hfit
      have f3 := x6.cell 3
      have z3 := x6.frozen 3
      have e33 := x3.cell 3
      have hki : (0 : Int) ≤ (k : Int) := by omega
      have hkn : (k : Int) < (xs.length : Int) := by omega
      have hdr : Below wr.heap.size wr wr.drew := ⟨rfl, rfl, rfl, Nat.le_refl _, fun _ _ => rfl⟩
      have oa := own.all hdr
      have o2a := own2.all hdr
      have xa := x6.all hdr
      have ya := x3.all hdr
      have ra := r4.all hdr
      have hza : w6.heap.size ≤ wr.drew.heap.size := hz66
      have hdis : ∀ q q', (Value.slice A3 k c3).ownBlock = some q → (Value.slice (some ⟨g2, 0, none⟩) xs.length c2).ownBlock = some q' → q ≠ q' := fun q q' hq hq' => by
        have h1 := (oa.bd q hq).1
        have h2 : g2 = q' := by simpa [Value.ownBlock] using hq'
        omega
      have hzb : w.heap.size ≤ wr.drew.heap.size := hsz
      have HBa := Lib.hid (HB.trans (hdr.mono hsz))
      have hlr : k ≤ 1073741824 := by omega
      have hzx := x6.lt
      have hzr := r4.lt
      have hzy := x3.lt
      have hzg : g2 < wr.heap.size := by omega
      have hbz : b < wr.heap.size := by omega
      clear hdr
      go_wp2
      go_region_law (refine step_append_one wr.drew rfl (.tmp 38) (.tmp 49) 25 rfl Try.underlying25 info_int w6.heap.size k _ _ _ HT.out rfl rfl oa hlr hxx hza ?_; intro A5 c5 w5 o5 hg5; have x5 := xa.mark hg5 (row_ne oa.1 xa (by decide)); have y5 := ya.mark hg5 (row_ne oa.1 ya (by decide)); have r5 := ra.mark hg5 (row_ne oa.1 ra (by decide)); have o25 := o2a.mark hg5 hdis; have HB5 := Lib.hid (HBa.out.grown hg5 hzb (fun q hq => by have := (oa.bd q hq).1; omega)); have hz5 : w6.heap.size ≤ w5.heap.size := Nat.le_trans hza hg5.size; have f5 := x5.cell 3; have z5 := x5.frozen 3)
      all_goals
        rw [← HK.out] at o5
        clear ew
        go_wp2
        go_roundw
        case rel => exact ⟨k + 1, A5, c5, by omega, by go_num, o5.far (row_ne' o5.1 x5 (by decide)) _, o25.setLow (by show P6 < W5.heap.size; omega) _, by have := x5.set_ 3 (.slice A5 (k + 1) c5); simpa using this, y5.far (by show w.heap.size ≠ P6; omega) _, r5.far (by show w.heap.size + 1 ≠ P6; omega) _, HB5.out.setCell (by show w.heap.size ≤ P6; omega) _, by simpa using hz5⟩
        case measure => simp [intOf]; omega
    · obtain rfl : k = xs.length := by omega
      have hll : (leftL xs Y ys).length = xs.length := by rw [HLL.out, HLen.out]
      rw [List.take_of_length_le (by rw [hll]; exact Nat.le_refl _)] at own
      have ey0 := x6.cell 0
      have ey1 := x6.cell 1
      have ey2 := x6.cell 2
      have ey3 := x6.cell 3
      have er0 := r4.cell 0
      have fr0 := r4.frozen 0
      have er1 := r4.cell 1
      have fr1 := r4.frozen 1
      have er2 := r4.cell 2
      have fr2 := r4.frozen 2
      have er3 := r4.cell 3
      have fr3 := r4.frozen 3
      have HLL2 := Lib.hid hll
      clear hll
      go_wp2
      have F4 := fin4 (p := w.heap.size + 1) (a := .int .i64 L) (b := .int .i64 T) (c := .int .i64 0) (d := .slice A3 xs.length c3) (own.mono hs6) (row_ne' own.1 r4 (by decide)) HB (by omega)
      have R5 := r4.put4t (a' := .int .i64 L) (b' := .int .i64 T) (c' := .int .i64 0) (d' := .slice A3 xs.length c3)
      have q0 := R5.cell 0
      have q1 := R5.cell 1
      have q2 := R5.cell 2
      have q3 := R5.cell 3
      refine bodyPost_ret (v := .tuple #[bathV L T 0 (.slice A3 xs.length c3), .bool true]) (by simp [results, Try.results7, go_sem, q0, q1, q2, q3]) rfl ?_
      unfold OutBath
      rw [HD.out.1, HD.out.1, HD.out.2, HDB.out, HLL2.out]
      exact ⟨A3, c3, rfl, F4.1, F4.2⟩
end Go.Proofs.Ytjlidgeeehlkcaa
