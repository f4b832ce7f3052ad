/- The walks of AddStuff in both texts. No condition. -/
import Derived.Test.YtjlidgeeehlkcaaPlaceS
import Derived.Test.YtjlidgeeehlkcaaDye
namespace Go.Proofs.Ytjlidgeeehlkcaa
open Go.RowKit

theorem bath_set {xs : List DyePartR} {L T Y : Int} {ys : List Int} (h : bathB xs L T Y ys = true) {k : Nat} {v : Int} (hk : k < ys.length) : bathB xs L T Y (ys.set k v) = gramB v := by
  have H := bath_of h
  obtain ⟨h1, h2, h3, h4, h5, h6⟩ := H
  simp only [bathB, Bool.and_eq_true, decide_eq_true_eq] at h
  obtain ⟨⟨⟨⟨⟨a1, a2⟩, a3⟩, a4⟩, a5⟩, a6⟩ := h
  have e : gramsB (ys.set k v) = gramB v := by
    cases hv : gramB v with
    | false => exact gramsB_no (k := k) (y := v) (by rw [List.getElem?_set, if_pos rfl, if_pos hk]) hv
    | true =>
      refine gramsB_yes fun i y hi hy => ?_
      rw [List.getElem?_set] at hy
      by_cases hik : k = i
      · subst hik
        rw [if_pos rfl, if_pos hk] at hy
        cases hy
        exact hv
      · rw [if_neg hik] at hy
        unfold gramsB at h3
        rw [List.all_eq_true] at h3
        exact h3 y (List.mem_of_getElem? hy)
  unfold bathB
  rw [e, a1, a4, a5, a6, decide_eq_true (by rw [List.length_set]; exact h2)]
  simp
/-- What AddStuff tells. -/
noncomputable def addB (xs : List DyePartR) (L T Y : Int) (ys : List Int) (s : ByteArray) (v : Int) : Bool := bathB xs L T Y ys && gramB v && match posS xs s with | some k => gramB (ys.getD k 0 + v) | none => false
def addV (xs : List DyePartR) (ys : List Int) (s : ByteArray) (v : Int) : List Int := match posS xs s with | some k => ys.set k (ys.getD k 0 + v) | none => []
noncomputable def addN (xs : List DyePartR) (L T Y : Int) (ys : List Int) (s : ByteArray) (v r : Int) : Int := if addB xs L T Y ys s v = true then r else 0
noncomputable def addL (xs : List DyePartR) (L T Y : Int) (ys : List Int) (s : ByteArray) (v : Int) : List Int := if addB xs L T Y ys s v = true then addV xs ys s v else []
theorem add_no {xs : List DyePartR} {L T Y : Int} {ys : List Int} {s : ByteArray} {v : Int} (h : addB xs L T Y ys s v = false) : (∀ r, addN xs L T Y ys s v r = 0) ∧ addL xs L T Y ys s v = [] := by
  unfold addN addL; rw [h]; exact ⟨fun _ => rfl, rfl⟩
theorem add_yes {xs : List DyePartR} {L T Y : Int} {ys : List Int} {s : ByteArray} {v : Int} (h : addB xs L T Y ys s v = true) : (∀ r, addN xs L T Y ys s v r = r) ∧ addL xs L T Y ys s v = addV xs ys s v := by
  unfold addN addL; rw [h]; exact ⟨fun _ => rfl, rfl⟩
theorem addStuff_len (xs : List DyePartR) (L T Y : Int) (ys : List Int) (s : ByteArray) (v : Int) : (addL xs L T Y ys s v).length ≤ 1048576 := by
  cases h : addB xs L T Y ys s v
  · rw [(add_no h).2]; simp
  · rw [(add_yes h).2]
    simp only [addB, Bool.and_eq_true] at h
    obtain ⟨h1, h2, _⟩ := bath_of h.1.1
    have := rec_len h1
    unfold addV
    split
    · rw [List.length_set]; omega
    · simp
theorem add_bad1 {xs : List DyePartR} {L T Y : Int} {ys : List Int} {s : ByteArray} {v : Int} (h : bathB xs L T Y ys = false) : addB xs L T Y ys s v = false := by unfold addB; rw [h]; rfl
theorem add_bad2 {xs : List DyePartR} {L T Y : Int} {ys : List Int} {s : ByteArray} {v : Int} (h : gramB v = false) : addB xs L T Y ys s v = false := by unfold addB; rw [h, Bool.and_false]; rfl
theorem add_bad3 {xs : List DyePartR} {L T Y : Int} {ys : List Int} {s : ByteArray} {v : Int} (h : posS xs s = none) : addB xs L T Y ys s v = false := by unfold addB; rw [h]; simp
theorem add_at {xs : List DyePartR} {L T Y : Int} {ys : List Int} {s : ByteArray} {v x : Int} {k : Nat} (hg : bathB xs L T Y ys = true) (hv : gramB v = true) (h : posS xs s = some k) (hx : ys[k]? = some x) :
    addB xs L T Y ys s v = bathB xs L T Y (ys.set k (x + v)) ∧ addV xs ys s v = ys.set k (x + v) := by
  have e : ys.getD k 0 = x := by rw [List.getD_eq_getElem?_getD, hx]; rfl
  unfold addB addV
  rw [hg, hv, h, bath_set hg (List.getElem?_eq_some_iff.1 hx).1]
  simp only [e]
  refine ⟨?_, ?_⟩ <;> first | rfl | trivial
set_option maxRecDepth 100000 in
set_option maxHeartbeats 4000000 in
theorem implAddStuff_any (A : Option Addr) (n c B : Nat) (xs : List DyePartR) (L T Y : Int) (A' : Option Addr) (n' c' B' : Nat) (ys : List Int) (s : ByteArray) (v : Int) (w : World) (h : RdF dyePartF w B A n c xs) (hB : B ≤ w.heap.size) (h' : Rd w B' A' n' c' ys) (hB' : B' ≤ w.heap.size) :
    Calls Try.prog 17 #[.slice A n c, bathV L T Y (.slice A' n' c'), .string s, .int .i64 v] w (OutBath w (addN xs L T Y ys s v L) (addN xs L T Y ys s v T) (addN xs L T Y ys s v Y) (addL xs L T Y ys s v) (addB xs L T Y ys s v)) := by
  have HB : Below w.heap.size w ((w.alloc (.cells #[.int .i64 L, .int .i64 T, .int .i64 Y, .slice A' n' c'] 27)).alloc (.cells #[.int .i64 0, .int .i64 0, .int .i64 0, .slice none 0 0] 27)) := ((Below.refl _ _).alloc (Nat.le_refl _) _).alloc (by simp) _
  have x3 := (Blk.new w #[.int .i64 L, .int .i64 T, .int .i64 Y, .slice A' n' c'] 27).alloc (.cells #[.int .i64 0, .int .i64 0, .int .i64 0, .slice none 0 0] 27)
  have r4 := (Blk.new (w.alloc (.cells #[.int .i64 L, .int .i64 T, .int .i64 Y, .slice A' n' c'] 27)) #[.int .i64 0, .int .i64 0, .int .i64 0, .slice none 0 0] 27).at_ (q := w.heap.size + 1) (by simp)
  have hR1 := (h.alloc hB (.cells #[.int .i64 L, .int .i64 T, .int .i64 Y, .slice A' n' c'] 27)).alloc (by simp; omega) (.cells #[.int .i64 0, .int .i64 0, .int .i64 0, .slice none 0 0] 27)
  have hR2 := (h'.alloc hB' (.cells #[.int .i64 L, .int .i64 T, .int .i64 Y, .slice A' n' c'] 27)).alloc (by simp; omega) (.cells #[.int .i64 0, .int .i64 0, .int .i64 0, .slice none 0 0] 27)
  have hsz := HB.size
  have hz3 := x3.lt
  have hz4 := r4.lt
  have ex0 := x3.cell 0
  have ex1 := x3.cell 1
  have ex2 := x3.cell 2
  have ex3 := x3.cell 3
  go_enter Try.func17, Try.ntmps17
  go_wp2_with fail
  generalize (w.alloc (.cells #[.int .i64 L, .int .i64 T, .int .i64 Y, .slice A' n' c'] 27)).alloc (.cells #[.int .i64 0, .int .i64 0, .int .i64 0, .slice none 0 0] 27) = W1 at *
  refine (implIsBath_any A n c B xs L T Y A' n' c' B' ys _ hR1 (by omega) hR2 (by omega)).mono ?_
  rintro e w2 ⟨rfl, hb⟩
  clear ex0 ex1 ex2 ex3
  replace x3 := x3.all hb
  replace r4 := r4.all hb
  replace hR1 := hR1.all hb (by omega)
  replace hR2 := hR2.all hb (by omega)
  replace HB := HB.trans (hb.mono hsz)
  replace hsz := HB.size
  replace hz3 := x3.lt
  replace hz4 := r4.lt
  clear hb
  have ex0 := x3.cell 0
  have ex1 := x3.cell 1
  have ex2 := x3.cell 2
  have ex3 := x3.cell 3
  cases hg : bathB xs L T Y ys
  case false =>
    have HD := Lib.hid (add_no (add_bad1 (s := s) (v := v) hg))
    have HDB := Lib.hid (add_bad1 (s := s) (v := v) hg)
    clear hg
    have er0 := r4.cell 0
    have fr0 := r4.frozen 0
    have er1 := r4.cell 1
    have fr1 := r4.frozen 1
    have er2 := r4.cell 2
    have fr2 := r4.frozen 2
    have er3 := r4.cell 3
    have fr3 := r4.frozen 3
    go_wp2
    have F4 := fin4 (p := w.heap.size + 1) (a := .int .i64 0) (b := .int .i64 0) (c := .int .i64 0) (d := .slice none 0 0) (Own.nil w2 w.heap.size) (by simp [Value.ownBlock]) HB (by omega)
    have R5 := r4.put4t (a' := .int .i64 0) (b' := .int .i64 0) (c' := .int .i64 0) (d' := .slice none 0 0)
    have q0 := R5.cell 0
    have q1 := R5.cell 1
    have q2 := R5.cell 2
    have q3 := R5.cell 3
    refine bodyPost_ret (v := .tuple #[bathV 0 0 0 (.slice none 0 0), .bool false]) (by simp [results, Try.results17, go_sem, q0, q1, q2, q3]) rfl ?_
    unfold OutBath
    rw [HD.out.1, HD.out.1, HD.out.1, HD.out.2, HDB.out]
    exact ⟨none, 0, rfl, F4.1, F4.2⟩
  have HG := Lib.hid hg
  clear hg
  cases hv : gramB v
  case false =>
    have HD := Lib.hid (add_no (add_bad2 (xs := xs) (L := L) (T := T) (Y := Y) (ys := ys) (s := s) hv))
    have HDB := Lib.hid (add_bad2 (xs := xs) (L := L) (T := T) (Y := Y) (ys := ys) (s := s) hv)
    have er0 := r4.cell 0
    have fr0 := r4.frozen 0
    have er1 := r4.cell 1
    have fr1 := r4.frozen 1
    have er2 := r4.cell 2
    have fr2 := r4.frozen 2
    have er3 := r4.cell 3
    have fr3 := r4.frozen 3
    go_wp2_with ((go_at_call 28; (with_reducible refine (isGrams_any _ _).mono ?_); rintro e w' ⟨rfl, rfl⟩))
    clear hv
    clear er0 fr0 er1 fr1 er2 fr2 er3 fr3
    have er0 := r4.cell 0
    have fr0 := r4.frozen 0
    have er1 := r4.cell 1
    have fr1 := r4.frozen 1
    have er2 := r4.cell 2
    have fr2 := r4.frozen 2
    have er3 := r4.cell 3
    have fr3 := r4.frozen 3
    have F4 := fin4 (p := w.heap.size + 1) (a := .int .i64 0) (b := .int .i64 0) (c := .int .i64 0) (d := .slice none 0 0) (Own.nil w2 w.heap.size) (by simp [Value.ownBlock]) HB (by omega)
    have R5 := r4.put4t (a' := .int .i64 0) (b' := .int .i64 0) (c' := .int .i64 0) (d' := .slice none 0 0)
    have q0 := R5.cell 0
    have q1 := R5.cell 1
    have q2 := R5.cell 2
    have q3 := R5.cell 3
    refine bodyPost_ret (v := .tuple #[bathV 0 0 0 (.slice none 0 0), .bool false]) (by simp [results, Try.results17, go_sem, q0, q1, q2, q3]) rfl ?_
    unfold OutBath
    rw [HD.out.1, HD.out.1, HD.out.1, HD.out.2, HDB.out]
    exact ⟨none, 0, rfl, F4.1, F4.2⟩
  have hv2 := inB_yes hv
  have HLen := Lib.hid h'.len
  obtain rfl := h.len
  obtain ⟨hr, hle, hgr, ⟨hL0, hL1⟩, ⟨hT0, hT1⟩, hY0, hY1⟩ := bath_of HG.out
  have hn6 := rec_len hr
  obtain rfl : n' = xs.length := by rw [← HLen.out, hle]
  have HR := Lib.hid hr
  have HGR := Lib.hid hgr
  clear hle hr hgr
  obtain ⟨b, off, rfl, _, _⟩ := h'.cells (by omega)
  go_wp2_with ((go_at_call 28; (with_reducible refine (isGrams_any _ _).mono ?_); rintro e w' ⟨rfl, rfl⟩))
  refine (partWith_any A _ c B xs s _ hR1 (by omega)).mono ?_
  rintro e w3 ⟨rfl, hb⟩
  clear ex0 ex1 ex2 ex3
  replace x3 := x3.all hb
  replace r4 := r4.all hb
  replace hR1 := hR1.all hb (by omega)
  replace hR2 := hR2.all hb (by omega)
  replace HB := HB.trans (hb.mono hsz)
  replace hsz := HB.size
  replace hz3 := x3.lt
  replace hz4 := r4.lt
  clear hb
  have ex0 := x3.cell 0
  have ex1 := x3.cell 1
  have ex2 := x3.cell 2
  have ex3 := x3.cell 3
  cases hp : posS xs s
  case none =>
    have HD := Lib.hid (add_no (add_bad3 (L := L) (T := T) (Y := Y) (ys := ys) (v := v) hp))
    have HDB := Lib.hid (add_bad3 (L := L) (T := T) (Y := Y) (ys := ys) (v := v) hp)
    rw [posI_none hp]
    clear hp hv
    have er0 := r4.cell 0
    have fr0 := r4.frozen 0
    have er1 := r4.cell 1
    have fr1 := r4.frozen 1
    have er2 := r4.cell 2
    have fr2 := r4.frozen 2
    have er3 := r4.cell 3
    have fr3 := r4.frozen 3
    go_wp2
    have F4 := fin4 (p := w.heap.size + 1) (a := .int .i64 0) (b := .int .i64 0) (c := .int .i64 0) (d := .slice none 0 0) (Own.nil w3 w.heap.size) (by simp [Value.ownBlock]) HB (by omega)
    have R5 := r4.put4t (a' := .int .i64 0) (b' := .int .i64 0) (c' := .int .i64 0) (d' := .slice none 0 0)
    have q0 := R5.cell 0
    have q1 := R5.cell 1
    have q2 := R5.cell 2
    have q3 := R5.cell 3
    refine bodyPost_ret (v := .tuple #[bathV 0 0 0 (.slice none 0 0), .bool false]) (by simp [results, Try.results17, go_sem, q0, q1, q2, q3]) rfl ?_
    unfold OutBath
    rw [HD.out.1, HD.out.1, HD.out.1, HD.out.2, HDB.out]
    exact ⟨none, 0, rfl, F4.1, F4.2⟩
  case some k =>
  obtain ⟨a, ha, _, _⟩ := posS_of hp
  have hk := (List.getElem?_eq_some_iff.1 ha).1
  obtain ⟨x, HX⟩ : ∃ x, Hid (ys[k]? = some x) := ⟨_, List.getElem?_eq_getElem (by rw [HLen.out]; exact hk)⟩
  have hx := grams_at HGR.out HX.out
  have HADD := Lib.hid (add_at HG.out hv hp HX.out)
  rw [posI_some hp]
  clear hp hv ha
  have hki : (0 : Int) ≤ (k : Int) := by omega
  have hkn : (k : Int) < (xs.length : Int) := by omega
  go_wp2_with fail
  refine (copyBath_any L T Y b off xs.length c' B' ys _ hR2 (by omega) (by omega) (by omega)).mono ?_
  rintro e w4 ⟨g, cg, rfl, own, hb⟩
  clear ex0 ex1 ex2 ex3
  have hlo := hsz
  replace x3 := x3.all hb
  replace r4 := r4.all hb
  replace hR1 := hR1.all hb (by omega)
  replace hR2 := hR2.all hb (by omega)
  replace HB := HB.trans (hb.mono hsz)
  replace hsz := HB.size
  replace hz3 := x3.lt
  replace hz4 := r4.lt
  clear hb
  replace own := own.mono hlo
  rw [HLen.out] at own ⊢
  have hg4 : g < w4.heap.size := (own.bd g rfl).2
  have hGL := (own.bd g rfl).1
  have hgx : g ≠ w.heap.size + 1 := by
    intro e
    subst e
    exact row_ne own.1 r4 (by decide) _ rfl rfl
  have hgx3 : g ≠ w.heap.size := by
    intro e
    subst e
    exact row_ne own.1 x3 (by decide) _ rfl rfl
  have hxc : w4.cell? ⟨g, k, none⟩ = some (.int .i64 x) := own_at own (by rw [HLen.out]; exact hk) (by rw [List.getD_eq_getElem?_getD, HX.out]; rfl)
  obtain ⟨hsf, H1, H2⟩ := own_put own k (x + v) ⟨by omega, by omega⟩
  have ew : IntKind.i64.wrap (x + v) = x + v := IntWalk.i64_in _ (by omega)
  have x6b := (Blk.new (w4.setCell ⟨g, k, none⟩ (.int .i64 (x + v))) #[.int .i64 L, .int .i64 T, .int .i64 Y, .slice (some ⟨g, 0, none⟩) xs.length cg] 27).at_ (q := w4.heap.size) (by simp)
  have r4b := (r4.mark H2 (fun q hq => by cases hq; exact hgx)).alloc (.cells #[.int .i64 L, .int .i64 T, .int .i64 Y, .slice (some ⟨g, 0, none⟩) xs.length cg] 27)
  have HBs := HB.grown H2 hsz (fun q hq => by cases hq; exact hGL)
  have HBb := HBs.alloc HBs.size (.cells #[.int .i64 L, .int .i64 T, .int .i64 Y, .slice (some ⟨g, 0, none⟩) xs.length cg] 27)
  have hR1b := h.all HBb hB
  have owna := H1.alloc (.cells #[.int .i64 L, .int .i64 T, .int .i64 Y, .slice (some ⟨g, 0, none⟩) xs.length cg] 27)
  have e60 := x6b.cell 0
  have e61 := x6b.cell 1
  have e62 := x6b.cell 2
  have e63 := x6b.cell 3
  go_wp2_with fail
  clear hR1 hR2 x3 r4 own HB hxc hsf ew e60 e61 e62 e63 H1 H2 HBs
  have hsz := HBb.size
  have hz4 := r4b.lt
  generalize (w4.setCell ⟨g, k, none⟩ (.int .i64 (x + v))).alloc (.cells #[.int .i64 L, .int .i64 T, .int .i64 Y, .slice (some ⟨g, 0, none⟩) xs.length cg] 27) = W5 at *
  have HLS := Lib.hid (show (ys.set k (x + v)).length = xs.length by rw [List.length_set]; exact HLen.out)
  refine (implIsBath_any A _ c B xs L T Y (some ⟨g, 0, none⟩) xs.length cg _ (ys.set k (x + v)) _ hR1b (by omega) (owna.rd) (Nat.le_refl _)).mono ?_
  rintro e w6 ⟨rfl, hb⟩
  have r4 := r4b.all hb
  have x6 := x6b.all hb
  have own := owna.all hb
  have HB := HBb.trans (hb.mono hsz)
  clear hb r4b x6b owna HBb hR1b hsz hz4 hg4
  have hsz := HB.size
  have hz4 := r4.lt
  cases hbb : bathB xs L T Y (ys.set k (x + v))
  case false =>
    have HDB := Lib.hid (HADD.out.1.trans hbb)
    have HD := Lib.hid (add_no HDB.out)
    clear hbb
    have er0 := r4.cell 0
    have fr0 := r4.frozen 0
    have er1 := r4.cell 1
    have fr1 := r4.frozen 1
    have er2 := r4.cell 2
    have fr2 := r4.frozen 2
    have er3 := r4.cell 3
    have fr3 := r4.frozen 3
    go_wp2
    have F4 := fin4 (p := w.heap.size + 1) (a := .int .i64 0) (b := .int .i64 0) (c := .int .i64 0) (d := .slice none 0 0) (Own.nil w6 w.heap.size) (by simp [Value.ownBlock]) HB (by omega)
    have R5 := r4.put4t (a' := .int .i64 0) (b' := .int .i64 0) (c' := .int .i64 0) (d' := .slice none 0 0)
    have q0 := R5.cell 0
    have q1 := R5.cell 1
    have q2 := R5.cell 2
    have q3 := R5.cell 3
    refine bodyPost_ret (v := .tuple #[bathV 0 0 0 (.slice none 0 0), .bool false]) (by simp [results, Try.results17, go_sem, q0, q1, q2, q3]) rfl ?_
    unfold OutBath
    rw [HD.out.1, HD.out.1, HD.out.1, HD.out.2, HDB.out]
    exact ⟨none, 0, rfl, F4.1, F4.2⟩
  have HDB := Lib.hid (HADD.out.1.trans hbb)
  have HD := Lib.hid (add_yes HDB.out)
  have HAV := Lib.hid HADD.out.2
  clear hbb
  have ey0 := x6.cell 0
  have ey1 := x6.cell 1
  have ey2 := x6.cell 2
  have ey3 := x6.cell 3
  have er0 := r4.cell 0
  have fr0 := r4.frozen 0
  have er1 := r4.cell 1
  have fr1 := r4.frozen 1
  have er2 := r4.cell 2
  have fr2 := r4.frozen 2
  have er3 := r4.cell 3
  have fr3 := r4.frozen 3
  go_wp2
  have F4 := fin4 (p := w.heap.size + 1) (a := .int .i64 L) (b := .int .i64 T) (c := .int .i64 Y) (d := .slice (some ⟨g, 0, none⟩) xs.length cg) own (row_ne' own.1 r4 (by decide)) HB (by omega)
  have R5 := r4.put4t (a' := .int .i64 L) (b' := .int .i64 T) (c' := .int .i64 Y) (d' := .slice (some ⟨g, 0, none⟩) xs.length cg)
  have q0 := R5.cell 0
  have q1 := R5.cell 1
  have q2 := R5.cell 2
  have q3 := R5.cell 3
  refine bodyPost_ret (v := .tuple #[bathV L T Y (.slice (some ⟨g, 0, none⟩) xs.length cg), .bool true]) (by simp [results, Try.results17, go_sem, q0, q1, q2, q3]) rfl ?_
  unfold OutBath
  rw [HD.out.1, HD.out.1, HD.out.1, HD.out.2, HDB.out, HAV.out, HLS.out]
  exact ⟨_, _, rfl, F4.1, F4.2⟩
set_option maxRecDepth 100000 in
set_option maxHeartbeats 4000000 in
theorem specAddStuff_any (A : Option Addr) (n c B : Nat) (xs : List DyePartR) (L T Y : Int) (A' : Option Addr) (n' c' B' : Nat) (ys : List Int) (s : ByteArray) (v : Int) (w : World) (h : RdF dyePartF w B A n c xs) (hB : B ≤ w.heap.size) (h' : Rd w B' A' n' c' ys) (hB' : B' ≤ w.heap.size) :
    Calls Try.prog 19 #[.slice A n c, bathV L T Y (.slice A' n' c'), .string s, .int .i64 v] w (OutBath w (addN xs L T Y ys s v L) (addN xs L T Y ys s v T) (addN xs L T Y ys s v Y) (addL xs L T Y ys s v) (addB xs L T Y ys s v)) := by
  have HB : Below w.heap.size w ((w.alloc (.cells #[.int .i64 L, .int .i64 T, .int .i64 Y, .slice A' n' c'] 27)).alloc (.cells #[.int .i64 0, .int .i64 0, .int .i64 0, .slice none 0 0] 27)) := ((Below.refl _ _).alloc (Nat.le_refl _) _).alloc (by simp) _
  have x3 := (Blk.new w #[.int .i64 L, .int .i64 T, .int .i64 Y, .slice A' n' c'] 27).alloc (.cells #[.int .i64 0, .int .i64 0, .int .i64 0, .slice none 0 0] 27)
  have r4 := (Blk.new (w.alloc (.cells #[.int .i64 L, .int .i64 T, .int .i64 Y, .slice A' n' c'] 27)) #[.int .i64 0, .int .i64 0, .int .i64 0, .slice none 0 0] 27).at_ (q := w.heap.size + 1) (by simp)
  have hR1 := (h.alloc hB (.cells #[.int .i64 L, .int .i64 T, .int .i64 Y, .slice A' n' c'] 27)).alloc (by simp; omega) (.cells #[.int .i64 0, .int .i64 0, .int .i64 0, .slice none 0 0] 27)
  have hR2 := (h'.alloc hB' (.cells #[.int .i64 L, .int .i64 T, .int .i64 Y, .slice A' n' c'] 27)).alloc (by simp; omega) (.cells #[.int .i64 0, .int .i64 0, .int .i64 0, .slice none 0 0] 27)
  have hsz := HB.size
  have hz3 := x3.lt
  have hz4 := r4.lt
  have ex0 := x3.cell 0
  have ex1 := x3.cell 1
  have ex2 := x3.cell 2
  have ex3 := x3.cell 3
  go_enter Try.func19, Try.ntmps19
  go_wp2_with fail
  generalize (w.alloc (.cells #[.int .i64 L, .int .i64 T, .int .i64 Y, .slice A' n' c'] 27)).alloc (.cells #[.int .i64 0, .int .i64 0, .int .i64 0, .slice none 0 0] 27) = W1 at *
  refine (l7Bath_any A n c B xs L T Y A' n' c' B' ys _ hR1 (by omega) hR2 (by omega)).mono ?_
  rintro e w2 ⟨rfl, hb⟩
  clear ex0 ex1 ex2 ex3
  replace x3 := x3.all hb
  replace r4 := r4.all hb
  replace hR1 := hR1.all hb (by omega)
  replace hR2 := hR2.all hb (by omega)
  replace HB := HB.trans (hb.mono hsz)
  replace hsz := HB.size
  replace hz3 := x3.lt
  replace hz4 := r4.lt
  clear hb
  have ex0 := x3.cell 0
  have ex1 := x3.cell 1
  have ex2 := x3.cell 2
  have ex3 := x3.cell 3
  cases hg : bathB xs L T Y ys
  case false =>
    have HD := Lib.hid (add_no (add_bad1 (s := s) (v := v) hg))
    have HDB := Lib.hid (add_bad1 (s := s) (v := v) hg)
    clear hg
    have er0 := r4.cell 0
    have fr0 := r4.frozen 0
    have er1 := r4.cell 1
    have fr1 := r4.frozen 1
    have er2 := r4.cell 2
    have fr2 := r4.frozen 2
    have er3 := r4.cell 3
    have fr3 := r4.frozen 3
    go_wp2
    have F4 := fin4 (p := w.heap.size + 1) (a := .int .i64 0) (b := .int .i64 0) (c := .int .i64 0) (d := .slice none 0 0) (Own.nil w2 w.heap.size) (by simp [Value.ownBlock]) HB (by omega)
    have R5 := r4.put4t (a' := .int .i64 0) (b' := .int .i64 0) (c' := .int .i64 0) (d' := .slice none 0 0)
    have q0 := R5.cell 0
    have q1 := R5.cell 1
    have q2 := R5.cell 2
    have q3 := R5.cell 3
    refine bodyPost_ret (v := .tuple #[bathV 0 0 0 (.slice none 0 0), .bool false]) (by simp [results, Try.results19, go_sem, q0, q1, q2, q3]) rfl ?_
    unfold OutBath
    rw [HD.out.1, HD.out.1, HD.out.1, HD.out.2, HDB.out]
    exact ⟨none, 0, rfl, F4.1, F4.2⟩
  have HG := Lib.hid hg
  clear hg
  cases hv : gramB v
  case false =>
    have HD := Lib.hid (add_no (add_bad2 (xs := xs) (L := L) (T := T) (Y := Y) (ys := ys) (s := s) hv))
    have HDB := Lib.hid (add_bad2 (xs := xs) (L := L) (T := T) (Y := Y) (ys := ys) (s := s) hv)
    have er0 := r4.cell 0
    have fr0 := r4.frozen 0
    have er1 := r4.cell 1
    have fr1 := r4.frozen 1
    have er2 := r4.cell 2
    have fr2 := r4.frozen 2
    have er3 := r4.cell 3
    have fr3 := r4.frozen 3
    go_wp2_with ((go_at_call 32; (with_reducible refine (l7Grams_any _ _).mono ?_); rintro e w' ⟨rfl, rfl⟩))
    clear hv
    clear er0 fr0 er1 fr1 er2 fr2 er3 fr3
    have er0 := r4.cell 0
    have fr0 := r4.frozen 0
    have er1 := r4.cell 1
    have fr1 := r4.frozen 1
    have er2 := r4.cell 2
    have fr2 := r4.frozen 2
    have er3 := r4.cell 3
    have fr3 := r4.frozen 3
    have F4 := fin4 (p := w.heap.size + 1) (a := .int .i64 0) (b := .int .i64 0) (c := .int .i64 0) (d := .slice none 0 0) (Own.nil w2 w.heap.size) (by simp [Value.ownBlock]) HB (by omega)
    have R5 := r4.put4t (a' := .int .i64 0) (b' := .int .i64 0) (c' := .int .i64 0) (d' := .slice none 0 0)
    have q0 := R5.cell 0
    have q1 := R5.cell 1
    have q2 := R5.cell 2
    have q3 := R5.cell 3
    refine bodyPost_ret (v := .tuple #[bathV 0 0 0 (.slice none 0 0), .bool false]) (by simp [results, Try.results19, go_sem, q0, q1, q2, q3]) rfl ?_
    unfold OutBath
    rw [HD.out.1, HD.out.1, HD.out.1, HD.out.2, HDB.out]
    exact ⟨none, 0, rfl, F4.1, F4.2⟩
  have hv2 := inB_yes hv
  have HLen := Lib.hid h'.len
  obtain rfl := h.len
  obtain ⟨hr, hle, hgr, ⟨hL0, hL1⟩, ⟨hT0, hT1⟩, hY0, hY1⟩ := bath_of HG.out
  have hn6 := rec_len hr
  obtain rfl : n' = xs.length := by rw [← HLen.out, hle]
  have HR := Lib.hid hr
  have HGR := Lib.hid hgr
  clear hle hr hgr
  obtain ⟨b, off, rfl, _, _⟩ := h'.cells (by omega)
  have x6 := Blk.new w2 #[.int .i64 L, .int .i64 T, .int .i64 Y, .slice (some ⟨b, off, none⟩) xs.length c'] 27
  have x3a := x3.alloc (.cells #[.int .i64 L, .int .i64 T, .int .i64 Y, .slice (some ⟨b, off, none⟩) xs.length c'] 27)
  have r4a := r4.alloc (.cells #[.int .i64 L, .int .i64 T, .int .i64 Y, .slice (some ⟨b, off, none⟩) xs.length c'] 27)
  have hR2a := hR2.alloc (by omega) (.cells #[.int .i64 L, .int .i64 T, .int .i64 Y, .slice (some ⟨b, off, none⟩) xs.length c'] 27)
  have HBa := HB.alloc hsz (.cells #[.int .i64 L, .int .i64 T, .int .i64 Y, .slice (some ⟨b, off, none⟩) xs.length c'] 27)
  go_wp2_with ((go_at_call 32; (with_reducible refine (l7Grams_any _ _).mono ?_); rintro e w' ⟨rfl, rfl⟩))
  clear ex0 ex1 ex2 ex3
  clear hR1 hR2 x3 r4 HB hv
  have hsz := HBa.size
  have hz3 := x3a.lt
  have hz4 := r4a.lt
  have hz6 := x6.lt
  generalize w2.alloc (.cells #[.int .i64 L, .int .i64 T, .int .i64 Y, .slice (some ⟨b, off, none⟩) xs.length c'] 27) = W5 at *
  obtain ⟨P6, hP6⟩ : ∃ P6, w2.heap.size = P6 := ⟨_, rfl⟩
  rw [hP6] at x6 hz6 ⊢
  have hP0 : w.heap.size + 1 < P6 := by omega
  clear hP6
  refine (l1Own_any _ _ c' B' ys _ hR2a (by omega) (by omega)).mono ?_
  rintro e w6 ⟨A4, c4, rfl, own, hb⟩
  have r4 := r4a.all hb
  have x6 := x6.all hb
  have HB := HBa.trans (hb.mono hsz)
  obtain ⟨g, rfl, hg1, hg2⟩ := own.some_ (by rw [HLen.out]; omega)
  rw [HLen.out] at own ⊢
  have hgx : g ≠ w.heap.size + 1 := by omega
  have hg6 : g ≠ P6 := by omega
  have hg0 : w.heap.size ≤ g := by omega
  have HO := own.mono hsz
  have e63 := x6.cell 3
  have f63 := x6.frozen 3
  clear hb r4a HBa x3a hR2a hsz hz3 hz4 own
  have own := HO.far (a := ⟨P6, 3, none⟩) (by simp [Value.ownBlock]; exact hg6) (.slice (some ⟨g, 0, none⟩) xs.length c4)
  have r4 := r4.far (a := ⟨P6, 3, none⟩) (by show w.heap.size + 1 ≠ P6; omega) (.slice (some ⟨g, 0, none⟩) xs.length c4)
  have HB := HB.setCell (p := ⟨P6, 3, none⟩) (by show w.heap.size ≤ P6; omega) (.slice (some ⟨g, 0, none⟩) xs.length c4)
  have x6 : Blk (w6.setCell ⟨P6, 3, none⟩ (.slice (some ⟨g, 0, none⟩) xs.length c4)) P6 27 #[.int .i64 L, .int .i64 T, .int .i64 Y, .slice (some ⟨g, 0, none⟩) xs.length c4] := by have := x6.set_ 3 (.slice (some ⟨g, 0, none⟩) xs.length c4); simpa using this
  go_wp2
  clear e63 f63 HO
  go_loopw [12, 11] (fun i r wr => ∃ (k : Nat) (zs : List Int) (fb : Bool), k ≤ xs.length ∧ i = .int .i64 k ∧ r = .bool fb ∧ Hid ((fb = false ∧ NoN xs s k ∧ zs = ys) ∨ (∃ j x, j < k ∧ fb = true ∧ posS xs s = some j ∧ ys[j]? = some x ∧ zs = ys.set j (x + v))) ∧ Hid (zs.length = xs.length) ∧ Own wr w.heap.size (.slice (some ⟨g, 0, none⟩) xs.length c4) zs ∧ Blk wr P6 27 #[.int .i64 L, .int .i64 T, .int .i64 Y, .slice (some ⟨g, 0, none⟩) xs.length c4] ∧ Blk wr (w.heap.size + 1) 27 #[.int .i64 0, .int .i64 0, .int .i64 0, .slice none 0 0] ∧ Below w.heap.size w wr) (fun i _ _ => xs.length - (intOf i).toNat)
  case atStart => exact ⟨0, ys, false, Nat.zero_le _, rfl, rfl, Or.inl ⟨rfl, noN_zero _ _, rfl⟩, HLen, own, x6, r4, HB⟩
  case round =>
    clear own x6 r4 HB
    obtain ⟨k, zs, fb, hk, rfl, rfl, HI, HZ, own, x6, r4, HB⟩ := hrel
    have hsz := HB.size
    by_cases hlt : k < xs.length
    · obtain ⟨b2, off2, a, rfl, hbB, ha0, HA, hc0, hc1⟩ := DyePartR_at (F := dyePartF) rfl (fun _ => rfl) (fun _ => rfl) (h.all HB hB) hlt
      have hki : (0 : Int) ≤ (k : Int) := by omega
      have hkn : (k : Int) < (xs.length : Int) := by omega
      cases hnm : (a.f0.toList == s.toList) with
      | false =>
        have HN := Lib.hid (show nameB s a = false from hnm)
        have HI2 : Hid ((fb = false ∧ NoN xs s (k + 1) ∧ zs = ys) ∨ (∃ j x, j < k + 1 ∧ fb = true ∧ posS xs s = some j ∧ ys[j]? = some x ∧ zs = ys.set j (x + v))) := by
          rcases HI.out with ⟨h1, h2, h3⟩ | ⟨j, x, h1, h2⟩
          · exact Or.inl ⟨h1, noN_step h2 HA.out HN.out, h3⟩
          · exact Or.inr ⟨j, x, by omega, h2⟩
        go_wp2
        go_roundw
        case rel => exact ⟨k + 1, zs, fb, by omega, by go_num, rfl, HI2, HZ, own, x6, r4, HB⟩
        case measure => simp [intOf]; omega
      | true =>
        have HN := Lib.hid (show nameB s a = true from hnm)
        have hfb : fb = false ∧ NoN xs s k ∧ zs = ys := by
          rcases HI.out with hh | ⟨j, x, h1, _, h3, _⟩
          · exact hh
          · exfalso
            obtain ⟨p, hp, hpn, _⟩ := posS_of h3
            have e1 : p.f0.toList = s.toList := by simpa [nameB] using hpn
            have e2 : a.f0.toList = s.toList := by simpa using hnm
            have := rec_inj (recB_of HR.out) hp HA.out (e1.trans e2.symm)
            omega
        obtain ⟨hf1, hf2, hf3⟩ := hfb
        have HP := Lib.hid (posS_some HA.out HN.out hf2)
        obtain ⟨x, HX⟩ : ∃ x, Hid (ys[k]? = some x) := ⟨_, List.getElem?_eq_getElem (by rw [HLen.out]; exact hlt)⟩
        have hx := grams_at HGR.out HX.out
        have hxc : wr.cell? ⟨g, k, none⟩ = some (.int .i64 x) := own_at own (by rw [HZ.out]; exact hlt) (by rw [hf3, List.getD_eq_getElem?_getD, HX.out]; rfl)
        obtain ⟨hsf, H1, H2⟩ := own_put own k (x + v) ⟨by omega, by omega⟩
        have HF3 := Lib.hid hf3
        have HZ2 : Hid ((zs.set k (x + v)).length = xs.length) := by show _ = _; rw [List.length_set]; exact HZ.out
        have x6' := x6.mark H2 (fun q hq => by cases hq; exact hg6)
        have r4' := r4.mark H2 (fun q hq => by cases hq; exact hgx)
        have HB' := HB.grown H2 hsz (fun q hq => by cases hq; exact hg0)
        have ew : IntKind.i64.wrap (x + v) = x + v := IntWalk.i64_in _ (by omega)
        have e63 := x6.cell 3
        clear hf1 hf2 hf3
        go_wp2
        go_region
        all_goals
          clear ew
          go_wp2
          go_roundw
          case rel => exact ⟨k + 1, zs.set k (x + v), true, by omega, by go_num, rfl, Or.inr ⟨k, x, by omega, rfl, HP.out, HX.out, by rw [HF3.out]⟩, HZ2, by first | exact H1 | exact H1.drew, by first | exact x6' | exact x6'.drew, by first | exact r4' | exact r4'.drew, by first | exact HB' | exact belowD HB'⟩
          case measure => simp [intOf]; omega
    · obtain rfl : k = xs.length := by omega
      rcases HI.out with ⟨h1, h2, h3⟩ | ⟨j, x, h1, h2, h3, h4, h5⟩
      · subst h1
        have HD := Lib.hid (add_no (add_bad3 (L := L) (T := T) (Y := Y) (ys := ys) (v := v) (posS_none h2)))
        have HDB := Lib.hid (add_bad3 (L := L) (T := T) (Y := Y) (ys := ys) (v := v) (posS_none h2))
        have hz4 := r4.lt
        clear h2
        have er0 := r4.cell 0
        have fr0 := r4.frozen 0
        have er1 := r4.cell 1
        have fr1 := r4.frozen 1
        have er2 := r4.cell 2
        have fr2 := r4.frozen 2
        have er3 := r4.cell 3
        have fr3 := r4.frozen 3
        go_wp2
        have F4 := fin4 (p := w.heap.size + 1) (a := .int .i64 0) (b := .int .i64 0) (c := .int .i64 0) (d := .slice none 0 0) (Own.nil wr w.heap.size) (by simp [Value.ownBlock]) HB (by omega)
        have R5 := r4.put4t (a' := .int .i64 0) (b' := .int .i64 0) (c' := .int .i64 0) (d' := .slice none 0 0)
        have q0 := R5.cell 0
        have q1 := R5.cell 1
        have q2 := R5.cell 2
        have q3 := R5.cell 3
        refine bodyPost_ret (v := .tuple #[bathV 0 0 0 (.slice none 0 0), .bool false]) (by simp [results, Try.results19, go_sem, q0, q1, q2, q3]) rfl ?_
        unfold OutBath
        rw [HD.out.1, HD.out.1, HD.out.1, HD.out.2, HDB.out]
        exact ⟨none, 0, rfl, F4.1, F4.2⟩
      · subst h2
        have HADD := Lib.hid (add_at HG.out (show gramB v = true from decide_eq_true hv2) h3 h4)
        rw [← h5] at HADD
        have hz4 := r4.lt
        clear h1 h3 h4 h5
        have hR1 := h.all HB hB
        have ey0 := x6.cell 0
        have ey1 := x6.cell 1
        have ey2 := x6.cell 2
        have ey3 := x6.cell 3
        go_wp2_with fail
        refine (l7Bath_any A _ c B xs L T Y (some ⟨g, 0, none⟩) xs.length c4 _ zs _ hR1 (by omega) (own.rd) (Nat.le_refl _)).mono ?_
        rintro e w7 ⟨rfl, hb⟩
        clear ey0 ey1 ey2 ey3
        replace r4 := r4.all hb
        replace x6 := x6.all hb
        replace own := own.all hb
        replace HB := HB.trans (hb.mono hsz)
        replace hsz := HB.size
        replace hz4 := r4.lt
        clear hb hR1
        cases hbb : bathB xs L T Y zs
        case false =>
          have HDB := Lib.hid (HADD.out.1.trans hbb)
          have HD := Lib.hid (add_no HDB.out)
          clear hbb
          have er0 := r4.cell 0
          have fr0 := r4.frozen 0
          have er1 := r4.cell 1
          have fr1 := r4.frozen 1
          have er2 := r4.cell 2
          have fr2 := r4.frozen 2
          have er3 := r4.cell 3
          have fr3 := r4.frozen 3
          go_wp2
          have F4 := fin4 (p := w.heap.size + 1) (a := .int .i64 0) (b := .int .i64 0) (c := .int .i64 0) (d := .slice none 0 0) (Own.nil w7 w.heap.size) (by simp [Value.ownBlock]) HB (by omega)
          have R5 := r4.put4t (a' := .int .i64 0) (b' := .int .i64 0) (c' := .int .i64 0) (d' := .slice none 0 0)
          have q0 := R5.cell 0
          have q1 := R5.cell 1
          have q2 := R5.cell 2
          have q3 := R5.cell 3
          refine bodyPost_ret (v := .tuple #[bathV 0 0 0 (.slice none 0 0), .bool false]) (by simp [results, Try.results19, go_sem, q0, q1, q2, q3]) rfl ?_
          unfold OutBath
          rw [HD.out.1, HD.out.1, HD.out.1, HD.out.2, HDB.out]
          exact ⟨none, 0, rfl, F4.1, F4.2⟩
        have HDB := Lib.hid (HADD.out.1.trans hbb)
        have HD := Lib.hid (add_yes HDB.out)
        have HAV := Lib.hid HADD.out.2
        have HLS := HZ
        clear hbb
        have ey0 := x6.cell 0
        have ey1 := x6.cell 1
        have ey2 := x6.cell 2
        have ey3 := x6.cell 3
        have er0 := r4.cell 0
        have fr0 := r4.frozen 0
        have er1 := r4.cell 1
        have fr1 := r4.frozen 1
        have er2 := r4.cell 2
        have fr2 := r4.frozen 2
        have er3 := r4.cell 3
        have fr3 := r4.frozen 3
        go_wp2
        have F4 := fin4 (p := w.heap.size + 1) (a := .int .i64 L) (b := .int .i64 T) (c := .int .i64 Y) (d := .slice (some ⟨g, 0, none⟩) xs.length c4) own (row_ne' own.1 r4 (by decide)) HB (by omega)
        have R5 := r4.put4t (a' := .int .i64 L) (b' := .int .i64 T) (c' := .int .i64 Y) (d' := .slice (some ⟨g, 0, none⟩) xs.length c4)
        have q0 := R5.cell 0
        have q1 := R5.cell 1
        have q2 := R5.cell 2
        have q3 := R5.cell 3
        refine bodyPost_ret (v := .tuple #[bathV L T Y (.slice (some ⟨g, 0, none⟩) xs.length c4), .bool true]) (by simp [results, Try.results19, go_sem, q0, q1, q2, q3]) rfl ?_
        unfold OutBath
        rw [HD.out.1, HD.out.1, HD.out.1, HD.out.2, HDB.out, HAV.out, HLS.out]
        exact ⟨_, _, rfl, F4.1, F4.2⟩
end Go.Proofs.Ytjlidgeeehlkcaa
