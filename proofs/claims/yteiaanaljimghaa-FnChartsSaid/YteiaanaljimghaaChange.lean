/- The walks of ChangeColor, the program's and the model's. No condition. -/
import Derived.Test.YteiaanaljimghaaChart
import Derived.Test.YteiaanaljimghaaCopy
namespace Go.Proofs.Yteiaanaljimghaa
open Go.RowKit

def changeOk (W H : Int) (xs : List Int) (f t : Int) : Bool := goodB W H xs && isColorB f && isColorB t
def chg (f t x : Int) : Int := if x = f then t else x
def changeL (W H : Int) (xs : List Int) (f t : Int) : List Int := if changeOk W H xs f t = true then xs.map (chg f t) else []
theorem change_no {W H : Int} {xs : List Int} {f t : Int} (h : ¬ changeOk W H xs f t = true) : goodB W H xs = false ∨ (goodB W H xs = true ∧ isColorB f = false) ∨ (goodB W H xs = true ∧ isColorB f = true ∧ isColorB t = false) := by
  simp only [changeOk] at h
  cases h1 : goodB W H xs <;> cases h2 : isColorB f <;> cases h3 : isColorB t <;> simp_all
theorem change_yes {W H : Int} {xs : List Int} {f t : Int} (h : changeOk W H xs f t = true) : goodB W H xs = true ∧ isColorB f = true ∧ isColorB t = true := by
  simp only [changeOk, Bool.and_eq_true] at h
  exact ⟨h.1.1, h.1.2, h.2⟩
theorem changeL_len (W H : Int) (xs : List Int) (f t : Int) : (changeL W H xs f t).length ≤ 1048576 := by
  unfold changeL
  split
  · rename_i h; have := (good_bd (change_yes h).1).1; rw [List.length_map]; omega
  · simp
/-- The first k numbers changed. -/
def mixL (f : Int → Int) (k : Nat) (xs : List Int) : List Int := (xs.take k).map f ++ xs.drop k
theorem mixL_len (f : Int → Int) (k : Nat) (xs : List Int) : (mixL f k xs).length = xs.length := by simp [mixL]; omega
theorem mixL_get {f : Int → Int} {k : Nat} {xs : List Int} (h : k < xs.length) : (mixL f k xs).getD k 0 = xs.getD k 0 := by
  rw [List.getD_eq_getElem?_getD, List.getD_eq_getElem?_getD, mixL, List.getElem?_append_right (by simp; omega), List.getElem?_drop]
  simp [Nat.min_eq_left (Nat.le_of_lt h)]
theorem mixL_step {f : Int → Int} {k : Nat} {xs : List Int} {x : Int} (h : k < xs.length) (hx : xs.getD k 0 = x) : (mixL f k xs).set k (f x) = mixL f (k + 1) xs := by
  unfold mixL
  rw [List.set_append, if_neg (by simp; omega), List.length_map, List.length_take, Nat.min_eq_left (Nat.le_of_lt h), Nat.sub_self, List.take_succ_eq_append_getElem h, List.map_append, ← getD_at h, hx, List.drop_eq_getElem_cons h, List.set_cons_zero, List.append_assoc]
  rfl
theorem mixL_same {f : Int → Int} {k : Nat} {xs : List Int} {x : Int} (h : k < xs.length) (hx : xs.getD k 0 = x) (hf : f x = x) : mixL f k xs = mixL f (k + 1) xs := by
  unfold mixL
  rw [List.take_succ_eq_append_getElem h, List.map_append, ← getD_at h, hx, List.drop_eq_getElem_cons h, ← getD_at h, hx]
  simp [hf]
theorem mixL_end {f : Int → Int} {k : Nat} {xs : List Int} (h : xs.length ≤ k) : mixL f k xs = xs.map f := by
  unfold mixL
  rw [List.take_of_length_le h, List.drop_of_length_le h, List.append_nil]

set_option maxRecDepth 100000 in
set_option maxHeartbeats 1000000 in
theorem implChangeColor_no (W H : Int) (A : Option Addr) (n c B : Nat) (xs : List Int) (f t : Int) (w : World) (h : Rd w B A n c xs) (hB : B ≤ w.heap.size) (hno : ¬ changeOk W H xs f t = true) :
    Calls Try.prog 21 #[chartV W H (.slice A n c), .int .i64 f, .int .i64 t] w (OutChart w 0 0 [] false) := by
  have hb0 := Lib.hid (((Below.refl w.heap.size w).alloc (Nat.le_refl _) (.cells #[.int .i64 W, .int .i64 H, .slice A n c] 26)).alloc (by simp) (.cells #[.int .i64 0, .int .i64 0, .slice none 0 0] 26))
  have h' := Lib.hid ((h.alloc hB (.cells #[.int .i64 W, .int .i64 H, .slice A n c] 26)).alloc (by simp; omega) (.cells #[.int .i64 0, .int .i64 0, .slice none 0 0] 26))
  have r0 := (Blk.new (w.alloc (.cells #[.int .i64 W, .int .i64 H, .slice A n c] 26)) #[.int .i64 0, .int .i64 0, .slice none 0 0] 26)
  clear h
  rcases change_no hno with h1 | ⟨h1, h2⟩ | ⟨h1, h2, h3⟩
  all_goals
    go_enter Try.func21, Try.ntmps21
    go_wp2_with fail
    refine (implIsChart_any W H A n c B xs _ h'.out (by simp; omega)).mono ?_
    rintro e w1 ⟨rfl, hb⟩
    have r1 := (r0.all hb).at_ (q := w.heap.size + 1) (by simp)
    have HB := Lib.hid (hb0.out.trans (hb.mono (by simp; omega)))
    have g0 := r1.cell 0
    have g1 := r1.cell 1
    have g2 := r1.cell 2
    have z0 := r1.frozen 0
    have z1 := r1.frozen 1
    have z2 := r1.frozen 2
    clear hb r0
    rw [h1]
    go_wp2_with (go_at_call 47; refine (isColor_any _ _).mono ?_; rintro e w' ⟨rfl, rfl⟩)
    have F := fin3 (p := w.heap.size + 1) (a := .int .i64 0) (b := .int .i64 0) (c := .slice none 0 0) (Own.nil w1 w.heap.size) (by simp [Value.ownBlock]) HB.out (by omega)
    exact bodyPost_ret (v := .tuple #[chartV 0 0 (.slice none 0 0), .bool false]) (by simp [results, Try.results21, go_sem, g0, g1, g2]) rfl ⟨none, 0, rfl, F.1, F.2⟩
set_option maxRecDepth 100000 in
set_option maxHeartbeats 1000000 in
theorem implChangeColor_yes (W H : Int) (A : Option Addr) (n c B : Nat) (xs : List Int) (f t : Int) (w : World) (h : Rd w B A n c xs) (hB : B ≤ w.heap.size) (hok : changeOk W H xs f t = true) :
    Calls Try.prog 21 #[chartV W H (.slice A n c), .int .i64 f, .int .i64 t] w (OutChart w W H (xs.map (chg f t)) true) := by
  have hb0 := Lib.hid (((Below.refl w.heap.size w).alloc (Nat.le_refl _) (.cells #[.int .i64 W, .int .i64 H, .slice A n c] 26)).alloc (by simp) (.cells #[.int .i64 0, .int .i64 0, .slice none 0 0] 26))
  have h' := Lib.hid ((h.alloc hB (.cells #[.int .i64 W, .int .i64 H, .slice A n c] 26)).alloc (by simp; omega) (.cells #[.int .i64 0, .int .i64 0, .slice none 0 0] 26))
  have r0 := (Blk.new (w.alloc (.cells #[.int .i64 W, .int .i64 H, .slice A n c] 26)) #[.int .i64 0, .int .i64 0, .slice none 0 0] 26)
  have x0 := (Blk.new w #[.int .i64 W, .int .i64 H, .slice A n c] 26).alloc (.cells #[.int .i64 0, .int .i64 0, .slice none 0 0] 26)
  obtain ⟨h1, h2, h3⟩ := change_yes hok
  obtain ⟨h64, hl1, hcol⟩ := good_bd h1
  have ht6 := isColorB_yes h3
  obtain rfl := h.len
  clear h
  go_enter Try.func21, Try.ntmps21
  go_wp2_with fail
  refine (implIsChart_any W H A _ c B xs _ h'.out (by simp; omega)).mono ?_
  rintro e w1 ⟨rfl, hb⟩
  have r1 := (r0.all hb).at_ (q := w.heap.size + 1) (by simp)
  have x1 := x0.all hb
  have R1 := h'.out.all hb (by simp; omega)
  have HB := Lib.hid (hb0.out.trans (hb.mono (by simp; omega)))
  have hs1 : w.heap.size + 2 ≤ w1.heap.size := by have := hb.size; simp at this; omega
  have e0 := x1.cell 0
  have e1 := x1.cell 1
  have e2 := x1.cell 2
  clear hb r0 x0 h'
  rw [h1]
  go_wp2_with (go_at_call 47; refine (isColor_any _ _).mono ?_; rintro e w' ⟨rfl, rfl⟩)
  refine (copyChart_any W H A _ c B xs _ R1 (by omega) (by omega)).mono ?_
  rintro e w2 ⟨A', c', rfl, own, hb⟩
  obtain ⟨g, rfl, hg1, hg2⟩ := own.some_ (by omega)
  have r2 := r1.all hb
  replace HB := Lib.hid (HB.out.trans (hb.mono (by omega)))
  have hs2 : w1.heap.size ≤ w2.heap.size := hb.size
  clear hb r1 x1 R1 e0 e1 e2
  go_wp2
  have own0 := own.alloc (.cells #[.int .i64 W, .int .i64 H, .slice (some ⟨g, 0, none⟩) xs.length c'] 26)
  go_loopw [30, 9, 10] (fun i i9 i10 wr => ∃ j : Nat, j ≤ xs.length ∧ i = .int .i64 j ∧ Own wr w.heap.size (.slice (some ⟨g, 0, none⟩) xs.length c') (mixL (chg f t) j xs) ∧
      Blk wr (w.heap.size + 1) 26 #[.int .i64 0, .int .i64 0, .slice none 0 0] ∧ Blk wr w2.heap.size 26 #[.int .i64 W, .int .i64 H, .slice (some ⟨g, 0, none⟩) xs.length c'] ∧ Below w.heap.size w wr)
    (fun i _ _ _ => xs.length - (intOf i).toNat)
  case atStart => exact ⟨0, Nat.zero_le _, rfl, by simpa [mixL] using own0.mono (by omega), r2.alloc _, Blk.new _ _ _, HB.out.alloc (by omega) _⟩
  case round =>
    obtain ⟨j, hj, rfl, ho, r3, x3, hbl⟩ := hrel
    have HB := Lib.hid hbl
    have f2 := x3.cell 2
    clear hbl
    by_cases hlt : j < xs.length
    · obtain ⟨x, HX⟩ : ∃ x, Hid (xs.getD j 0 = x) := ⟨_, rfl⟩
      have hx := own_at ho (by rw [mixL_len]; exact hlt) ((mixL_get hlt).trans HX.out)
      have hxx : 0 ≤ x ∧ x < 6 := by rw [← HX.out, getD_at hlt]; exact hcol _ (List.getElem_mem hlt)
      by_cases hq : x = f
      · have HY := Lib.hid (mixL_step (f := chg f t) hlt HX.out)
        rw [show chg f t x = t from if_pos hq] at HY
        obtain ⟨hz, hput, hgr⟩ := own_put ho j t ⟨by omega, by omega⟩
        have r4 := r3.mark hgr (fun k hk => by cases hk; omega)
        have x4 := x3.mark hgr (fun k hk => by cases hk; omega)
        subst hq
        go_wp2
        go_roundw
        case rel => exact ⟨j + 1, by omega, by go_num, by rw [← HY.out]; exact hput, r4, x4, HB.out.setCell (p := ⟨g, j, none⟩) (show w.heap.size ≤ g by omega) _⟩
        case measure => simp [intOf]; omega
      · have HY := Lib.hid (mixL_same (f := chg f t) hlt HX.out (if_neg hq))
        have hq' : (x == f) = false := by simpa using hq
        go_wp2
        go_roundw
        case rel => exact ⟨j + 1, by omega, by go_num, by rw [← HY.out]; exact ho, r3, x3, HB.out⟩
        case measure => simp [intOf]; omega
    · rw [mixL_end (by omega)] at ho
      have f0 := x3.cell 0
      have f1 := x3.cell 1
      have g0 := r3.cell 0
      have g1 := r3.cell 1
      have g2 := r3.cell 2
      have z0 := r3.frozen 0
      have z1 := r3.frozen 1
      have z2 := r3.frozen 2
      have F := fin3 (p := w.heap.size + 1) (a := .int .i64 W) (b := .int .i64 H) (c := .slice (some ⟨g, 0, none⟩) xs.length c') ho (by simp [Value.ownBlock]; omega) HB.out (by omega)
      go_wp2
      exact bodyPost_ret (v := .tuple #[chartV W H (.slice (some ⟨g, 0, none⟩) xs.length c'), .bool true]) (by simp [results, Try.results21, go_sem, g0, g1, g2]) rfl ⟨_, c', by rw [List.length_map], by rw [List.length_map]; exact F.1, F.2⟩
set_option maxRecDepth 100000 in
set_option maxHeartbeats 1000000 in
theorem specChangeColor_no (W H : Int) (A : Option Addr) (n c B : Nat) (xs : List Int) (f t : Int) (w : World) (h : Rd w B A n c xs) (hB : B ≤ w.heap.size) (hno : ¬ changeOk W H xs f t = true) :
    Calls Try.prog 22 #[chartV W H (.slice A n c), .int .i64 f, .int .i64 t] w (OutChart w 0 0 [] false) := by
  have hb0 := Lib.hid (((Below.refl w.heap.size w).alloc (Nat.le_refl _) (.cells #[.int .i64 W, .int .i64 H, .slice A n c] 26)).alloc (by simp) (.cells #[.int .i64 0, .int .i64 0, .slice none 0 0] 26))
  have h' := Lib.hid ((h.alloc hB (.cells #[.int .i64 W, .int .i64 H, .slice A n c] 26)).alloc (by simp; omega) (.cells #[.int .i64 0, .int .i64 0, .slice none 0 0] 26))
  have r0 := (Blk.new (w.alloc (.cells #[.int .i64 W, .int .i64 H, .slice A n c] 26)) #[.int .i64 0, .int .i64 0, .slice none 0 0] 26)
  clear h
  rcases change_no hno with h1 | ⟨h1, h2⟩ | ⟨h1, h2, h3⟩
  all_goals
    go_enter Try.func22, Try.ntmps22
    go_wp2_with fail
    refine (l2Good_any W H A n c B xs _ h'.out (by simp; omega)).mono ?_
    rintro e w1 ⟨rfl, hb⟩
    have r1 := (r0.all hb).at_ (q := w.heap.size + 1) (by simp)
    have HB := Lib.hid (hb0.out.trans (hb.mono (by simp; omega)))
    have g0 := r1.cell 0
    have g1 := r1.cell 1
    have g2 := r1.cell 2
    have z0 := r1.frozen 0
    have z1 := r1.frozen 1
    have z2 := r1.frozen 2
    clear hb r0
    rw [h1]
    go_wp2_with (go_at_call 54; refine (l2Color_any _ _).mono ?_; rintro e w' ⟨rfl, rfl⟩)
    have F := fin3 (p := w.heap.size + 1) (a := .int .i64 0) (b := .int .i64 0) (c := .slice none 0 0) (Own.nil w1 w.heap.size) (by simp [Value.ownBlock]) HB.out (by omega)
    exact bodyPost_ret (v := .tuple #[chartV 0 0 (.slice none 0 0), .bool false]) (by simp [results, Try.results22, go_sem, g0, g1, g2]) rfl ⟨none, 0, rfl, F.1, F.2⟩
set_option maxRecDepth 100000 in
set_option maxHeartbeats 1000000 in
theorem specChangeColor_yes (W H : Int) (A : Option Addr) (n c B : Nat) (xs : List Int) (f t : Int) (w : World) (h : Rd w B A n c xs) (hB : B ≤ w.heap.size) (hok : changeOk W H xs f t = true) :
    Calls Try.prog 22 #[chartV W H (.slice A n c), .int .i64 f, .int .i64 t] w (OutChart w W H (xs.map (chg f t)) true) := by
  have hb0 := Lib.hid (((Below.refl w.heap.size w).alloc (Nat.le_refl _) (.cells #[.int .i64 W, .int .i64 H, .slice A n c] 26)).alloc (by simp) (.cells #[.int .i64 0, .int .i64 0, .slice none 0 0] 26))
  have h' := Lib.hid ((h.alloc hB (.cells #[.int .i64 W, .int .i64 H, .slice A n c] 26)).alloc (by simp; omega) (.cells #[.int .i64 0, .int .i64 0, .slice none 0 0] 26))
  have r0 := (Blk.new (w.alloc (.cells #[.int .i64 W, .int .i64 H, .slice A n c] 26)) #[.int .i64 0, .int .i64 0, .slice none 0 0] 26)
  have x0 := (Blk.new w #[.int .i64 W, .int .i64 H, .slice A n c] 26).alloc (.cells #[.int .i64 0, .int .i64 0, .slice none 0 0] 26)
  obtain ⟨h1, h2, h3⟩ := change_yes hok
  obtain ⟨h64, hl1, hcol⟩ := good_bd h1
  have ht6 := isColorB_yes h3
  obtain rfl := h.len
  clear h
  go_enter Try.func22, Try.ntmps22
  go_wp2_with fail
  refine (l2Good_any W H A _ c B xs _ h'.out (by simp; omega)).mono ?_
  rintro e w1 ⟨rfl, hb⟩
  have r1 := (r0.all hb).at_ (q := w.heap.size + 1) (by simp)
  have x1 := x0.all hb
  have R1 := h'.out.all hb (by simp; omega)
  have HB := Lib.hid (hb0.out.trans (hb.mono (by simp; omega)))
  have hs1 : w.heap.size + 2 ≤ w1.heap.size := by have := hb.size; simp at this; omega
  have e0 := x1.cell 0
  have e1 := x1.cell 1
  have e2 := x1.cell 2
  clear hb r0 x0 h'
  rw [h1]
  go_wp2_with (go_at_call 54; refine (l2Color_any _ _).mono ?_; rintro e w' ⟨rfl, rfl⟩)
  refine (l2Own_any W H A _ c B xs _ R1 (by omega) (by omega)).mono ?_
  rintro e w2 ⟨A', c', rfl, own, hb⟩
  obtain ⟨g, rfl, hg1, hg2⟩ := own.some_ (by omega)
  have r2 := r1.all hb
  replace HB := Lib.hid (HB.out.trans (hb.mono (by omega)))
  have hs2 : w1.heap.size ≤ w2.heap.size := hb.size
  clear hb r1 x1 R1 e0 e1 e2
  go_wp2
  have own0 := own.alloc (.cells #[.int .i64 W, .int .i64 H, .slice (some ⟨g, 0, none⟩) xs.length c'] 26)
  go_loopw [9] (fun i wr => ∃ j : Nat, j ≤ xs.length ∧ i = .int .i64 j ∧ Own wr w.heap.size (.slice (some ⟨g, 0, none⟩) xs.length c') (mixL (chg f t) j xs) ∧
      Blk wr (w.heap.size + 1) 26 #[.int .i64 0, .int .i64 0, .slice none 0 0] ∧ Blk wr w2.heap.size 26 #[.int .i64 W, .int .i64 H, .slice (some ⟨g, 0, none⟩) xs.length c'] ∧ Below w.heap.size w wr)
    (fun i _ => xs.length - (intOf i).toNat)
  case atStart => exact ⟨0, Nat.zero_le _, rfl, by simpa [mixL] using own0.mono (by omega), r2.alloc _, Blk.new _ _ _, HB.out.alloc (by omega) _⟩
  case round =>
    obtain ⟨j, hj, rfl, ho, r3, x3, hbl⟩ := hrel
    have HB := Lib.hid hbl
    have f2 := x3.cell 2
    clear hbl
    by_cases hlt : j < xs.length
    · obtain ⟨x, HX⟩ : ∃ x, Hid (xs.getD j 0 = x) := ⟨_, rfl⟩
      have hx := own_at ho (by rw [mixL_len]; exact hlt) ((mixL_get hlt).trans HX.out)
      have hxx : 0 ≤ x ∧ x < 6 := by rw [← HX.out, getD_at hlt]; exact hcol _ (List.getElem_mem hlt)
      by_cases hq : x = f
      · have HY := Lib.hid (mixL_step (f := chg f t) hlt HX.out)
        rw [show chg f t x = t from if_pos hq] at HY
        obtain ⟨hz, hput, hgr⟩ := own_put ho j t ⟨by omega, by omega⟩
        have r4 := r3.mark hgr (fun k hk => by cases hk; omega)
        have x4 := x3.mark hgr (fun k hk => by cases hk; omega)
        subst hq
        go_wp2
        go_roundw
        case rel => exact ⟨j + 1, by omega, by go_num, by rw [← HY.out]; exact hput, r4, x4, HB.out.setCell (p := ⟨g, j, none⟩) (show w.heap.size ≤ g by omega) _⟩
        case measure => simp [intOf]; omega
      · have HY := Lib.hid (mixL_same (f := chg f t) hlt HX.out (if_neg hq))
        have hq' : (x == f) = false := by simpa using hq
        go_wp2
        go_roundw
        case rel => exact ⟨j + 1, by omega, by go_num, by rw [← HY.out]; exact ho, r3, x3, HB.out⟩
        case measure => simp [intOf]; omega
    · rw [mixL_end (by omega)] at ho
      have f0 := x3.cell 0
      have f1 := x3.cell 1
      have g0 := r3.cell 0
      have g1 := r3.cell 1
      have g2 := r3.cell 2
      have z0 := r3.frozen 0
      have z1 := r3.frozen 1
      have z2 := r3.frozen 2
      have F := fin3 (p := w.heap.size + 1) (a := .int .i64 W) (b := .int .i64 H) (c := .slice (some ⟨g, 0, none⟩) xs.length c') ho (by simp [Value.ownBlock]; omega) HB.out (by omega)
      go_wp2
      exact bodyPost_ret (v := .tuple #[chartV W H (.slice (some ⟨g, 0, none⟩) xs.length c'), .bool true]) (by simp [results, Try.results22, go_sem, g0, g1, g2]) rfl ⟨_, c', by rw [List.length_map], by rw [List.length_map]; exact F.1, F.2⟩

theorem implChangeColor_any (W H : Int) (A : Option Addr) (n c B : Nat) (xs : List Int) (f t : Int) (w : World) (h : Rd w B A n c xs) (hB : B ≤ w.heap.size) :
    Calls Try.prog 21 #[chartV W H (.slice A n c), .int .i64 f, .int .i64 t] w (OutChart w (orZero (changeOk W H xs f t) W) (orZero (changeOk W H xs f t) H) (changeL W H xs f t) (changeOk W H xs f t)) := by
  by_cases hk : changeOk W H xs f t = true
  · rw [show changeL W H xs f t = xs.map (chg f t) from if_pos hk, hk]; exact implChangeColor_yes W H A n c B xs f t w h hB hk
  · rw [show changeL W H xs f t = [] from if_neg hk, not_false hk]; exact implChangeColor_no W H A n c B xs f t w h hB hk
theorem specChangeColor_any (W H : Int) (A : Option Addr) (n c B : Nat) (xs : List Int) (f t : Int) (w : World) (h : Rd w B A n c xs) (hB : B ≤ w.heap.size) :
    Calls Try.prog 22 #[chartV W H (.slice A n c), .int .i64 f, .int .i64 t] w (OutChart w (orZero (changeOk W H xs f t) W) (orZero (changeOk W H xs f t) H) (changeL W H xs f t) (changeOk W H xs f t)) := by
  by_cases hk : changeOk W H xs f t = true
  · rw [show changeL W H xs f t = xs.map (chg f t) from if_pos hk, hk]; exact specChangeColor_yes W H A n c B xs f t w h hB hk
  · rw [show changeL W H xs f t = [] from if_neg hk, not_false hk]; exact specChangeColor_no W H A n c B xs f t w h hB hk
end Go.Proofs.Yteiaanaljimghaa
