/- The walk of the program's ShiftPhoto. No condition. -/
import Derived.Test.YtiglbidfjcjhgaaPhMath
import Derived.Test.YtiglbidfjcjhgaaPartners
import Derived.Test.YtiglbidfjcjhgaaPlain
import Derived.Test.YtiglbidfjcjhgaaFar3
import Derived.Test.YtiglbidfjcjhgaaWrongS
namespace Go.Proofs.Ytiglbidfjcjhgaa
open Go.RowKit

theorem partnersAt_len (m k b off c pm pk b' off' c' n : Nat) (xs ys : List Int) (d a : Int) (w : World) (hn : xs.length = n) (R : Rd w w.heap.size (some ⟨b, off, none⟩) n c xs) (S : Rd w w.heap.size (some ⟨b', off', none⟩) ys.length c' ys)
    (hm : 1 ≤ m) (hm8 : m ≤ 8) (h64 : n ≤ 64) (hp1 : 1 ≤ pm) (hp8 : pm ≤ 8) (hq1 : 1 ≤ pk) (hq8 : pk ≤ 8) (hs : shB d a = true) :
    Calls Try.prog 53 #[chartV m k (.slice (some ⟨b, off, none⟩) n c), chartV pm pk (.slice (some ⟨b', off', none⟩) ys.length c'), .agg #[.int .i64 d, .int .i64 a]] w (OwnPars w (pairsTo m pm pk d a n)) := by
  subst hn
  exact partnersAt_any m k b off c pm pk b' off' c' xs ys d a w R S hm hm8 h64 hp1 hp8 hq1 hq8 hs
set_option maxRecDepth 100000 in
set_option maxHeartbeats 8000000 in
theorem implShiftPhoto_any (V H : Int) (A : Option Addr) (n c B : Nat) (xs : List Int) (d a col : Int) (w : World) (h : Rd w B A n c xs) (hB : B ≤ w.heap.size) :
    Calls Try.prog 34 #[chartV V H (.slice A n c), .int .i64 d, .int .i64 a, .int .i64 col] w (OutChart w (orZero (phOk V H xs d a col) V) (orZero (phOk V H xs d a col) H) (phX V H xs d a col) (phOk V H xs d a col)) := by
  obtain rfl := h.len
  cases hok : phOk V H xs d a col with
  | false =>
    have HX := Lib.hid (phX_no hok)
    cases hg : goodB V H xs with
    | false =>
      have HB := Lib.hid (((Below.refl w.heap.size w).alloc (by first | (simp; done) | (simp; omega) | omega) (.cells #[.int .i64 V, .int .i64 H, .slice A xs.length c] 28)).alloc (by first | (simp; done) | (simp; omega) | omega) (.cells #[.int .i64 0, .int .i64 0, .slice none 0 0] 28))
      have R := (((h)).alloc (hB) (.cells #[.int .i64 V, .int .i64 H, .slice A xs.length c] 28)).alloc ((by first | (simp; done) | (simp; omega) | omega)) (.cells #[.int .i64 0, .int .i64 0, .slice none 0 0] 28)
      have x := ((Blk.new w #[.int .i64 V, .int .i64 H, .slice A xs.length c] 28).alloc (.cells #[.int .i64 0, .int .i64 0, .slice none 0 0] 28)).at_ (q := w.heap.size) (by simp)
      have r := (Blk.new (w.alloc (.cells #[.int .i64 V, .int .i64 H, .slice A xs.length c] 28)) #[.int .i64 0, .int .i64 0, .slice none 0 0] 28).at_ (q := w.heap.size + 1) (by simp)
      have hsz : w.heap.size + 2 ≤ ((w.alloc (.cells #[.int .i64 V, .int .i64 H, .slice A xs.length c] 28)).alloc (.cells #[.int .i64 0, .int .i64 0, .slice none 0 0] 28)).heap.size := by simp
      clear h
      go_enter Try.func34, Try.ntmps34
      go_wp2_with fail
      obtain ⟨W0, hW0⟩ : ∃ v, ((w.alloc (.cells #[.int .i64 V, .int .i64 H, .slice A xs.length c] 28)).alloc (.cells #[.int .i64 0, .int .i64 0, .slice none 0 0] 28)) = v := ⟨_, rfl⟩
      rw [hW0] at HB hsz R x r ⊢
      clear hW0
      have ex0 := x.cell 0
      have ex1 := x.cell 1
      have ex2 := x.cell 2
      have zx := x.lt
      have er0 := r.cell 0
      have er1 := r.cell 1
      have er2 := r.cell 2
      have zr := r.lt
      go_wp2_with fail
      refine (implIsChart_any V H A _ c _ xs _ R (Nat.le_trans hB (by omega))).mono ?_
      rintro e w1 ⟨rfl, hb⟩
      clear ex0 ex1 ex2 zx er0 er1 er2 zr
      replace x := x.all hb
      replace r := r.all hb
      replace R := R.all hb (Nat.le_trans (hB) (by omega))
      replace HB := Lib.hid (HB.out.trans (hb.mono (by omega)))
      replace hsz := Nat.le_trans hsz hb.size
      clear hb
      rw [hg]
      have ex0 := x.cell 0
      have ex1 := x.cell 1
      have ex2 := x.cell 2
      have zx := x.lt
      have er0 := r.cell 0
      have er1 := r.cell 1
      have er2 := r.cell 2
      have fr0 := r.frozen 0
      have fr1 := r.frozen 1
      have fr2 := r.frozen 2
      have zr := r.lt
      have F := fin3 (p := w.heap.size + 1) (a := .int .i64 0) (b := .int .i64 0) (c := .slice none 0 0) (Own.nil w1 w.heap.size) (by simp [Value.ownBlock]) HB.out (by omega)
      go_wp2_with fail
      exact bodyPost_ret (v := .tuple #[.agg #[.int .i64 0, .int .i64 0, .slice none 0 0], .bool false]) (by simp [results, Try.results34, go_sem, er0, er1, er2]) rfl ⟨none, 0, by rw [HX.out]; rfl, by rw [HX.out]; exact F.1, F.2⟩
    | true =>
      cases hs : shB d a with
      | false =>
        have HB := Lib.hid (((Below.refl w.heap.size w).alloc (by first | (simp; done) | (simp; omega) | omega) (.cells #[.int .i64 V, .int .i64 H, .slice A xs.length c] 28)).alloc (by first | (simp; done) | (simp; omega) | omega) (.cells #[.int .i64 0, .int .i64 0, .slice none 0 0] 28))
        have R := (((h)).alloc (hB) (.cells #[.int .i64 V, .int .i64 H, .slice A xs.length c] 28)).alloc ((by first | (simp; done) | (simp; omega) | omega)) (.cells #[.int .i64 0, .int .i64 0, .slice none 0 0] 28)
        have x := ((Blk.new w #[.int .i64 V, .int .i64 H, .slice A xs.length c] 28).alloc (.cells #[.int .i64 0, .int .i64 0, .slice none 0 0] 28)).at_ (q := w.heap.size) (by simp)
        have r := (Blk.new (w.alloc (.cells #[.int .i64 V, .int .i64 H, .slice A xs.length c] 28)) #[.int .i64 0, .int .i64 0, .slice none 0 0] 28).at_ (q := w.heap.size + 1) (by simp)
        have hsz : w.heap.size + 2 ≤ ((w.alloc (.cells #[.int .i64 V, .int .i64 H, .slice A xs.length c] 28)).alloc (.cells #[.int .i64 0, .int .i64 0, .slice none 0 0] 28)).heap.size := by simp
        clear h
        go_enter Try.func34, Try.ntmps34
        go_wp2_with fail
        obtain ⟨W0, hW0⟩ : ∃ v, ((w.alloc (.cells #[.int .i64 V, .int .i64 H, .slice A xs.length c] 28)).alloc (.cells #[.int .i64 0, .int .i64 0, .slice none 0 0] 28)) = v := ⟨_, rfl⟩
        rw [hW0] at HB hsz R x r ⊢
        clear hW0
        have ex0 := x.cell 0
        have ex1 := x.cell 1
        have ex2 := x.cell 2
        have zx := x.lt
        have er0 := r.cell 0
        have er1 := r.cell 1
        have er2 := r.cell 2
        have zr := r.lt
        go_wp2_with fail
        refine (implIsChart_any V H A _ c _ xs _ R (Nat.le_trans hB (by omega))).mono ?_
        rintro e w1 ⟨rfl, hb⟩
        clear ex0 ex1 ex2 zx er0 er1 er2 zr
        replace x := x.all hb
        replace r := r.all hb
        replace R := R.all hb (Nat.le_trans (hB) (by omega))
        replace HB := Lib.hid (HB.out.trans (hb.mono (by omega)))
        replace hsz := Nat.le_trans hsz hb.size
        clear hb
        rw [hg]
        have ex0 := x.cell 0
        have ex1 := x.cell 1
        have ex2 := x.cell 2
        have zx := x.lt
        have er0 := r.cell 0
        have er1 := r.cell 1
        have er2 := r.cell 2
        have zr := r.lt
        go_wp2_with fail
        refine (isShift_any d a _).mono ?_
        rintro e wq ⟨rfl, rfl⟩
        clear ex0 ex1 ex2 zx er0 er1 er2 zr
        rw [hs]
        have ex0 := x.cell 0
        have ex1 := x.cell 1
        have ex2 := x.cell 2
        have zx := x.lt
        have er0 := r.cell 0
        have er1 := r.cell 1
        have er2 := r.cell 2
        have fr0 := r.frozen 0
        have fr1 := r.frozen 1
        have fr2 := r.frozen 2
        have zr := r.lt
        have F := fin3 (p := w.heap.size + 1) (a := .int .i64 0) (b := .int .i64 0) (c := .slice none 0 0) (Own.nil w1 w.heap.size) (by simp [Value.ownBlock]) HB.out (by omega)
        go_wp2_with fail
        exact bodyPost_ret (v := .tuple #[.agg #[.int .i64 0, .int .i64 0, .slice none 0 0], .bool false]) (by simp [results, Try.results34, go_sem, er0, er1, er2]) rfl ⟨none, 0, by rw [HX.out]; rfl, by rw [HX.out]; exact F.1, F.2⟩
      | true =>
        have hc3 : isColorB col = false := by
          cases hc : isColorB col with
          | false => rfl
          | true => rw [phOk_4 hg hs hc] at hok; cases hok
        have HPK := Lib.hid (show plainOk V H col = false by unfold plainOk; rw [hc3, Bool.and_false])
        have HPL := Lib.hid (show plainL V H col = [] from if_neg (by rw [HPK.out]; decide))
        clear hc3
        have HB := Lib.hid (((Below.refl w.heap.size w).alloc (by first | (simp; done) | (simp; omega) | omega) (.cells #[.int .i64 V, .int .i64 H, .slice A xs.length c] 28)).alloc (by first | (simp; done) | (simp; omega) | omega) (.cells #[.int .i64 0, .int .i64 0, .slice none 0 0] 28))
        have R := (((h)).alloc (hB) (.cells #[.int .i64 V, .int .i64 H, .slice A xs.length c] 28)).alloc ((by first | (simp; done) | (simp; omega) | omega)) (.cells #[.int .i64 0, .int .i64 0, .slice none 0 0] 28)
        have x := ((Blk.new w #[.int .i64 V, .int .i64 H, .slice A xs.length c] 28).alloc (.cells #[.int .i64 0, .int .i64 0, .slice none 0 0] 28)).at_ (q := w.heap.size) (by simp)
        have r := (Blk.new (w.alloc (.cells #[.int .i64 V, .int .i64 H, .slice A xs.length c] 28)) #[.int .i64 0, .int .i64 0, .slice none 0 0] 28).at_ (q := w.heap.size + 1) (by simp)
        have hsz : w.heap.size + 2 ≤ ((w.alloc (.cells #[.int .i64 V, .int .i64 H, .slice A xs.length c] 28)).alloc (.cells #[.int .i64 0, .int .i64 0, .slice none 0 0] 28)).heap.size := by simp
        clear h
        go_enter Try.func34, Try.ntmps34
        go_wp2_with fail
        obtain ⟨W0, hW0⟩ : ∃ v, ((w.alloc (.cells #[.int .i64 V, .int .i64 H, .slice A xs.length c] 28)).alloc (.cells #[.int .i64 0, .int .i64 0, .slice none 0 0] 28)) = v := ⟨_, rfl⟩
        rw [hW0] at HB hsz R x r ⊢
        clear hW0
        have ex0 := x.cell 0
        have ex1 := x.cell 1
        have ex2 := x.cell 2
        have zx := x.lt
        have er0 := r.cell 0
        have er1 := r.cell 1
        have er2 := r.cell 2
        have zr := r.lt
        go_wp2_with fail
        refine (implIsChart_any V H A _ c _ xs _ R (Nat.le_trans hB (by omega))).mono ?_
        rintro e w1 ⟨rfl, hb⟩
        clear ex0 ex1 ex2 zx er0 er1 er2 zr
        replace x := x.all hb
        replace r := r.all hb
        replace R := R.all hb (Nat.le_trans (hB) (by omega))
        replace HB := Lib.hid (HB.out.trans (hb.mono (by omega)))
        replace hsz := Nat.le_trans hsz hb.size
        clear hb
        rw [hg]
        have ex0 := x.cell 0
        have ex1 := x.cell 1
        have ex2 := x.cell 2
        have zx := x.lt
        have er0 := r.cell 0
        have er1 := r.cell 1
        have er2 := r.cell 2
        have zr := r.lt
        go_wp2_with fail
        refine (isShift_any d a _).mono ?_
        rintro e wq ⟨rfl, rfl⟩
        clear ex0 ex1 ex2 zx er0 er1 er2 zr
        rw [hs]
        have ex0 := x.cell 0
        have ex1 := x.cell 1
        have ex2 := x.cell 2
        have zx := x.lt
        have er0 := r.cell 0
        have er1 := r.cell 1
        have er2 := r.cell 2
        have zr := r.lt
        go_wp2_with fail
        refine (implPlainChart_any V H col _).mono ?_
        rintro e w3 ⟨A9, c9, rfl, own, hb⟩
        clear ex0 ex1 ex2 zx er0 er1 er2 zr
        rw [HPK.out, HPL.out]
        replace x := x.all hb
        replace r := r.all hb
        replace R := R.all hb (Nat.le_trans (hB) (by omega))
        replace HB := Lib.hid (HB.out.trans (hb.mono (by omega)))
        replace hsz := Nat.le_trans hsz hb.size
        clear hb
        clear own
        have hlQx := x.lt
        replace x := x.alloc (.cells #[.int .i64 (orZero false V), .int .i64 (orZero false H), .slice A9 0 c9] 28)
        have hlQr := r.lt
        replace r := r.alloc (.cells #[.int .i64 (orZero false V), .int .i64 (orZero false H), .slice A9 0 c9] 28)
        replace R := R.alloc (Nat.le_trans (hB) (by omega)) (.cells #[.int .i64 (orZero false V), .int .i64 (orZero false H), .slice A9 0 c9] 28)
        have sh := Blk.new w3 #[.int .i64 (orZero false V), .int .i64 (orZero false H), .slice A9 0 c9] 28
        replace HB := Lib.hid (HB.out.alloc (by omega) (.cells #[.int .i64 (orZero false V), .int .i64 (orZero false H), .slice A9 0 c9] 28))
        have hqQ : w.heap.size + 2 ≤ w3.heap.size := hsz
        replace hsz : w.heap.size + 2 ≤ (w3.alloc (.cells #[.int .i64 (orZero false V), .int .i64 (orZero false H), .slice A9 0 c9] 28)).heap.size := by simp; omega
        have ex0 := x.cell 0
        have ex1 := x.cell 1
        have ex2 := x.cell 2
        have zx := x.lt
        have er0 := r.cell 0
        have er1 := r.cell 1
        have er2 := r.cell 2
        have zr := r.lt
        go_upto_region 4 with fail
        clear ex0 ex1 ex2 zx er0 er1 er2 zr
        obtain ⟨w4, hw_⟩ : ∃ v, w3.alloc (.cells #[.int .i64 (orZero false V), .int .i64 (orZero false H), .slice A9 0 c9] 28) = v := ⟨_, rfl⟩
        rw [hw_] at HB hsz x r R sh ⊢
        obtain ⟨Q, hq_⟩ : ∃ q, w3.heap.size = q := ⟨_, rfl⟩
        rw [hq_] at sh hqQ hlQx hlQr ⊢
        clear hw_ hq_
        have ex0 := x.cell 0
        have ex1 := x.cell 1
        have ex2 := x.cell 2
        have zx := x.lt
        have er0 := r.cell 0
        have er1 := r.cell 1
        have er2 := r.cell 2
        have fr0 := r.frozen 0
        have fr1 := r.frozen 1
        have fr2 := r.frozen 2
        have zr := r.lt
        have esh0 := sh.cell 0
        have esh1 := sh.cell 1
        have esh2 := sh.cell 2
        have zsh := sh.lt
        have F := fin3 (p := w.heap.size + 1) (a := .int .i64 0) (b := .int .i64 0) (c := .slice none 0 0) (Own.nil w4 w.heap.size) (by simp [Value.ownBlock]) HB.out (by omega)
        go_wp2_with fail
        exact bodyPost_ret (v := .tuple #[.agg #[.int .i64 0, .int .i64 0, .slice none 0 0], .bool false]) (by simp [results, Try.results34, go_sem, er0, er1, er2]) rfl ⟨none, 0, by rw [HX.out]; rfl, by rw [HX.out]; exact F.1, F.2⟩
  | true =>
    have hg : goodB V H xs = true := by unfold phOk at hok; simp only [Bool.and_eq_true] at hok; exact hok.1.1
    have hs : shB d a = true := by unfold phOk at hok; simp only [Bool.and_eq_true] at hok; exact hok.1.2
    have hcl : isColorB col = true := by unfold phOk at hok; simp only [Bool.and_eq_true] at hok; exact hok.2
    obtain ⟨m, k, b, off, rfl, rfl, rfl, _, hm, hm8, hk1, hk8, hl, h64, hN1, _⟩ := good_openT hg h
    have HX := Lib.hid (phX_yes hok)
    clear hok
    have hm1 : isSideB (m : Int) = true := by simp only [isSideB, decide_eq_true_eq]; omega
    have hk1' : isSideB (k : Int) = true := by simp only [isSideB, decide_eq_true_eq]; omega
    have hcr := isColorB_yes hcl
    have HB := Lib.hid (((Below.refl w.heap.size w).alloc (by first | (simp; done) | (simp; omega) | omega) (.cells #[.int .i64 m, .int .i64 k, .slice (some ⟨b, off, none⟩) xs.length c] 28)).alloc (by first | (simp; done) | (simp; omega) | omega) (.cells #[.int .i64 0, .int .i64 0, .slice none 0 0] 28))
    have R := (((h)).alloc (hB) (.cells #[.int .i64 m, .int .i64 k, .slice (some ⟨b, off, none⟩) xs.length c] 28)).alloc ((by first | (simp; done) | (simp; omega) | omega)) (.cells #[.int .i64 0, .int .i64 0, .slice none 0 0] 28)
    have x := ((Blk.new w #[.int .i64 m, .int .i64 k, .slice (some ⟨b, off, none⟩) xs.length c] 28).alloc (.cells #[.int .i64 0, .int .i64 0, .slice none 0 0] 28)).at_ (q := w.heap.size) (by simp)
    have r := (Blk.new (w.alloc (.cells #[.int .i64 m, .int .i64 k, .slice (some ⟨b, off, none⟩) xs.length c] 28)) #[.int .i64 0, .int .i64 0, .slice none 0 0] 28).at_ (q := w.heap.size + 1) (by simp)
    have hsz : w.heap.size + 2 ≤ ((w.alloc (.cells #[.int .i64 m, .int .i64 k, .slice (some ⟨b, off, none⟩) xs.length c] 28)).alloc (.cells #[.int .i64 0, .int .i64 0, .slice none 0 0] 28)).heap.size := by simp
    clear h
    go_enter Try.func34, Try.ntmps34
    go_wp2_with fail
    obtain ⟨W0, hW0⟩ : ∃ v, ((w.alloc (.cells #[.int .i64 m, .int .i64 k, .slice (some ⟨b, off, none⟩) xs.length c] 28)).alloc (.cells #[.int .i64 0, .int .i64 0, .slice none 0 0] 28)) = v := ⟨_, rfl⟩
    rw [hW0] at HB hsz R x r ⊢
    clear hW0
    have ex0 := x.cell 0
    have ex1 := x.cell 1
    have ex2 := x.cell 2
    have zx := x.lt
    have er0 := r.cell 0
    have er1 := r.cell 1
    have er2 := r.cell 2
    have zr := r.lt
    go_wp2_with fail
    refine (implIsChart_any m k _ _ c _ xs _ R (Nat.le_trans hB (by omega))).mono ?_
    rintro e w1 ⟨rfl, hb⟩
    clear ex0 ex1 ex2 zx er0 er1 er2 zr
    replace x := x.all hb
    replace r := r.all hb
    replace R := R.all hb (Nat.le_trans (hB) (by omega))
    replace HB := Lib.hid (HB.out.trans (hb.mono (by omega)))
    replace hsz := Nat.le_trans hsz hb.size
    clear hb
    rw [hg]
    have ex0 := x.cell 0
    have ex1 := x.cell 1
    have ex2 := x.cell 2
    have zx := x.lt
    have er0 := r.cell 0
    have er1 := r.cell 1
    have er2 := r.cell 2
    have zr := r.lt
    go_wp2_with fail
    refine (isShift_any d a _).mono ?_
    rintro e wq ⟨rfl, rfl⟩
    clear ex0 ex1 ex2 zx er0 er1 er2 zr
    rw [hs]
    have ex0 := x.cell 0
    have ex1 := x.cell 1
    have ex2 := x.cell 2
    have zx := x.lt
    have er0 := r.cell 0
    have er1 := r.cell 1
    have er2 := r.cell 2
    have zr := r.lt
    go_wp2_with fail
    refine (implPlainChart_yes m k col _ hm1 hk1' hcl).mono ?_
    rintro e w3 ⟨A9, c9, rfl, own, hb⟩
    clear ex0 ex1 ex2 zx er0 er1 er2 zr
    obtain ⟨Z, HZ⟩ : ∃ Z, Hid (List.replicate (m * k) col = Z) := ⟨_, rfl⟩
    rw [show List.replicate (m * k) col = Z from HZ.out] at own ⊢
    have hZl : Z.length = xs.length := by rw [← HZ.out, List.length_replicate, hl.out]
    rw [hZl] at own ⊢
    have HZL := Lib.hid hZl
    clear hZl
    replace x := x.all hb
    replace r := r.all hb
    replace R := R.all hb (Nat.le_trans (hB) (by omega))
    have O := own.mono (show w.heap.size ≤ _ by omega)
    clear own
    replace HB := Lib.hid (HB.out.trans (hb.mono (by omega)))
    replace hsz := Nat.le_trans hsz hb.size
    clear hb
    replace O := O.alloc (.cells #[.int .i64 m, .int .i64 k, .slice A9 xs.length c9] 28)
    have hlQx := x.lt
    replace x := x.alloc (.cells #[.int .i64 m, .int .i64 k, .slice A9 xs.length c9] 28)
    have hlQr := r.lt
    replace r := r.alloc (.cells #[.int .i64 m, .int .i64 k, .slice A9 xs.length c9] 28)
    replace R := R.alloc (Nat.le_trans (hB) (by omega)) (.cells #[.int .i64 m, .int .i64 k, .slice A9 xs.length c9] 28)
    have sh := Blk.new w3 #[.int .i64 m, .int .i64 k, .slice A9 xs.length c9] 28
    replace HB := Lib.hid (HB.out.alloc (by omega) (.cells #[.int .i64 m, .int .i64 k, .slice A9 xs.length c9] 28))
    have hqQ : w.heap.size + 2 ≤ w3.heap.size := hsz
    replace hsz : w.heap.size + 2 ≤ (w3.alloc (.cells #[.int .i64 m, .int .i64 k, .slice A9 xs.length c9] 28)).heap.size := by simp; omega
    have ex0 := x.cell 0
    have ex1 := x.cell 1
    have ex2 := x.cell 2
    have zx := x.lt
    have er0 := r.cell 0
    have er1 := r.cell 1
    have er2 := r.cell 2
    have zr := r.lt
    go_upto_region 4 with fail
    clear ex0 ex1 ex2 zx er0 er1 er2 zr
    obtain ⟨w4, hw_⟩ : ∃ v, w3.alloc (.cells #[.int .i64 m, .int .i64 k, .slice A9 xs.length c9] 28) = v := ⟨_, rfl⟩
    rw [hw_] at HB hsz O x r R sh ⊢
    obtain ⟨Q, hq_⟩ : ∃ q, w3.heap.size = q := ⟨_, rfl⟩
    rw [hq_] at sh hqQ hlQx hlQr ⊢
    clear hw_ hq_
    obtain ⟨g, rfl, hg1, hg2⟩ := O.some_ (by rw [HZL.out]; omega)
    have ex0 := x.cell 0
    have ex1 := x.cell 1
    have ex2 := x.cell 2
    have zx := x.lt
    have er0 := r.cell 0
    have er1 := r.cell 1
    have er2 := r.cell 2
    have zr := r.lt
    have esh0 := sh.cell 0
    have esh1 := sh.cell 1
    have esh2 := sh.cell 2
    have zsh := sh.lt
    go_wp2_with fail
    refine (partnersAt_len m k g 0 c9 m k b off c xs.length Z xs d a _ HZL.out O.rd (R.more (Nat.le_trans hB (by omega))) hm hm8 h64 hm hm8 hk1 hk8 hs).mono ?_
    rintro e w5 ⟨A1, c1, rfl, own, hb⟩
    clear ex0 ex1 ex2 zx er0 er1 er2 zr esh0 esh1 esh2 zsh
    have oP := own
    have hgP : g < w4.heap.size := hg2
    clear own
    replace O := O.all hb
    replace x := x.all hb
    replace r := r.all hb
    replace sh := sh.all hb
    replace R := R.all hb (Nat.le_trans (hB) (by omega))
    replace HB := Lib.hid (HB.out.trans (hb.mono (by omega)))
    replace hsz := Nat.le_trans hsz hb.size
    clear hb
    have HPL := Lib.hid (pairsTo_len (m := m) (pm := m) (pk := k) (d := d) (a := a) (i := xs.length))
    have HAT := Lib.hid (fun j s => pairsTo_at (m := m) (pm := m) (pk := k) (d := d) (a := a) (i := xs.length) (j := j) (s := s))
    have hL64 : (pairsTo m m k d a xs.length).length ≤ 64 := by rw [HPL.out]; exact Nat.le_trans parTo_len h64
    obtain ⟨L, HL⟩ : ∃ L, Hid (pairsTo m m k d a xs.length = L) := ⟨_, rfl⟩
    rw [show pairsTo m m k d a xs.length = L from HL.out] at oP HPL HAT hL64 ⊢
    have HZ0 := Lib.hid (show Z = phIn m k xs d a col xs.length 0 by rw [phIn_zero, hl.out]; exact HZ.out.symm)
    clear hm1 hk1' hcl HZ
    go_wp2
    go_loopw [43] (fun s43 wr => ∃ (j : Nat) (K : List Int), j ≤ L.length ∧ s43 = .int .i64 j ∧ Hid (K = phIn m k xs d a col xs.length j) ∧ K.length = xs.length ∧ Own wr w.heap.size (.slice (some ⟨g, 0, none⟩) xs.length c9) K ∧ OwnF parF wr w4.heap.size (.slice A1 L.length c1) L ∧ Blk wr Q 28 #[.int .i64 m, .int .i64 k, .slice (some ⟨g, 0, none⟩) xs.length c9] ∧ Blk wr w.heap.size 28 #[.int .i64 m, .int .i64 k, .slice (some ⟨b, off, none⟩) xs.length c] ∧ Blk wr (w.heap.size + 1) 28 #[.int .i64 0, .int .i64 0, .slice none 0 0] ∧ Rd wr B (some ⟨b, off, none⟩) xs.length c xs ∧ w.heap.size + 2 ≤ wr.heap.size ∧ Hid (Below w.heap.size w wr)) (fun s43 _ => L.length - (intOf s43).toNat)
    case atStart => exact ⟨0, Z, Nat.zero_le _, rfl, HZ0, HZL.out, O, oP, sh, x, r, R, by omega, HB⟩
    case round =>
      clear O oP sh x r R HB HZ0
      obtain ⟨j, K, hj, rfl, HK, hKl, O, oP, sh, x, r, R, hzz, HB⟩ := hrel
      by_cases hlt : j < L.length
      · skip
        obtain ⟨g2, of, s, rfl, _, _, hs9, f0, f1⟩ := Par_at oP.rd hlt
        obtain ⟨p, hp, rfl, hpl, hhp⟩ := HAT.out j s hs9.out
        have hptn := ptn_eq hhp
        have hql : ptn m m d a p < xs.length := by rw [hl.out]; exact hptn.2.1
        obtain ⟨v, hv⟩ : ∃ v, xs.getD (ptn m m d a p) 0 = v := ⟨_, rfl⟩
        have hvf : I64 v := by rw [← hv]; exact R.fit _
        have HS := Lib.hid (phIn_step (col := col) hp hv)
        have hcP := oP.rd.cap
        have hcO := O.rd.cap
        have hcR := R.cap
        have hgP2 : Hid (∀ q, (Value.slice (some ⟨g2, of, none⟩) L.length c1).ownBlock = some q → w4.heap.size ≤ q) := Lib.hid (fun q hq => (oP.bd q hq).1)
        clear hs9 hptn hp
        generalize hqe : ptn m m d a p = q at *
        clear hqe
        go_upto_region 9 with fail
        have z1 := Blk.new wr #[.int .i64 (p : Int), .int .i64 (q : Int)] 72
        replace O := O.alloc (.cells #[.int .i64 (p : Int), .int .i64 (q : Int)] 72)
        replace oP := oP.alloc (.cells #[.int .i64 (p : Int), .int .i64 (q : Int)] 72)
        replace sh := sh.alloc (.cells #[.int .i64 (p : Int), .int .i64 (q : Int)] 72)
        replace x := x.alloc (.cells #[.int .i64 (p : Int), .int .i64 (q : Int)] 72)
        replace r := r.alloc (.cells #[.int .i64 (p : Int), .int .i64 (q : Int)] 72)
        replace R := R.alloc (Nat.le_trans hB (by omega)) (.cells #[.int .i64 (p : Int), .int .i64 (q : Int)] 72)
        replace HB := Lib.hid (HB.out.alloc (by omega) (.cells #[.int .i64 (p : Int), .int .i64 (q : Int)] 72))
        replace hzz : w.heap.size + 2 ≤ (wr.alloc (.cells #[.int .i64 (p : Int), .int .i64 (q : Int)] 72)).heap.size := by rw [World.size_alloc]; omega
        clear f0 f1
        generalize wr.alloc (.cells #[.int .i64 (p : Int), .int .i64 (q : Int)] 72) = W1 at *
        generalize wr.heap.size = P at *
        have f0 := z1.cell 0
        have f1 := z1.cell 1
        have m2 := sh.cell 2
        have e2 := x.cell 2
        have g1 := rd_knot R hql hv
        obtain ⟨hf, O3, G3⟩ := own_put O p v hvf
        have LD := low_drewN (W1.setCell ⟨g, p, none⟩ (.int .i64 v)) 1
        have sh3 := (sh.mark G3 (row_ne O.1 sh (by decide))).all LD
        have x3 := (x.mark G3 (row_ne O.1 x (by decide))).all LD
        have r3 := (r.mark G3 (row_ne O.1 r (by decide))).all LD
        have R3 := (R.mark G3 (fun q hq => Nat.le_trans hB (O.bd q hq).1) (Nat.le_trans hB (by omega))).drewN 1
        have oP3 := (oP.kept G3 (.inr (fun e => by have := hgP2.out g e; omega))).drewN 1
        have HB3 := Lib.hid (belowN (HB.out.grown G3 (by omega) (fun q hq => (O.bd q hq).1)) 1)
        have hz3 : w.heap.size + 2 ≤ ((W1.setCell ⟨g, p, none⟩ (.int .i64 v)).drewN 1).heap.size := Nat.le_trans hzz G3.size
        replace O3 := O3.drewN 1
        have hxy := O.bd g rfl
        obtain ⟨ov, hov⟩ : ∃ y, W1.cell? ⟨g, p, none⟩ = some y := ⟨_, own_at O (by rw [hKl]; omega) rfl⟩
        rw [← HK.out] at HS
        rw [HS.out] at O3
        have hpx : p < xs.length := hpl
        clear hv O oP sh x r R HB G3 hzz LD z1 HK
        go_region
        all_goals
          go_wp2
          go_roundw
          case rel => exact ⟨j + 1, _, hlt, by go_num, Lib.hid rfl, phIn_len, O3, oP3, sh3, x3, r3, R3, hz3, HB3⟩
          case measure => simp [intOf]; omega
      · have HF := Lib.hid (show phX m k xs d a col = K by rw [HX.out, HK.out, phIn_all (by rw [← HPL.out]; omega)])
        have F := fin3 (p := w.heap.size + 1) (a := .int .i64 m) (b := .int .i64 k) (c := .slice (some ⟨g, 0, none⟩) xs.length c9) O (row_ne' O.1 r (by decide)) HB.out (by omega)
        have m0 := sh.cell 0
        have m1 := sh.cell 1
        have m2 := sh.cell 2
        have r0 := r.cell 0
        have r1 := r.cell 1
        have r2 := r.cell 2
        have f0 := r.frozen 0
        have f1 := r.frozen 1
        have f2 := r.frozen 2
        have hrl := r.lt
        go_wp2
        rw [HF.out]
        exact bodyPost_ret (v := .tuple #[chartV m k (.slice (some ⟨g, 0, none⟩) xs.length c9), .bool true]) (by simp [results, Try.results34, go_sem, r0, r1, r2]) rfl ⟨some ⟨g, 0, none⟩, c9, by rw [hKl]; rfl, by rw [hKl]; exact F.1, F.2⟩
end Go.Proofs.Ytiglbidfjcjhgaa
