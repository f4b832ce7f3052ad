/- The walk of the model's ShiftPhoto. No condition. -/
import Derived.Test.YtgkflgfjbaobcaaPhMath
import Derived.Test.YtgkflgfjbaobcaaPartners
import Derived.Test.YtgkflgfjbaobcaaPlain
import Derived.Test.YtgkflgfjbaobcaaFar3
import Derived.Test.YtgkflgfjbaobcaaWrongS
namespace Go.Proofs.Ytgkflgfjbaobcaa
open Go.RowKit

theorem ph_spec {V H d a col : Int} {xs : List Int} (h : phOk V H xs d a col = false) : okX V H xs V H xs d a = false ∨ (okX V H xs V H xs d a = true ∧ isColorB col = false) := by
  unfold phOk at h
  unfold okX
  cases h1 : goodB V H xs <;> cases h2 : shB d a <;> cases h3 : isColorB col <;> simp_all
theorem rd_set {w : World} {B n c : Nat} {A : Option Addr} {xs : List Int} {p : Addr} {v : Value} (h : Rd w B A n c xs) (hp : B ≤ p.block) : Rd (w.setCell p v) B A n c xs :=
  h.keep fun b o hb => World.cell?_setCell_other _ _ _ _ (fun e => by have := congrArg Addr.block e; simp at this; omega)
set_option maxRecDepth 100000 in
set_option maxHeartbeats 8000000 in
theorem specShiftPhoto_any (V H : Int) (A : Option Addr) (n c B : Nat) (xs : List Int) (d a col : Int) (w : World) (h : Rd w B A n c xs) (hB : B ≤ w.heap.size) :
    Calls Try.prog 30 #[chartV V H (.slice A n c), .int .i64 d, .int .i64 a, .int .i64 col] w (OutChart w (orZero (phOk V H xs d a col) V) (orZero (phOk V H xs d a col) H) (phX V H xs d a col) (phOk V H xs d a col)) := by
  obtain rfl := h.len
  cases hok : phOk V H xs d a col with
  | false =>
    have HX := Lib.hid (phX_no hok)
    rcases ph_spec hok with hso | ⟨hso, hcl⟩
    · skip
      have HB := Lib.hid (((Below.refl w.heap.size w).alloc (by first | (simp; done) | (simp; omega) | omega) (.cells #[.int .i64 V, .int .i64 H, .slice A xs.length c] 26)).alloc (by first | (simp; done) | (simp; omega) | omega) (.cells #[.int .i64 0, .int .i64 0, .slice none 0 0] 26))
      have R := (((h)).alloc (hB) (.cells #[.int .i64 V, .int .i64 H, .slice A xs.length c] 26)).alloc ((by first | (simp; done) | (simp; omega) | omega)) (.cells #[.int .i64 0, .int .i64 0, .slice none 0 0] 26)
      have x := ((Blk.new w #[.int .i64 V, .int .i64 H, .slice A xs.length c] 26).alloc (.cells #[.int .i64 0, .int .i64 0, .slice none 0 0] 26)).at_ (q := w.heap.size) (by simp)
      have r := (Blk.new (w.alloc (.cells #[.int .i64 V, .int .i64 H, .slice A xs.length c] 26)) #[.int .i64 0, .int .i64 0, .slice none 0 0] 26).at_ (q := w.heap.size + 1) (by simp)
      have hsz : w.heap.size + 2 ≤ ((w.alloc (.cells #[.int .i64 V, .int .i64 H, .slice A xs.length c] 26)).alloc (.cells #[.int .i64 0, .int .i64 0, .slice none 0 0] 26)).heap.size := by simp
      clear h
      go_enter Try.func30, Try.ntmps30
      go_wp2_with fail
      obtain ⟨W0, hW0⟩ : ∃ v, ((w.alloc (.cells #[.int .i64 V, .int .i64 H, .slice A xs.length c] 26)).alloc (.cells #[.int .i64 0, .int .i64 0, .slice none 0 0] 26)) = v := ⟨_, rfl⟩
      rw [hW0] at HB hsz R x r ⊢
      clear hW0
      have ex0 := x.cell 0
      have ex1 := x.cell 1
      have ex2 := x.cell 2
      have zx := x.lt
      have er0 := r.cell 0
      have er1 := r.cell 1
      have er2 := r.cell 2
      have zr := r.lt
      go_wp2_with fail
      refine (l13Shift_any V H A _ c _ xs V H A _ c _ xs d a _ R (Nat.le_trans hB (by omega)) R (Nat.le_trans hB (by omega))).mono ?_
      rintro e w1 ⟨rfl, hb⟩
      clear ex0 ex1 ex2 zx er0 er1 er2 zr
      replace x := x.all hb
      replace r := r.all hb
      replace R := R.all hb (Nat.le_trans (hB) (by omega))
      replace HB := Lib.hid (HB.out.trans (hb.mono (by omega)))
      replace hsz := Nat.le_trans hsz hb.size
      clear hb
      rw [hso]
      have ex0 := x.cell 0
      have ex1 := x.cell 1
      have ex2 := x.cell 2
      have zx := x.lt
      have er0 := r.cell 0
      have er1 := r.cell 1
      have er2 := r.cell 2
      have fr0 := r.frozen 0
      have fr1 := r.frozen 1
      have fr2 := r.frozen 2
      have zr := r.lt
      have F := fin3 (p := w.heap.size + 1) (a := .int .i64 0) (b := .int .i64 0) (c := .slice none 0 0) (Own.nil w1 w.heap.size) (by simp [Value.ownBlock]) HB.out (by omega)
      go_wp2_with fail
      exact bodyPost_ret (v := .tuple #[.agg #[.int .i64 0, .int .i64 0, .slice none 0 0], .bool false]) (by simp [results, Try.results30, go_sem, er0, er1, er2]) rfl ⟨none, 0, by rw [HX.out]; rfl, by rw [HX.out]; exact F.1, F.2⟩
    · skip
      have HB := Lib.hid (((Below.refl w.heap.size w).alloc (by first | (simp; done) | (simp; omega) | omega) (.cells #[.int .i64 V, .int .i64 H, .slice A xs.length c] 26)).alloc (by first | (simp; done) | (simp; omega) | omega) (.cells #[.int .i64 0, .int .i64 0, .slice none 0 0] 26))
      have R := (((h)).alloc (hB) (.cells #[.int .i64 V, .int .i64 H, .slice A xs.length c] 26)).alloc ((by first | (simp; done) | (simp; omega) | omega)) (.cells #[.int .i64 0, .int .i64 0, .slice none 0 0] 26)
      have x := ((Blk.new w #[.int .i64 V, .int .i64 H, .slice A xs.length c] 26).alloc (.cells #[.int .i64 0, .int .i64 0, .slice none 0 0] 26)).at_ (q := w.heap.size) (by simp)
      have r := (Blk.new (w.alloc (.cells #[.int .i64 V, .int .i64 H, .slice A xs.length c] 26)) #[.int .i64 0, .int .i64 0, .slice none 0 0] 26).at_ (q := w.heap.size + 1) (by simp)
      have hsz : w.heap.size + 2 ≤ ((w.alloc (.cells #[.int .i64 V, .int .i64 H, .slice A xs.length c] 26)).alloc (.cells #[.int .i64 0, .int .i64 0, .slice none 0 0] 26)).heap.size := by simp
      clear h
      go_enter Try.func30, Try.ntmps30
      go_wp2_with fail
      obtain ⟨W0, hW0⟩ : ∃ v, ((w.alloc (.cells #[.int .i64 V, .int .i64 H, .slice A xs.length c] 26)).alloc (.cells #[.int .i64 0, .int .i64 0, .slice none 0 0] 26)) = v := ⟨_, rfl⟩
      rw [hW0] at HB hsz R x r ⊢
      clear hW0
      have ex0 := x.cell 0
      have ex1 := x.cell 1
      have ex2 := x.cell 2
      have zx := x.lt
      have er0 := r.cell 0
      have er1 := r.cell 1
      have er2 := r.cell 2
      have zr := r.lt
      go_wp2_with fail
      refine (l13Shift_any V H A _ c _ xs V H A _ c _ xs d a _ R (Nat.le_trans hB (by omega)) R (Nat.le_trans hB (by omega))).mono ?_
      rintro e w1 ⟨rfl, hb⟩
      clear ex0 ex1 ex2 zx er0 er1 er2 zr
      replace x := x.all hb
      replace r := r.all hb
      replace R := R.all hb (Nat.le_trans (hB) (by omega))
      replace HB := Lib.hid (HB.out.trans (hb.mono (by omega)))
      replace hsz := Nat.le_trans hsz hb.size
      clear hb
      rw [hso]
      have ex0 := x.cell 0
      have ex1 := x.cell 1
      have ex2 := x.cell 2
      have zx := x.lt
      have er0 := r.cell 0
      have er1 := r.cell 1
      have er2 := r.cell 2
      have zr := r.lt
      go_wp2_with fail
      refine (l2Color_any col _).mono ?_
      rintro e wq ⟨rfl, rfl⟩
      clear ex0 ex1 ex2 zx er0 er1 er2 zr
      rw [hcl]
      have ex0 := x.cell 0
      have ex1 := x.cell 1
      have ex2 := x.cell 2
      have zx := x.lt
      have er0 := r.cell 0
      have er1 := r.cell 1
      have er2 := r.cell 2
      have fr0 := r.frozen 0
      have fr1 := r.frozen 1
      have fr2 := r.frozen 2
      have zr := r.lt
      have F := fin3 (p := w.heap.size + 1) (a := .int .i64 0) (b := .int .i64 0) (c := .slice none 0 0) (Own.nil w1 w.heap.size) (by simp [Value.ownBlock]) HB.out (by omega)
      go_wp2_with fail
      exact bodyPost_ret (v := .tuple #[.agg #[.int .i64 0, .int .i64 0, .slice none 0 0], .bool false]) (by simp [results, Try.results30, go_sem, er0, er1, er2]) rfl ⟨none, 0, by rw [HX.out]; rfl, by rw [HX.out]; exact F.1, F.2⟩
  | true =>
    have hg : goodB V H xs = true := by unfold phOk at hok; simp only [Bool.and_eq_true] at hok; exact hok.1.1
    have hs : shB d a = true := by unfold phOk at hok; simp only [Bool.and_eq_true] at hok; exact hok.1.2
    have hcl : isColorB col = true := by unfold phOk at hok; simp only [Bool.and_eq_true] at hok; exact hok.2
    obtain ⟨m, k, b, off, rfl, rfl, rfl, _, hm, hm8, hk1, hk8, hl, h64, hN1, _⟩ := good_openT hg h
    have HX := Lib.hid (phX_yes hok)
    clear hok
    have hso : okX m k xs m k xs d a = true := okX_yes hg hg hs
    have hsd := shB_yes hs
    have hmk : m * k ≤ 64 := by rw [← hl.out]; exact h64
    have hcr := isColorB_yes hcl
    have hci : I64 col := ⟨by omega, by omega⟩
    have HB := Lib.hid (((Below.refl w.heap.size w).alloc (by first | (simp; done) | (simp; omega) | omega) (.cells #[.int .i64 m, .int .i64 k, .slice (some ⟨b, off, none⟩) xs.length c] 26)).alloc (by first | (simp; done) | (simp; omega) | omega) (.cells #[.int .i64 0, .int .i64 0, .slice none 0 0] 26))
    have R := (((h)).alloc (hB) (.cells #[.int .i64 m, .int .i64 k, .slice (some ⟨b, off, none⟩) xs.length c] 26)).alloc ((by first | (simp; done) | (simp; omega) | omega)) (.cells #[.int .i64 0, .int .i64 0, .slice none 0 0] 26)
    have x := ((Blk.new w #[.int .i64 m, .int .i64 k, .slice (some ⟨b, off, none⟩) xs.length c] 26).alloc (.cells #[.int .i64 0, .int .i64 0, .slice none 0 0] 26)).at_ (q := w.heap.size) (by simp)
    have r := (Blk.new (w.alloc (.cells #[.int .i64 m, .int .i64 k, .slice (some ⟨b, off, none⟩) xs.length c] 26)) #[.int .i64 0, .int .i64 0, .slice none 0 0] 26).at_ (q := w.heap.size + 1) (by simp)
    have hsz : w.heap.size + 2 ≤ ((w.alloc (.cells #[.int .i64 m, .int .i64 k, .slice (some ⟨b, off, none⟩) xs.length c] 26)).alloc (.cells #[.int .i64 0, .int .i64 0, .slice none 0 0] 26)).heap.size := by simp
    clear h
    go_enter Try.func30, Try.ntmps30
    go_wp2_with fail
    obtain ⟨W0, hW0⟩ : ∃ v, ((w.alloc (.cells #[.int .i64 m, .int .i64 k, .slice (some ⟨b, off, none⟩) xs.length c] 26)).alloc (.cells #[.int .i64 0, .int .i64 0, .slice none 0 0] 26)) = v := ⟨_, rfl⟩
    rw [hW0] at HB hsz R x r ⊢
    clear hW0
    have ex0 := x.cell 0
    have ex1 := x.cell 1
    have ex2 := x.cell 2
    have zx := x.lt
    have er0 := r.cell 0
    have er1 := r.cell 1
    have er2 := r.cell 2
    have zr := r.lt
    go_wp2_with fail
    refine (l13Shift_any m k _ _ c _ xs m k _ _ c _ xs d a _ R (Nat.le_trans hB (by omega)) R (Nat.le_trans hB (by omega))).mono ?_
    rintro e w1 ⟨rfl, hb⟩
    clear ex0 ex1 ex2 zx er0 er1 er2 zr
    replace x := x.all hb
    replace r := r.all hb
    replace R := R.all hb (Nat.le_trans (hB) (by omega))
    replace HB := Lib.hid (HB.out.trans (hb.mono (by omega)))
    replace hsz := Nat.le_trans hsz hb.size
    clear hb
    rw [hso]
    have ex0 := x.cell 0
    have ex1 := x.cell 1
    have ex2 := x.cell 2
    have zx := x.lt
    have er0 := r.cell 0
    have er1 := r.cell 1
    have er2 := r.cell 2
    have zr := r.lt
    go_wp2_with fail
    refine (l2Color_any col _).mono ?_
    rintro e wq ⟨rfl, rfl⟩
    clear ex0 ex1 ex2 zx er0 er1 er2 zr
    rw [hcl]
    have oE := (Own.empty (w := w1) (lo := w.heap.size) (by omega)).alloc (.cells #[.int .i64 m, .int .i64 k, .slice (some ⟨w1.heap.size, 0, none⟩) 0 0] 26)
    have sh := (Blk.new (w1.alloc (.cells #[] 3)) #[.int .i64 m, .int .i64 k, .slice (some ⟨w1.heap.size, 0, none⟩) 0 0] 26).at_ (q := w1.heap.size + 1) (by simp)
    have x2 := (x.alloc (.cells #[] 3)).alloc (.cells #[.int .i64 m, .int .i64 k, .slice (some ⟨w1.heap.size, 0, none⟩) 0 0] 26)
    have r2 := (r.alloc (.cells #[] 3)).alloc (.cells #[.int .i64 m, .int .i64 k, .slice (some ⟨w1.heap.size, 0, none⟩) 0 0] 26)
    have R2 := (R.alloc (Nat.le_trans hB (by omega)) (.cells #[] 3)).alloc (by rw [World.size_alloc]; exact Nat.le_trans hB (by omega)) (.cells #[.int .i64 m, .int .i64 k, .slice (some ⟨w1.heap.size, 0, none⟩) 0 0] 26)
    have HB2 := Lib.hid ((HB.out.alloc (by omega) (.cells #[] 3)).alloc (by rw [World.size_alloc]; omega) (.cells #[.int .i64 m, .int .i64 k, .slice (some ⟨w1.heap.size, 0, none⟩) 0 0] 26))
    have hz2 : w.heap.size + 4 ≤ ((w1.alloc (.cells #[] 3)).alloc (.cells #[.int .i64 m, .int .i64 k, .slice (some ⟨w1.heap.size, 0, none⟩) 0 0] 26)).heap.size := by rw [World.size_alloc, World.size_alloc]; omega
    have hQ : w.heap.size + 2 ≤ w1.heap.size + 1 := by omega
    have ex0 := x.cell 0
    have ex1 := x.cell 1
    have ex2 := x.cell 2
    have zx := x.lt
    have er0 := r.cell 0
    have er1 := r.cell 1
    have er2 := r.cell 2
    have zr := r.lt
    go_upto_region 4 with fail
    clear ex0 ex1 ex2 zx er0 er1 er2 zr
    clear x r R HB hsz
    generalize (w1.alloc (.cells #[] 3)).alloc (.cells #[.int .i64 m, .int .i64 k, .slice (some ⟨w1.heap.size, 0, none⟩) 0 0] 26) = W2 at *
    obtain ⟨Q, hQe⟩ : ∃ Q, w1.heap.size + 1 = Q := ⟨_, rfl⟩
    obtain ⟨G, hGe⟩ : ∃ G, w1.heap.size = G := ⟨_, rfl⟩
    rw [hQe] at sh hQ ⊢
    rw [hGe] at oE sh ⊢
    clear hQe hGe
    go_wp2
    go_loopw [11] (fun s11 wr => ∃ (i : Nat) (A : Option Addr) (c9 : Nat) (K : List Int), i ≤ k ∧ s11 = .int .i64 i ∧ Hid (K = phL m k xs d a col (i * m)) ∧ Own wr w.heap.size (.slice A K.length c9) K ∧ Blk wr Q 26 #[.int .i64 m, .int .i64 k, .slice A K.length c9] ∧ Blk wr w.heap.size 26 #[.int .i64 m, .int .i64 k, .slice (some ⟨b, off, none⟩) xs.length c] ∧ Blk wr (w.heap.size + 1) 26 #[.int .i64 0, .int .i64 0, .slice none 0 0] ∧ Rd wr B (some ⟨b, off, none⟩) xs.length c xs ∧ w.heap.size + 4 ≤ wr.heap.size ∧ Hid (Below w.heap.size w wr)) (fun s11 _ => k - (intOf s11).toNat)
    case atStart => exact ⟨0, _, 0, [], Nat.zero_le _, rfl, Lib.hid (by rw [Nat.zero_mul]; exact phL_zero.symm), oE, sh, x2, r2, R2, hz2, HB2⟩
    case round =>
      clear oE sh x2 r2 R2 hz2 HB2
      obtain ⟨i, A, c9, K, hi, rfl, HK, O, sh, x, r, R, hzz, HB⟩ := hrel
      have e1 := x.cell 1
      by_cases hlt : i < k
      · skip
        go_wp2
        clear e1
        go_loopw [12, 13] (fun s12 _ wr => ∃ (j : Nat) (A : Option Addr) (c9 : Nat) (K : List Int), j ≤ m ∧ s12 = .int .i64 j ∧ Hid (K = phL m k xs d a col (i * m + j)) ∧ Own wr w.heap.size (.slice A K.length c9) K ∧ Blk wr Q 26 #[.int .i64 m, .int .i64 k, .slice A K.length c9] ∧ Blk wr w.heap.size 26 #[.int .i64 m, .int .i64 k, .slice (some ⟨b, off, none⟩) xs.length c] ∧ Blk wr (w.heap.size + 1) 26 #[.int .i64 0, .int .i64 0, .slice none 0 0] ∧ Rd wr B (some ⟨b, off, none⟩) xs.length c xs ∧ w.heap.size + 4 ≤ wr.heap.size ∧ Hid (Below w.heap.size w wr)) (fun s12 _ _ => m - (intOf s12).toNat)
        case atStart => exact ⟨0, A, c9, K, Nat.zero_le _, rfl, HK, O, sh, x, r, R, hzz, HB⟩
        case round =>
          clear HK O sh x r R hzz HB
          obtain ⟨j, A, c9, K, hj, rfl, HK, O, sh, x, r, R, hzz, HB⟩ := hrel
          have e0 := x.cell 0
          by_cases hjl : j < m
          · skip
            have hpl : i * m + j < xs.length := at_lt hl.out hlt hjl
            have HWF := Lib.hid (wr_facts (r := i) (c := j) (Nat.lt_of_lt_of_le hlt hk8) (Nat.lt_of_lt_of_le hjl hm8) hsd.1 hsd.2)
            have hdv := div_of (r := i) hjl
            have HPE := Lib.hid (ptn_eq (m := m) (pm := m) (pk := k) (p := i * m + j) (d := d) (a := a))
            obtain ⟨gg, hg0⟩ : ∃ g, hasP m m k d a (i * m + j) = g := ⟨_, rfl⟩
            have HG := Lib.hid hg0
            have HW := Lib.hid (show knotOk m k xs ((i : Int) + d) ((j : Int) + a) = gg by
              unfold hasP at hg0
              rw [hdv.1, hdv.2] at hg0
              unfold knotOk
              rw [hg, hg0]; rfl)
            rw [hg0, hdv.1, hdv.2] at HPE
            have HPN := Lib.hid (show ∀ ra ca : Nat, (i : Int) + d = (ra : Int) → (j : Int) + a = (ca : Int) → ptn m m d a (i * m + j) = ra * m + ca from fun ra ca e1 e2 => by unfold ptn; rw [hdv.1, hdv.2, e1, e2]; simp)
            have hKl := Lib.hid (show K.length ≤ 64 by rw [HK.out, phL_len]; omega)
            clear hg0 hdv
            have e1 := x.cell 1
            have e2 := x.cell 2
            have hxl := x.lt
            have hBr : B ≤ wr.heap.size := by omega
            obtain ⟨hw1, hw2, hw3, hw4, _, _⟩ := HWF.out
            go_wp2_with fail
            refine (l2Within_any m k _ _ c B xs ((i : Int) + d) ((j : Int) + a) wr R hBr).mono ?_
            rintro e w2 ⟨rfl, hb⟩
            rw [HW.out]
            clear e0 e1 e2 hw1 hw2 hw3 hw4
            replace O := O.all hb
            replace sh := sh.all hb
            replace x := x.all hb
            replace r := r.all hb
            replace R := R.all hb hBr
            replace HB := Lib.hid (HB.out.trans (hb.mono (by omega)))
            replace hzz := Nat.le_trans hzz hb.size
            clear hb hBr
            cases gg with
            | false =>
              have hvi := hci
              have m2 := sh.cell 2
              have hl30 : K.length ≤ 1073741824 := by have := hKl.out; omega
              have hbd := O.bd
              have hz0 : w.heap.size ≤ w2.heap.size := by omega
              have HN := Lib.hid (show K ++ [col] = phL m k xs d a col (i * m + (j + 1)) by rw [← Nat.add_assoc, phL_succ, phV_no HG.out, ← HK.out])
              clear HK
              go_wp2_with (at_builtin; refine wpList_append_one_at w2 rfl (.tmp 62) (.tmp 64) 24 rfl Try.underlying24 info_int w.heap.size K.length _ K col rfl rfl rfl O hl30 hvi hz0 ?_)
              intro A9 c8 w9 ho9 hg9 _
              have sh9 := sh.mark hg9 (row_ne O.1 sh (by decide))
              have x9 := x.mark hg9 (row_ne O.1 x (by decide))
              have r9 := r.mark hg9 (row_ne O.1 r (by decide))
              have R9 := R.mark hg9 (fun q hq => Nat.le_trans hB (hbd q hq).1) (Nat.le_trans hB hz0)
              have HB9 := Lib.hid (HB.out.grown hg9 hz0 (fun q hq => (hbd q hq).1))
              have hz9 := Nat.le_trans hzz hg9.size
              clear hg9 hbd hz0 m2 O sh x r R HB hzz
              have m2 := sh9.cell 2
              have m3 := sh9.frozen 2
              have hQl := sh9.lt
              have hQ0 : w.heap.size ≠ Q ∧ w.heap.size + 1 ≠ Q ∧ B ≤ Q ∧ w.heap.size ≤ Q := by omega
              have o10 := ho9.far (a := ⟨Q, 2, none⟩) (row_ne' ho9.1 sh9 (by decide)) (.slice A9 (K.length + 1) c8)
              have sh10 : Blk (w9.setCell ⟨Q, 2, none⟩ (.slice A9 (K.length + 1) c8)) Q 26 #[.int .i64 m, .int .i64 k, .slice A9 (K.length + 1) c8] := by simpa using sh9.set_ 2 (.slice A9 (K.length + 1) c8)
              have x10 := x9.far (a := ⟨Q, 2, none⟩) hQ0.1 (.slice A9 (K.length + 1) c8)
              have r10 := r9.far (a := ⟨Q, 2, none⟩) hQ0.2.1 (.slice A9 (K.length + 1) c8)
              have R10 := rd_set (p := ⟨Q, 2, none⟩) (v := .slice A9 (K.length + 1) c8) R9 hQ0.2.2.1
              have HB10 := Lib.hid (HB9.out.setCell (p := ⟨Q, 2, none⟩) hQ0.2.2.2 (.slice A9 (K.length + 1) c8))
              have hz10 : w.heap.size + 4 ≤ (w9.setCell ⟨Q, 2, none⟩ (.slice A9 (K.length + 1) c8)).heap.size := by simpa using hz9
              clear sh9 x9 r9 R9 HB9 hz9 ho9
              go_wp2
              go_roundw
              case rel => exact ⟨j + 1, A9, c8, _, hjl, by go_num, HN, by rw [List.length_append]; exact o10, by rw [List.length_append]; exact sh10, x10, r10, R10, hz10, HB10⟩
              case measure => simp [intOf]; omega
            | true =>
              obtain ⟨_, hyl, h0r, h0c, h1r, h1c⟩ := HPE.out rfl
              obtain ⟨ra, hra⟩ := Int.eq_ofNat_of_zero_le h0r
              obtain ⟨ca, hca⟩ := Int.eq_ofNat_of_zero_le h0c
              have hPN := HPN.out ra ca hra hca
              have hra1 : ra < k := by omega
              have hca1 : ca < m := by omega
              have hyl2 : ra * m + ca < xs.length := at_lt hl.out hra1 hca1
              obtain ⟨v, hv⟩ : ∃ v, xs.getD (ra * m + ca) 0 = v := ⟨_, rfl⟩
              have HV := Lib.hid (show phV m k xs d a col (i * m + j) = v by rw [phV_yes HG.out, hPN, hv])
              have hvi : I64 v := by rw [← hv]; exact R.fit _
              have HRA := Lib.hid hra
              have HCA := Lib.hid hca
              have gy := rd_knot R hyl2 hv
              have hbz : b < w2.heap.size := by
                obtain ⟨_, _, e, hb, _⟩ := R.cells (by omega); cases e
                omega
              have e0 := x.cell 0
              have e1 := x.cell 1
              have e2 := x.cell 2
              clear hra hca hPN hyl h0r h0c h1r h1c hyl2 hv HPE HPN
              obtain ⟨hw1, hw2, hw3, hw4, _, _⟩ := HWF.out
              go_wp2_with fail
              refine (l2At_eq m k ra ca b off c xs ((i : Int) + d) ((j : Int) + a) v _ HRA.out HCA.out hl.out hmk hra1 hca1 hbz gy).mono ?_
              rintro e w3 ⟨rfl, hb⟩
              clear e0 e1 e2 hw1 hw2 hw3 hw4 gy
              replace O := O.all hb
              replace sh := sh.all hb
              replace x := x.all hb
              replace r := r.all hb
              replace R := R.all hb (Nat.le_trans hB (by omega))
              replace HB := Lib.hid (HB.out.trans (hb.mono (by omega)))
              replace hzz := Nat.le_trans hzz hb.size
              clear hb hbz
              have m2 := sh.cell 2
              have hl30 : K.length ≤ 1073741824 := by have := hKl.out; omega
              have hbd := O.bd
              have hz0 : w.heap.size ≤ w3.heap.size := by omega
              have HN := Lib.hid (show K ++ [v] = phL m k xs d a col (i * m + (j + 1)) by rw [← Nat.add_assoc, phL_succ, HV.out, ← HK.out])
              clear HK
              go_wp2_with (at_builtin; refine wpList_append_one_at w3 rfl (.tmp 62) (.tmp 64) 24 rfl Try.underlying24 info_int w.heap.size K.length _ K v rfl rfl rfl O hl30 hvi hz0 ?_)
              intro A9 c8 w9 ho9 hg9 _
              have sh9 := sh.mark hg9 (row_ne O.1 sh (by decide))
              have x9 := x.mark hg9 (row_ne O.1 x (by decide))
              have r9 := r.mark hg9 (row_ne O.1 r (by decide))
              have R9 := R.mark hg9 (fun q hq => Nat.le_trans hB (hbd q hq).1) (Nat.le_trans hB hz0)
              have HB9 := Lib.hid (HB.out.grown hg9 hz0 (fun q hq => (hbd q hq).1))
              have hz9 := Nat.le_trans hzz hg9.size
              clear hg9 hbd hz0 m2 O sh x r R HB hzz
              have m2 := sh9.cell 2
              have m3 := sh9.frozen 2
              have hQl := sh9.lt
              have hQ0 : w.heap.size ≠ Q ∧ w.heap.size + 1 ≠ Q ∧ B ≤ Q ∧ w.heap.size ≤ Q := by omega
              have o10 := ho9.far (a := ⟨Q, 2, none⟩) (row_ne' ho9.1 sh9 (by decide)) (.slice A9 (K.length + 1) c8)
              have sh10 : Blk (w9.setCell ⟨Q, 2, none⟩ (.slice A9 (K.length + 1) c8)) Q 26 #[.int .i64 m, .int .i64 k, .slice A9 (K.length + 1) c8] := by simpa using sh9.set_ 2 (.slice A9 (K.length + 1) c8)
              have x10 := x9.far (a := ⟨Q, 2, none⟩) hQ0.1 (.slice A9 (K.length + 1) c8)
              have r10 := r9.far (a := ⟨Q, 2, none⟩) hQ0.2.1 (.slice A9 (K.length + 1) c8)
              have R10 := rd_set (p := ⟨Q, 2, none⟩) (v := .slice A9 (K.length + 1) c8) R9 hQ0.2.2.1
              have HB10 := Lib.hid (HB9.out.setCell (p := ⟨Q, 2, none⟩) hQ0.2.2.2 (.slice A9 (K.length + 1) c8))
              have hz10 : w.heap.size + 4 ≤ (w9.setCell ⟨Q, 2, none⟩ (.slice A9 (K.length + 1) c8)).heap.size := by simpa using hz9
              clear sh9 x9 r9 R9 HB9 hz9 ho9
              go_wp2
              go_roundw
              case rel => exact ⟨j + 1, A9, c8, _, hjl, by go_num, HN, by rw [List.length_append]; exact o10, by rw [List.length_append]; exact sh10, x10, r10, R10, hz10, HB10⟩
              case measure => simp [intOf]; omega
          · have HNN := Lib.hid (show K = phL m k xs d a col ((i + 1) * m) by rw [Nat.succ_mul]; have := HK.out; rwa [show j = m by omega] at this)
            clear HK
            go_wp2
            go_roundw
            case rel => exact ⟨i + 1, A, c9, K, hlt, by go_num, HNN, O, sh, x, r, R, hzz, HB⟩
            case measure => simp [intOf]; omega
      · have HF := Lib.hid (show phX m k xs d a col = K by
          have e : xs.length = i * m := by rw [hl.out, Nat.mul_comm, show i = k by omega]
          rw [HX.out, HK.out, e])
        have F := fin3 (p := w.heap.size + 1) (a := .int .i64 m) (b := .int .i64 k) (c := .slice A K.length c9) O (row_ne' O.1 r (by decide)) HB.out (by omega)
        have m0 := sh.cell 0
        have m1 := sh.cell 1
        have m2 := sh.cell 2
        have r0 := r.cell 0
        have r1 := r.cell 1
        have r2 := r.cell 2
        have f0 := r.frozen 0
        have f1 := r.frozen 1
        have f2 := r.frozen 2
        have hrl := r.lt
        go_wp2
        rw [HF.out]
        exact bodyPost_ret (v := .tuple #[chartV m k (.slice A K.length c9), .bool true]) (by simp [results, Try.results30, go_sem, r0, r1, r2]) rfl ⟨A, c9, rfl, F.1, F.2⟩
end Go.Proofs.Ytgkflgfjbaobcaa
