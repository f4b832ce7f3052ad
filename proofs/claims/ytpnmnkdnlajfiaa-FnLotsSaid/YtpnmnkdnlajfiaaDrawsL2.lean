/- The draw of an assignment. Condition: a code of at most 65536 bytes. -/
import Derived.Test.YtpnmnkdnlajfiaaDrawsL
import Derived.Test.YtpnmnkdnlajfiaaMgRest
namespace Go.Proofs.Ytpnmnkdnlajfiaa
open Go.RowKit
set_option maxRecDepth 100000

theorem srL_64 (W H : Int) (xs : List Int) (f : Int) (ls : List Int) : (srL (frst W H xs f ls)).length ≤ 64 := by
  cases hs : srchOk W H xs f ls with
  | false => rw [frst_no hs]; simp [srL]
  | true =>
    rw [frst_yes hs]
    cases h : fst12 (sizesX W H xs f) ls with
    | none => simp [srL]
    | some r =>
      have h1 := (fst_some _ _ _ h).1
      have := (sizesX_rng (W := W) (H := H) (xs := xs) (color := f)).1
      simp only [srL, upI_len]
      omega
set_option maxRecDepth 100000 in
set_option maxHeartbeats 8000000 in
theorem drawIsAssignment_any (A : Option Addr) (n c B : Nat) (w : World) (h : RdB w B A n c) (hB : B ≤ w.heap.size) (hn : n ≤ 65536) : Calls Try.prog 13 #[.slice A n c] w (GaveAsg w) := by
  have hb0 := (Below.refl w.heap.size w).alloc (Nat.le_refl _) (.cells #[.int .i64 0, .int .i64 0, .slice none 0 0] 26)
  have r0 := (Blk.new w #[.int .i64 0, .int .i64 0, .slice none 0 0] 26).alloc (.cells #[.slice A n c, .int .i64 0, .int .u64 0] 45)
  have hc0 : Cur ((w.alloc (.cells #[.int .i64 0, .int .i64 0, .slice none 0 0] 26)).alloc (.cells #[.slice A n c, .int .i64 0, .int .u64 0] 45)) (w.heap.size + 1) 0 := by
    have := cur_new (h.alloc hB (.cells #[.int .i64 0, .int .i64 0, .slice none 0 0] 26)) (by simp; omega) hn
    simpa using this
  have hb1 := hb0.alloc (by simp) (.cells #[.slice A n c, .int .i64 0, .int .u64 0] 45)
  clear h hb0
  go_enter Try.func13, Try.ntmps13
  go_wp2_with fail
  refine (dyed_any (w.heap.size + 1) 0 _ hc0 (by omega)).mono ?_
  rintro e w1 ⟨W, H, A1, c1, xs, f, A2, c2, ls, rfl, hsm, hf, hll, own, own2, hc1, hg1⟩
  have r1 := r0.mark hg1 (fun z hz => by cases hz; omega)
  have HB1 := hb1.trans (grown_below (B := w.heap.size) hg1 (by omega) (by simp; omega))
  have hno : ∀ (v : Value) (zs : List Int), Own w1 (((w.alloc (.cells #[.int .i64 0, .int .i64 0, .slice none 0 0] 26)).alloc (.cells #[.slice A n c, .int .i64 0, .int .u64 0] 45)).heap.size) v zs → ∀ z, v.ownBlock = some z → z ≠ w.heap.size + 1 := fun v zs ho z hz => by have := (ho.bd z hz).1; simp at this; omega
  have hne1 := hno _ _ own
  have hne2 := hno _ _ own2
  replace own := own.mono (show w.heap.size ≤ _ by simp; omega)
  replace own2 := own2.mono (show w.heap.size ≤ _ by simp; omega)
  clear hc0 hg1 r0 hb1 hno
  have hz := r1.lt
  have hzc := hc1.lt
  have hal := (Below.refl w1.heap.size w1).alloc (Nat.le_refl _) (.cells #[.int .i64 W, .int .i64 H, .slice A1 xs.length c1] 26)
  have R3 := r1.all hal
  have C3 := hc1.all hal
  have O3 := own.all hal
  have O4 := own2.all hal
  have HB3 := HB1.trans (hal.mono HB1.size)
  have X3 := Blk.new w1 #[.int .i64 W, .int .i64 H, .slice A1 xs.length c1] 26
  clear hal r1 own own2 HB1 hc1
  have e0 := X3.cell 0
  have e1 := X3.cell 1
  have e2 := X3.cell 2
  go_wp2_with fail
  clear e0 e1 e2
  obtain ⟨w3, hw3⟩ : ∃ v, w1.alloc (.cells #[.int .i64 W, .int .i64 H, .slice A1 xs.length c1] 26) = v := ⟨_, rfl⟩
  rw [hw3] at R3 C3 O3 O4 HB3 X3 ⊢
  obtain ⟨Q, hQ⟩ : ∃ q, w1.heap.size = q := ⟨_, rfl⟩
  rw [hQ] at X3 hz hzc ⊢
  clear hw3 hQ
  refine (specFirstAssignment_any W H A1 _ c1 _ xs f A2 _ c2 _ ls _ O3.rd (Nat.le_refl _) O4.rd (Nat.le_refl _)).mono ?_
  rintro e w4 ⟨A5, c5, rfl, O5, hb⟩
  have hne5 : ∀ z, (Value.slice A5 (srL (frst W H xs f ls)).length c5).ownBlock = some z → z ≠ w.heap.size + 1 := fun z hz' => by have := (O5.bd z hz').1; have := C3.lt; omega
  replace O5 := O5.mono HB3.size
  replace R3 := R3.all hb
  replace X3 := X3.all hb
  replace C3 := C3.all hb
  replace O3 := O3.all hb
  replace O4 := O4.all hb
  replace HB3 := HB3.trans (hb.mono HB3.size)
  clear hb
  have hlen : (srL (frst W H xs f ls)).length ≤ 64 := srL_64 W H xs f ls
  obtain ⟨fr, hfr⟩ : ∃ v, srL (frst W H xs f ls) = v := ⟨_, rfl⟩
  obtain ⟨ok, hok⟩ : ∃ v, (frst W H xs f ls).isSome = v := ⟨_, rfl⟩
  rw [hfr] at O5 hlen hne5 ⊢
  rw [hok]
  clear hfr hok
  cases ok with
  | false =>
    clear O5 hne5 hlen
    obtain ⟨B0, hB0⟩ : ∃ b, w4.heap.size = b := ⟨_, rfl⟩
    have hzB : B0 ≤ w4.heap.size := by omega
    have HDZ : Hid (∀ z', ((Value.slice A1 xs.length c1).ownBlock = some z' ∨ (Value.slice A2 ls.length c2).ownBlock = some z') → z' < B0) := Lib.hid fun z' hz' => by rcases hz' with hz' | hz'; (· have h1 := (O3.bd z' hz').2; omega); (· have h1 := (O4.bd z' hz').2; omega)
    have hB2 : w.heap.size + 2 ≤ B0 := by have := X3.lt; omega
    have hb := (Below.refl w4.heap.size w4).alloc (Nat.le_refl _) (.cells #[] 3)
    have O5 : Own (w4.alloc (.cells #[] 3)) B0 (.slice (some ⟨w4.heap.size, 0, none⟩) 0 0) [] := (Own.empty (Nat.le_refl _)).mono (Nat.le_of_eq hB0.symm)
    have hne5 : ∀ z, (Value.slice (some ⟨w4.heap.size, 0, none⟩) 0 0).ownBlock = some z → z ≠ w.heap.size + 1 := fun z hz' => by have e : w4.heap.size = z := Option.some.inj hz'; have := C3.lt; omega
    replace hzB := Nat.le_trans hzB hb.size
    clear hB0
    replace R3 := R3.all hb
    replace X3 := X3.all hb
    replace C3 := C3.all hb
    replace O3 := O3.all hb
    replace O4 := O4.all hb
    replace HB3 := HB3.trans (hb.mono HB3.size)
    clear hb
    go_wp2_with fail
    refine (pick_any (w.heap.size + 1) (0 + 2000) 5 _ C3 (by omega) (by omega) (by omega)).mono ?_
    rintro e w6 ⟨n0, rfl, hn0, hc, hg⟩
    replace hzB := Nat.le_trans hzB hg.size
    replace R3 := R3.mark hg (fun z hz => by cases hz; omega)
    replace X3 := X3.mark hg (fun z hz => by cases hz; omega)
    replace O3 := O3.mark hg (fun z z' hz hz' => by cases hz; exact fun e => hne1 z' hz' e.symm)
    replace O4 := O4.mark hg (fun z z' hz hz' => by cases hz; exact fun e => hne2 z' hz' e.symm)
    replace O5 := O5.mark hg (fun z z' hz hz' => by cases hz; exact fun e => hne5 z' hz' e.symm)
    replace HB3 := HB3.trans (grown_below (B := w.heap.size) hg (by omega) HB3.size)
    clear C3
    have C3 := hc
    clear hc hg
    obtain ⟨j0, rfl⟩ := Int.eq_ofNat_of_zero_le hn0.1
    have hj4 : j0 ≤ 4 := by omega
    clear hn0
    have HNE := Lib.hid hne1
    have HNE2 := Lib.hid hne2
    go_wp2
    go_loopw [12, 13] (fun s12 s13 wr => ∃ (j kk : Nat) (az : List Int) (A5 : Option Addr) (c5 : Nat), j ≤ 4 ∧ s13 = .int .i64 j ∧ s12 = .slice A5 az.length c5 ∧ az.length + j ≤ 4 ∧ kk + 4 * j ≤ 3000 ∧ Own wr w.heap.size (.slice A1 xs.length c1) xs ∧ Own wr w.heap.size (.slice A2 ls.length c2) ls ∧ B0 ≤ wr.heap.size ∧ Own wr B0 (.slice A5 az.length c5) az ∧ Cur wr (w.heap.size + 1) kk ∧ Blk wr w.heap.size 26 #[.int .i64 0, .int .i64 0, .slice none 0 0] ∧ Blk wr Q 26 #[.int .i64 W, .int .i64 H, .slice A1 xs.length c1] ∧ Hid (Below w.heap.size w wr)) (fun _ s13 _ => (intOf s13).toNat)
    case atStart => exact ⟨j0, (0 + 2000) + 2, [], _, 0, by omega, rfl, rfl, by simp; omega, by omega, O3, O4, hzB, O5, C3, R3, X3, Lib.hid HB3⟩
    case round =>
      clear O3 O4 O5 hzB C3 R3 X3 HB3 hj4 hne1 hne2 hne5
      obtain ⟨j, kk, az, A5, c5, hj4, rfl, rfl, haj, hkk, O3, O4, hzB, O5, C3, R3, X3, HBh⟩ := hrel
      have HB3 := HBh.out
      clear HBh
      have hne1 := HNE.out
      have hne2 := HNE2.out
      by_cases hj : 0 < j
      · have hji : (0 : Int) < (j : Int) := by omega
        have hne5 : ∀ z, (Value.slice A5 az.length c5).ownBlock = some z → z ≠ w.heap.size + 1 := fun z hz' => by have := (O5.bd z hz').1; omega
        go_wp2_with fail
        refine (pick_any (w.heap.size + 1) kk 3 _ C3 (by omega) (by omega) (by omega)).mono ?_
        rintro e w7 ⟨y, rfl, hy, hc, hg⟩
        replace hzB := Nat.le_trans hzB hg.size
        replace R3 := R3.mark hg (fun z hz => by cases hz; omega)
        replace X3 := X3.mark hg (fun z hz => by cases hz; omega)
        replace O3 := O3.mark hg (fun z z' hz hz' => by cases hz; exact fun e => hne1 z' hz' e.symm)
        replace O4 := O4.mark hg (fun z z' hz hz' => by cases hz; exact fun e => hne2 z' hz' e.symm)
        replace O5 := O5.mark hg (fun z z' hz hz' => by cases hz; exact fun e => hne5 z' hz' e.symm)
        replace HB3 := HB3.trans (grown_below (B := w.heap.size) hg (by omega) HB3.size)
        clear C3
        have C3 := hc
        clear hc hg
        go_wp2_with fail
        refine (pick_any (w.heap.size + 1) (kk + 2) 9 _ C3 (by omega) (by omega) (by omega)).mono ?_
        rintro e w8 ⟨u, rfl, hu, hc, hg⟩
        replace hzB := Nat.le_trans hzB hg.size
        replace R3 := R3.mark hg (fun z hz => by cases hz; omega)
        replace X3 := X3.mark hg (fun z hz => by cases hz; omega)
        replace O3 := O3.mark hg (fun z z' hz hz' => by cases hz; exact fun e => hne1 z' hz' e.symm)
        replace O4 := O4.mark hg (fun z z' hz hz' => by cases hz; exact fun e => hne2 z' hz' e.symm)
        replace O5 := O5.mark hg (fun z z' hz hz' => by cases hz; exact fun e => hne5 z' hz' e.symm)
        replace HB3 := HB3.trans (grown_below (B := w.heap.size) hg (by omega) HB3.size)
        clear C3
        have C3 := hc
        clear hc hg
        have hq8 : Int.tdiv u 8 = u / 8 := Int.tdiv_eq_ediv_of_nonneg hu.1
        obtain ⟨v, hv⟩ : ∃ v, u / 8 = v := ⟨_, rfl⟩
        have hv1 : 0 ≤ v ∧ v ≤ 1 := by omega
        rw [hv] at hq8
        have hwv : IntKind.i64.wrap (y - v) = y - v := IntWalk.i64_in _ (by omega)
        have hwu : IntKind.i64.wrap v = v := IntWalk.i64_in _ (by omega)
        have hy64 : I64 (y - v) := ⟨by omega, by omega⟩
        clear hv hu hy
        go_wp2_with (at_builtin; refine wpList_append_one w8 rfl (.tmp 47) (.tmp 54) 24 rfl Try.underlying24 info_int B0 _ az (y - v) rfl rfl O5 (by omega) hy64 hzB ?_)
        intro A9 c9 w9 O9 hg9
        have R9 := R3.mark hg9 (row_ne O5.1 R3 (by decide))
        have X9 := X3.mark hg9 (row_ne O5.1 X3 (by decide))
        have C9 := C3.mark hg9 (fun z hz => by have := (O5.bd z hz).1; omega)
        have O39 := O3.mark hg9 (fun z z' hz hz' => by have h1 := HDZ.out z' (.inl hz'); have h2 := (O5.bd z hz).1; omega)
        have O49 := O4.mark hg9 (fun z z' hz hz' => by have h1 := HDZ.out z' (.inr hz'); have h2 := (O5.bd z hz).1; omega)
        have HB9 := HB3.trans ((Below.refl w.heap.size w8).grown hg9 HB3.size (fun z hz => by have := (O5.bd z hz).1; omega))
        replace hzB := Nat.le_trans hzB hg9.size
        obtain ⟨zs, hzs, hzl⟩ : ∃ zs, az ++ [y - v] = zs ∧ az.length + 1 = zs.length := ⟨_, rfl, by simp⟩
        have hz1 : zs.length ≤ az.length + 1 := by omega
        have hz2 : az.length + 1 ≤ zs.length := by omega
        rw [hzs] at O9
        rw [hzl] at O9 ⊢
        clear hzs hzl hg9 O5 R3 X3 C3 O3 O4 HB3
        go_wp2
        go_roundw
        case rel => exact ⟨j - 1, kk + 2 + 2, zs, A9, c9, by omega, by go_num, rfl, by omega, by omega, O39, O49, hzB, O9, C9, R9, X9, Lib.hid HB9⟩
        case measure => simp [intOf]; omega
      · skip
        obtain rfl : j = 0 := by omega
        replace O5 := O5.mono (show w.heap.size ≤ B0 by omega)
        go_upto_region 11 with fail
        clear C3
        have F0 := fin3 (p := w.heap.size) (a := .int .i64 W) (b := .int .i64 H) (c := .slice A1 xs.length c1) O3 (row_ne' O3.1 R3 (by decide)) HB3 (Nat.le_refl _)
        have F1 := fin3 (p := w.heap.size) (a := .int .i64 W) (b := .int .i64 H) (c := .slice A1 xs.length c1) O4 (row_ne' O4.1 R3 (by decide)) HB3 (Nat.le_refl _)
        have F2 := fin3 (p := w.heap.size) (a := .int .i64 W) (b := .int .i64 H) (c := .slice A1 xs.length c1) O5 (row_ne' O5.1 R3 (by decide)) HB3 (Nat.le_refl _)
        have g0 := R3.cell 0
        have g1 := R3.cell 1
        have g2 := R3.cell 2
        have z0 := R3.frozen 0
        have z1 := R3.frozen 1
        have z2 := R3.frozen 2
        have e0 := X3.cell 0
        have e1 := X3.cell 1
        have e2 := X3.cell 2
        go_wp2
        exact bodyPost_ret (v := .tuple #[chartV W H (.slice A1 xs.length c1), .int .i64 f, .slice A2 ls.length c2, .slice A5 az.length c5]) (by simp [results, Try.results13, go_sem, *]) rfl ⟨W, H, A1, c1, xs, f, A2, c2, ls, A5, c5, az, rfl, hsm, hf, hll, (by omega), F0.1, F1.1, F2.1, F0.2⟩
  | true =>
    go_wp2_with fail
    refine (one_any (w.heap.size + 1) (0 + 2000) 4 _ C3 (by omega) (by omega) (by omega)).mono ?_
    rintro e w5 ⟨d, rfl, hc, hg⟩
    replace R3 := R3.mark hg (fun z hz => by cases hz; omega)
    replace X3 := X3.mark hg (fun z hz => by cases hz; omega)
    replace O3 := O3.mark hg (fun z z' hz hz' => by cases hz; exact fun e => hne1 z' hz' e.symm)
    replace O4 := O4.mark hg (fun z z' hz hz' => by cases hz; exact fun e => hne2 z' hz' e.symm)
    replace O5 := O5.mark hg (fun z z' hz hz' => by cases hz; exact fun e => hne5 z' hz' e.symm)
    replace HB3 := HB3.trans (grown_below (B := w.heap.size) hg (by omega) HB3.size)
    clear C3
    have C3 := hc
    clear hc hg
    cases d with
    | true =>
      clear O5 hne5 hlen
      obtain ⟨B0, hB0⟩ : ∃ b, w5.heap.size = b := ⟨_, rfl⟩
      have hzB : B0 ≤ w5.heap.size := by omega
      have HDZ : Hid (∀ z', ((Value.slice A1 xs.length c1).ownBlock = some z' ∨ (Value.slice A2 ls.length c2).ownBlock = some z') → z' < B0) := Lib.hid fun z' hz' => by rcases hz' with hz' | hz'; (· have h1 := (O3.bd z' hz').2; omega); (· have h1 := (O4.bd z' hz').2; omega)
      have hB2 : w.heap.size + 2 ≤ B0 := by have := X3.lt; omega
      have hb := (Below.refl w5.heap.size w5).alloc (Nat.le_refl _) (.cells #[] 3)
      have O5 : Own (w5.alloc (.cells #[] 3)) B0 (.slice (some ⟨w5.heap.size, 0, none⟩) 0 0) [] := (Own.empty (Nat.le_refl _)).mono (Nat.le_of_eq hB0.symm)
      have hne5 : ∀ z, (Value.slice (some ⟨w5.heap.size, 0, none⟩) 0 0).ownBlock = some z → z ≠ w.heap.size + 1 := fun z hz' => by have e : w5.heap.size = z := Option.some.inj hz'; have := C3.lt; omega
      replace hzB := Nat.le_trans hzB hb.size
      clear hB0
      replace R3 := R3.all hb
      replace X3 := X3.all hb
      replace C3 := C3.all hb
      replace O3 := O3.all hb
      replace O4 := O4.all hb
      replace HB3 := HB3.trans (hb.mono HB3.size)
      clear hb
      go_wp2_with fail
      refine (pick_any (w.heap.size + 1) (0 + 2000 + 2) 5 _ C3 (by omega) (by omega) (by omega)).mono ?_
      rintro e w6 ⟨n0, rfl, hn0, hc, hg⟩
      replace hzB := Nat.le_trans hzB hg.size
      replace R3 := R3.mark hg (fun z hz => by cases hz; omega)
      replace X3 := X3.mark hg (fun z hz => by cases hz; omega)
      replace O3 := O3.mark hg (fun z z' hz hz' => by cases hz; exact fun e => hne1 z' hz' e.symm)
      replace O4 := O4.mark hg (fun z z' hz hz' => by cases hz; exact fun e => hne2 z' hz' e.symm)
      replace O5 := O5.mark hg (fun z z' hz hz' => by cases hz; exact fun e => hne5 z' hz' e.symm)
      replace HB3 := HB3.trans (grown_below (B := w.heap.size) hg (by omega) HB3.size)
      clear C3
      have C3 := hc
      clear hc hg
      obtain ⟨j0, rfl⟩ := Int.eq_ofNat_of_zero_le hn0.1
      have hj4 : j0 ≤ 4 := by omega
      clear hn0
      have HNE := Lib.hid hne1
      have HNE2 := Lib.hid hne2
      go_wp2
      go_loopw [12, 13] (fun s12 s13 wr => ∃ (j kk : Nat) (az : List Int) (A5 : Option Addr) (c5 : Nat), j ≤ 4 ∧ s13 = .int .i64 j ∧ s12 = .slice A5 az.length c5 ∧ az.length + j ≤ 4 ∧ kk + 4 * j ≤ 3000 ∧ Own wr w.heap.size (.slice A1 xs.length c1) xs ∧ Own wr w.heap.size (.slice A2 ls.length c2) ls ∧ B0 ≤ wr.heap.size ∧ Own wr B0 (.slice A5 az.length c5) az ∧ Cur wr (w.heap.size + 1) kk ∧ Blk wr w.heap.size 26 #[.int .i64 0, .int .i64 0, .slice none 0 0] ∧ Blk wr Q 26 #[.int .i64 W, .int .i64 H, .slice A1 xs.length c1] ∧ Hid (Below w.heap.size w wr)) (fun _ s13 _ => (intOf s13).toNat)
      case atStart => exact ⟨j0, (0 + 2000 + 2) + 2, [], _, 0, by omega, rfl, rfl, by simp; omega, by omega, O3, O4, hzB, O5, C3, R3, X3, Lib.hid HB3⟩
      case round =>
        clear O3 O4 O5 hzB C3 R3 X3 HB3 hj4 hne1 hne2 hne5
        obtain ⟨j, kk, az, A5, c5, hj4, rfl, rfl, haj, hkk, O3, O4, hzB, O5, C3, R3, X3, HBh⟩ := hrel
        have HB3 := HBh.out
        clear HBh
        have hne1 := HNE.out
        have hne2 := HNE2.out
        by_cases hj : 0 < j
        · have hji : (0 : Int) < (j : Int) := by omega
          have hne5 : ∀ z, (Value.slice A5 az.length c5).ownBlock = some z → z ≠ w.heap.size + 1 := fun z hz' => by have := (O5.bd z hz').1; omega
          go_wp2_with fail
          refine (pick_any (w.heap.size + 1) kk 3 _ C3 (by omega) (by omega) (by omega)).mono ?_
          rintro e w7 ⟨y, rfl, hy, hc, hg⟩
          replace hzB := Nat.le_trans hzB hg.size
          replace R3 := R3.mark hg (fun z hz => by cases hz; omega)
          replace X3 := X3.mark hg (fun z hz => by cases hz; omega)
          replace O3 := O3.mark hg (fun z z' hz hz' => by cases hz; exact fun e => hne1 z' hz' e.symm)
          replace O4 := O4.mark hg (fun z z' hz hz' => by cases hz; exact fun e => hne2 z' hz' e.symm)
          replace O5 := O5.mark hg (fun z z' hz hz' => by cases hz; exact fun e => hne5 z' hz' e.symm)
          replace HB3 := HB3.trans (grown_below (B := w.heap.size) hg (by omega) HB3.size)
          clear C3
          have C3 := hc
          clear hc hg
          go_wp2_with fail
          refine (pick_any (w.heap.size + 1) (kk + 2) 9 _ C3 (by omega) (by omega) (by omega)).mono ?_
          rintro e w8 ⟨u, rfl, hu, hc, hg⟩
          replace hzB := Nat.le_trans hzB hg.size
          replace R3 := R3.mark hg (fun z hz => by cases hz; omega)
          replace X3 := X3.mark hg (fun z hz => by cases hz; omega)
          replace O3 := O3.mark hg (fun z z' hz hz' => by cases hz; exact fun e => hne1 z' hz' e.symm)
          replace O4 := O4.mark hg (fun z z' hz hz' => by cases hz; exact fun e => hne2 z' hz' e.symm)
          replace O5 := O5.mark hg (fun z z' hz hz' => by cases hz; exact fun e => hne5 z' hz' e.symm)
          replace HB3 := HB3.trans (grown_below (B := w.heap.size) hg (by omega) HB3.size)
          clear C3
          have C3 := hc
          clear hc hg
          have hq8 : Int.tdiv u 8 = u / 8 := Int.tdiv_eq_ediv_of_nonneg hu.1
          obtain ⟨v, hv⟩ : ∃ v, u / 8 = v := ⟨_, rfl⟩
          have hv1 : 0 ≤ v ∧ v ≤ 1 := by omega
          rw [hv] at hq8
          have hwv : IntKind.i64.wrap (y - v) = y - v := IntWalk.i64_in _ (by omega)
          have hwu : IntKind.i64.wrap v = v := IntWalk.i64_in _ (by omega)
          have hy64 : I64 (y - v) := ⟨by omega, by omega⟩
          clear hv hu hy
          go_wp2_with (at_builtin; refine wpList_append_one w8 rfl (.tmp 47) (.tmp 54) 24 rfl Try.underlying24 info_int B0 _ az (y - v) rfl rfl O5 (by omega) hy64 hzB ?_)
          intro A9 c9 w9 O9 hg9
          have R9 := R3.mark hg9 (row_ne O5.1 R3 (by decide))
          have X9 := X3.mark hg9 (row_ne O5.1 X3 (by decide))
          have C9 := C3.mark hg9 (fun z hz => by have := (O5.bd z hz).1; omega)
          have O39 := O3.mark hg9 (fun z z' hz hz' => by have h1 := HDZ.out z' (.inl hz'); have h2 := (O5.bd z hz).1; omega)
          have O49 := O4.mark hg9 (fun z z' hz hz' => by have h1 := HDZ.out z' (.inr hz'); have h2 := (O5.bd z hz).1; omega)
          have HB9 := HB3.trans ((Below.refl w.heap.size w8).grown hg9 HB3.size (fun z hz => by have := (O5.bd z hz).1; omega))
          replace hzB := Nat.le_trans hzB hg9.size
          obtain ⟨zs, hzs, hzl⟩ : ∃ zs, az ++ [y - v] = zs ∧ az.length + 1 = zs.length := ⟨_, rfl, by simp⟩
          have hz1 : zs.length ≤ az.length + 1 := by omega
          have hz2 : az.length + 1 ≤ zs.length := by omega
          rw [hzs] at O9
          rw [hzl] at O9 ⊢
          clear hzs hzl hg9 O5 R3 X3 C3 O3 O4 HB3
          go_wp2
          go_roundw
          case rel => exact ⟨j - 1, kk + 2 + 2, zs, A9, c9, by omega, by go_num, rfl, by omega, by omega, O39, O49, hzB, O9, C9, R9, X9, Lib.hid HB9⟩
          case measure => simp [intOf]; omega
        · skip
          obtain rfl : j = 0 := by omega
          replace O5 := O5.mono (show w.heap.size ≤ B0 by omega)
          go_upto_region 11 with fail
          clear C3
          have F0 := fin3 (p := w.heap.size) (a := .int .i64 W) (b := .int .i64 H) (c := .slice A1 xs.length c1) O3 (row_ne' O3.1 R3 (by decide)) HB3 (Nat.le_refl _)
          have F1 := fin3 (p := w.heap.size) (a := .int .i64 W) (b := .int .i64 H) (c := .slice A1 xs.length c1) O4 (row_ne' O4.1 R3 (by decide)) HB3 (Nat.le_refl _)
          have F2 := fin3 (p := w.heap.size) (a := .int .i64 W) (b := .int .i64 H) (c := .slice A1 xs.length c1) O5 (row_ne' O5.1 R3 (by decide)) HB3 (Nat.le_refl _)
          have g0 := R3.cell 0
          have g1 := R3.cell 1
          have g2 := R3.cell 2
          have z0 := R3.frozen 0
          have z1 := R3.frozen 1
          have z2 := R3.frozen 2
          have e0 := X3.cell 0
          have e1 := X3.cell 1
          have e2 := X3.cell 2
          go_wp2
          exact bodyPost_ret (v := .tuple #[chartV W H (.slice A1 xs.length c1), .int .i64 f, .slice A2 ls.length c2, .slice A5 az.length c5]) (by simp [results, Try.results13, go_sem, *]) rfl ⟨W, H, A1, c1, xs, f, A2, c2, ls, A5, c5, az, rfl, hsm, hf, hll, (by omega), F0.1, F1.1, F2.1, F0.2⟩
    | false =>
      go_upto_region 5 with fail
      clear C3
      have F0 := fin3 (p := w.heap.size) (a := .int .i64 W) (b := .int .i64 H) (c := .slice A1 xs.length c1) O3 (row_ne' O3.1 R3 (by decide)) HB3 (Nat.le_refl _)
      have F1 := fin3 (p := w.heap.size) (a := .int .i64 W) (b := .int .i64 H) (c := .slice A1 xs.length c1) O4 (row_ne' O4.1 R3 (by decide)) HB3 (Nat.le_refl _)
      have F2 := fin3 (p := w.heap.size) (a := .int .i64 W) (b := .int .i64 H) (c := .slice A1 xs.length c1) O5 (row_ne' O5.1 R3 (by decide)) HB3 (Nat.le_refl _)
      have g0 := R3.cell 0
      have g1 := R3.cell 1
      have g2 := R3.cell 2
      have z0 := R3.frozen 0
      have z1 := R3.frozen 1
      have z2 := R3.frozen 2
      have e0 := X3.cell 0
      have e1 := X3.cell 1
      have e2 := X3.cell 2
      go_wp2
      exact bodyPost_ret (v := .tuple #[chartV W H (.slice A1 xs.length c1), .int .i64 f, .slice A2 ls.length c2, .slice A5 fr.length c5]) (by simp [results, Try.results13, go_sem, *]) rfl ⟨W, H, A1, c1, xs, f, A2, c2, ls, A5, c5, fr, rfl, hsm, hf, hll, (by omega), F0.1, F1.1, F2.1, F0.2⟩
end Go.Proofs.Ytpnmnkdnlajfiaa
