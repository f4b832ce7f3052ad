/- The walk of the cursor's ringed: a small chart, mostly with a ring, with a pattern at times. Condition: few draws. -/
import Derived.Test.YtjfdcmdgpeeabaaPatt8
import Derived.Test.YtjfdcmdgpeeabaaMgDraws
import Derived.Test.YtjfdcmdgpeeabaaRing2
import Derived.Test.YtjfdcmdgpeeabaaFar3
namespace Go.Proofs.Ytjfdcmdgpeeabaa
open Go.RowKit

theorem Blk.far3r {w : World} {p q : Nat} {t : TypeId} {cs : Array Value} {a b c : Value} (h : Blk w q t cs) (hp : q ≠ p) : Blk (((w.setCell ⟨p, 0, none⟩ a).setCell ⟨p, 1, none⟩ b).setCell ⟨p, 2, none⟩ c) q t cs :=
  ((h.far (a := ⟨p, 0, none⟩) hp a).far (a := ⟨p, 1, none⟩) hp b).far (a := ⟨p, 2, none⟩) hp c
theorem Blk.put3r {w : World} {p : Nat} {t : TypeId} {a b c : Value} (h : Blk w p t #[a, b, c]) (a' b' c' : Value) : Blk (((w.setCell ⟨p, 0, none⟩ a').setCell ⟨p, 1, none⟩ b').setCell ⟨p, 2, none⟩ c') p t #[a', b', c'] := by
  have := ((h.set_ 0 a').set_ 1 b').set_ 2 c'
  simpa using this
theorem ringNat {W H : Int} {xs : List Int} (h : hasRingB W H xs = true) : ∃ m k : Nat, W = m ∧ H = k ∧ 2 ≤ m ∧ m ≤ 8 ∧ 2 ≤ k ∧ k ≤ 8 ∧ Hid (xs.length = m * k) ∧ goodB m k xs = true ∧ xs.length ≤ 64 ∧ 1 ≤ xs.length := by
  simp only [hasRingB, Bool.and_eq_true] at h
  obtain ⟨⟨hg, hW⟩, hH⟩ := h
  obtain ⟨m, k, rfl, rfl, _, _, _, _, hl, h64, hl1, _⟩ := good_nat hg
  have h1 := inB_yes hW
  have h2 := inB_yes hH
  exact ⟨m, k, rfl, rfl, by omega, by omega, by omega, by omega, hl, hg, h64, hl1⟩
/-- A drawn chart with sides of at most nine. -/
def Small8 (W H : Int) (xs : List Int) : Prop := xs.length ≤ 1000 ∧ Side9 W ∧ Side9 H
set_option maxRecDepth 100000 in
set_option maxHeartbeats 16000000 in
theorem ringed_any9 (p k : Nat) (w : World) (h : Cur w p k) (hk : k + 2000 ≤ 4294967296) : Calls Try.prog 47 #[.pointer (some ⟨p, 0, none⟩)] w (DrewChart w p (k + 2000) Small8) := by
  have hpw := h.lt
  have hb0 := (Below.refl w.heap.size w).alloc (Nat.le_refl _) (.cells #[.int .i64 0, .int .i64 0, .slice none 0 0] 26)
  have G := below_grown (row := some p) hb0
  have C := h.all hb0
  have R := Blk.new w #[.int .i64 0, .int .i64 0, .slice none 0 0] 26
  clear h hb0
  go_enter Try.func47, Try.ntmps47
  go_wp2_with fail
  refine (among_lit p k (w.heap.size + 1) 6 [2, 3, 4, 5, 6, 8] (w.alloc (.cells #[.int .i64 0, .int .i64 0, .slice none 0 0] 26)) (by simp) rfl C (by omega) (by decide) (by decide) (I64.lit (by decide))).mono ?_
  rintro e w2 ⟨y1, rfl, hy1, hc, hg⟩
  have hy1b : 2 ≤ y1 ∧ y1 ≤ 8 := by simp at hy1; omega
  obtain ⟨XW, rfl⟩ := Int.eq_ofNat_of_zero_le (show 0 ≤ y1 by omega)
  have hXW : 2 ≤ XW ∧ XW ≤ 8 := by omega
  replace R := R.mark hg (fun z hz => by cases hz; omega)
  replace G := grown_trans G hg
  replace C := hc
  clear hc hg hy1 hy1b
  go_wp2_with fail
  refine (among_lit p (k + 2) w2.heap.size 5 [2, 3, 4, 5, 8] w2 rfl rfl C (by omega) (by decide) (by decide) (I64.lit (by decide))).mono ?_
  rintro e w3 ⟨y1, rfl, hy1, hc, hg⟩
  have hy1b : 2 ≤ y1 ∧ y1 ≤ 8 := by simp at hy1; omega
  obtain ⟨XH, rfl⟩ := Int.eq_ofNat_of_zero_le (show 0 ≤ y1 by omega)
  have hXH : 2 ≤ XH ∧ XH ≤ 8 := by omega
  replace R := R.mark hg (fun z hz => by cases hz; omega)
  replace G := grown_trans G hg
  replace C := hc
  clear hc hg hy1 hy1b
  go_wp2_with fail
  refine (plain_any p (k + 2 + 2) XW XH _ C (by have := Nat.mul_le_mul hXW.2 hXH.2; omega) (by omega) (by omega)).mono ?_
  rintro e w4 ⟨W7, H7, A7, c7, xs, rfl, ⟨rfl, rfl, hl7⟩, ON, hc, hg⟩
  have HL7 := Lib.hid hl7
  clear hl7
  replace hc := hc.more (show _ ≤ k + 300 by have := Nat.mul_le_mul hXW.2 hXH.2; omega)
  replace ON := ON.mono (show w.heap.size ≤ _ from G.size)
  replace R := R.mark hg (fun z hz => by cases hz; omega)
  replace G := grown_trans G hg
  replace C := hc
  clear hc hg
  have hal := (Below.refl w4.heap.size w4).alloc (Nat.le_refl _) (.cells #[.int .i64 (XW : Int), .int .i64 (XH : Int), .slice A7 xs.length c7] 26)
  have XN := Blk.new w4 #[.int .i64 (XW : Int), .int .i64 (XH : Int), .slice A7 xs.length c7] 26
  have CN := C.all hal
  have RN := R.all hal
  replace ON := ON.all hal
  have GN := grown_trans G (below_grown (row := some p) hal)
  have hql8 := R.lt
  have hqp8 : w4.heap.size ≠ p := by have := C.lt; omega
  clear hal C R G
  go_wp2_with fail
  obtain ⟨ws, hws⟩ : ∃ v, w4.alloc (.cells #[.int .i64 (XW : Int), .int .i64 (XH : Int), .slice A7 xs.length c7] 26) = v := ⟨_, rfl⟩
  rw [hws] at XN CN RN ON GN ⊢
  obtain ⟨q8, hq8⟩ : ∃ q, w4.heap.size = q := ⟨_, rfl⟩
  rw [hq8] at XN hql8 hqp8 ⊢
  clear hws hq8
  have hq0 : w.heap.size < q8 := hql8
  have hne : ∀ z', (Value.slice A7 xs.length c7).ownBlock = some z' → z' ≠ p := fun z' hz' => by have h1 := (ON.bd z' hz').1; omega
  have h64 : XW * XH ≤ 8 * 8 := Nat.mul_le_mul hXW.2 hXH.2
  have hl7 := HL7.out
  have hsm : Small8 (XW : Int) (XH : Int) xs := ⟨by omega, ⟨by omega, by omega⟩, ⟨by omega, by omega⟩⟩
  clear hl7
  refine (one_any p (k + 300) 8 _ CN (by omega) (by omega) (by omega)).mono ?_
  rintro e wu ⟨d, rfl, hc, hg⟩
  replace RN := RN.mark hg (fun z hz => by cases hz; omega)
  replace XN := XN.mark hg (fun z hz => by cases hz; exact fun e => hqp8 e.symm)
  replace ON := ON.mark hg (fun z z' hz hz' => by cases hz; exact fun e => hne z' hz' e.symm)
  replace GN := grown_trans GN hg
  replace CN := hc
  clear hc hg
  cases d with
  | false =>
    clear HL7 h64
    go_wp2_with fail
    refine (pattern8_any p (k + 300 + 2) _ CN (by omega)).mono ?_
    rintro e wp ⟨A9, c9, ps, rfl, hp9, own9, hc, hg⟩
    have hn9 : ∀ z', (Value.slice A9 ps.length c9).ownBlock = some z' → z' ≠ p := fun z' hz' => by have h1 := (own9.bd z' hz').1; have h2 := CN.lt; omega
    replace own9 := own9.mono (show w.heap.size ≤ _ from GN.size)
    replace RN := RN.mark hg (fun z hz => by cases hz; omega)
    replace XN := XN.mark hg (fun z hz => by cases hz; exact fun e => hqp8 e.symm)
    replace ON := ON.mark hg (fun z z' hz hz' => by cases hz; exact fun e => hne z' hz' e.symm)
    replace GN := grown_trans GN hg
    replace CN := hc
    clear hc hg
    have ex0 := XN.cell 0
    have ex1 := XN.cell 1
    have ex2 := XN.cell 2
    have hlx := XN.lt
    go_wp2_with fail
    refine (l8Good_any XW XH A7 _ c7 _ xs _ ON.rd (Nat.le_refl _)).mono ?_
    rintro e wg ⟨rfl, hb⟩
    replace CN := CN.all hb
    replace RN := RN.all hb
    replace XN := XN.all hb
    replace ON := ON.all hb
    replace own9 := own9.all hb
    replace GN := grown_trans GN (below_grown (row := some p) hb)
    clear hb ex0 ex1 ex2 hlx
    obtain ⟨bg, hbg⟩ : ∃ b, hasRingB XW XH xs = b := ⟨_, rfl⟩
    rw [hbg]
    cases bg with
    | false =>
      clear hbg
      have ex0 := XN.cell 0
      have ex1 := XN.cell 1
      have ex2 := XN.cell 2
      have hlx := XN.lt
      have g0 := RN.cell 0
      have g1 := RN.cell 1
      have g2 := RN.cell 2
      have z0 := RN.frozen 0
      have z1 := RN.frozen 1
      have z2 := RN.frozen 2
      have F := fin3 (p := w.heap.size) (w0 := _) (B := w.heap.size) (a := .int .i64 XW) (b := .int .i64 XH) (c := .slice A7 xs.length c7) ON (row_ne' ON.1 RN (by decide)) (Below.refl _ _) (Nat.le_refl _)
      have CNs := CN.below F.2 hpw
      have GNs := grown_own GN F.2
      have ONs := F.1
      clear F
      go_wp2
      exact bodyPost_ret (v := chartV XW XH (.slice A7 xs.length c7)) (by simp [results, Try.results47, go_sem, g0, g1, g2]) rfl ⟨XW, XH, A7, c7, xs, rfl, hsm, ONs, CNs.more (by omega), GNs⟩
    | true =>
      go_wp2_with fail
      refine (l8Pattern_any A9 _ c9 _ ps _ own9.rd).mono ?_
      rintro e w' ⟨rfl, rfl⟩
      obtain ⟨bp, hbp⟩ : ∃ b, patB ps = b := ⟨_, rfl⟩
      rw [hbp]
      cases bp with
      | false =>
        clear hbg hbp
        have ex0 := XN.cell 0
        have ex1 := XN.cell 1
        have ex2 := XN.cell 2
        have hlx := XN.lt
        have g0 := RN.cell 0
        have g1 := RN.cell 1
        have g2 := RN.cell 2
        have z0 := RN.frozen 0
        have z1 := RN.frozen 1
        have z2 := RN.frozen 2
        have F := fin3 (p := w.heap.size) (w0 := _) (B := w.heap.size) (a := .int .i64 XW) (b := .int .i64 XH) (c := .slice A7 xs.length c7) ON (row_ne' ON.1 RN (by decide)) (Below.refl _ _) (Nat.le_refl _)
        have CNs := CN.below F.2 hpw
        have GNs := grown_own GN F.2
        have ONs := F.1
        clear F
        go_wp2
        exact bodyPost_ret (v := chartV XW XH (.slice A7 xs.length c7)) (by simp [results, Try.results47, go_sem, g0, g1, g2]) rfl ⟨XW, XH, A7, c7, xs, rfl, hsm, ONs, CNs.more (by omega), GNs⟩
      | true =>
        go_wp2_with fail
        refine (one_any p ((k + 300 + 2) + 60) 2 _ CN (by omega) (by omega) (by omega)).mono ?_
        rintro e wo ⟨d, rfl, hc, hg⟩
        replace own9 := own9.mark hg (fun z z' hz hz' => by cases hz; exact fun e => hn9 z' hz' e.symm)
        replace RN := RN.mark hg (fun z hz => by cases hz; omega)
        replace XN := XN.mark hg (fun z hz => by cases hz; exact fun e => hqp8 e.symm)
        replace ON := ON.mark hg (fun z z' hz hz' => by cases hz; exact fun e => hne z' hz' e.symm)
        replace GN := grown_trans GN hg
        replace CN := hc
        clear hc hg
        cases d with
        | false =>
          clear hbg hbp
          have ex0 := XN.cell 0
          have ex1 := XN.cell 1
          have ex2 := XN.cell 2
          have hlx := XN.lt
          have g0 := RN.cell 0
          have g1 := RN.cell 1
          have g2 := RN.cell 2
          have z0 := RN.frozen 0
          have z1 := RN.frozen 1
          have z2 := RN.frozen 2
          have F := fin3 (p := w.heap.size) (w0 := _) (B := w.heap.size) (a := .int .i64 XW) (b := .int .i64 XH) (c := .slice A7 xs.length c7) ON (row_ne' ON.1 RN (by decide)) (Below.refl _ _) (Nat.le_refl _)
          have CNs := CN.below F.2 hpw
          have GNs := grown_own GN F.2
          have ONs := F.1
          clear F
          go_wp2
          exact bodyPost_ret (v := chartV XW XH (.slice A7 xs.length c7)) (by simp [results, Try.results47, go_sem, g0, g1, g2]) rfl ⟨XW, XH, A7, c7, xs, rfl, hsm, ONs, CNs.more (by omega), GNs⟩
        | true =>
          obtain ⟨m8, k8, hWm, hHk, m2, m8b, k2, k8b, hl8, h64, hl1⟩ := ringNat hbg
          have hp1 := (patB_yes hbp).1
          rw [hWm, hHk] at XN
          obtain ⟨g7, rfl, hg7a, hg7b⟩ := ON.some_ (by omega)
          obtain ⟨g9, rfl, hg9a, hg9b⟩ := own9.some_ (by omega)
          clear hbg hbp
          have ex0 := XN.cell 0
          have ex1 := XN.cell 1
          have ex2 := XN.cell 2
          have hlx := XN.lt
          go_wp2_with fail
          refine (l8Put_any m8 k8 g7 0 c7 _ g9 0 c9 _ xs ps _ ON.rd own9.rd (Nat.le_refl _) (Nat.le_refl _) m2 m8b k2 k8b hl8 hp1).mono ?_
          rintro e w6 ⟨A6, c6, rfl, own6, hb⟩
          clear ex0 ex1 ex2 hlx
          have hpl : (putRing m8 k8 xs ps).length = xs.length := by simp [putRing_len]
          replace own6 := own6.mono (show w.heap.size ≤ _ from GN.size)
          replace CN := CN.all hb
          replace RN := RN.all hb
          replace GN := grown_trans GN (below_grown (row := some p) hb)
          clear hb ON own9 XN
          have g0 := RN.cell 0
          have g1 := RN.cell 1
          have g2 := RN.cell 2
          have z0 := RN.frozen 0
          have z1 := RN.frozen 1
          have z2 := RN.frozen 2
          have F := fin3 (p := w.heap.size) (w0 := _) (B := w.heap.size) (a := .int .i64 (m8 : Int)) (b := .int .i64 (k8 : Int)) (c := .slice A6 (putRing m8 k8 xs ps).length c6) own6 (row_ne' own6.1 RN (by decide)) (Below.refl _ _) (Nat.le_refl _)
          have CNs := CN.below F.2 hpw
          have GNs := grown_own GN F.2
          have ONs := F.1
          clear F
          have hs6 : Small8 (m8 : Int) (k8 : Int) (putRing m8 k8 xs ps) := ⟨by rw [hpl]; omega, ⟨by omega, by omega⟩, ⟨by omega, by omega⟩⟩
          clear hpl
          go_wp2
          exact bodyPost_ret (v := chartV (m8 : Int) (k8 : Int) (.slice A6 (putRing m8 k8 xs ps).length c6)) (by simp [results, Try.results47, go_sem, g0, g1, g2]) rfl ⟨(m8 : Int), (k8 : Int), A6, c6, (putRing m8 k8 xs ps), rfl, hs6, ONs, CNs.more (by omega), GNs⟩
  | true =>
    clear hsm hne HL7 h64 ON
    go_wp2_with fail
    refine (chart_any9 p (k + 300 + 2) _ CN (by omega)).mono ?_
    rintro e wc ⟨W5, H5, A5, c5, ys, rfl, hsm, ON, hc, hg⟩
    have hne : ∀ z', (Value.slice A5 ys.length c5).ownBlock = some z' → z' ≠ p := fun z' hz' => by have h1 := (ON.bd z' hz').1; have h2 := CN.lt; omega
    replace ON := ON.mono (show w.heap.size ≤ _ from GN.size)
    replace RN := RN.mark hg (fun z hz => by cases hz; omega)
    replace XN := XN.mark hg (fun z hz => by cases hz; exact fun e => hqp8 e.symm)
    replace GN := grown_trans GN hg
    replace CN := hc
    clear hc hg
    have g0 := XN.cell 0
    have g1 := XN.cell 1
    have g2 := XN.cell 2
    have z0 := XN.frozen 0
    have z1 := XN.frozen 1
    have z2 := XN.frozen 2
    have F_ON := fin3 (p := q8) (w0 := wc) (B := w.heap.size) (a := .int .i64 W5) (b := .int .i64 H5) (c := .slice A5 ys.length c5) ON (row_ne' ON.1 XN (by decide)) (Below.refl _ _) (by omega)
    have CNs := CN.below F_ON.2 hpw
    have GNs := grown_own GN F_ON.2
    have RNs := RN.far3r (p := q8) (a := .int .i64 W5) (b := .int .i64 H5) (c := .slice A5 ys.length c5) (by omega)
    have XNs := XN.put3r (.int .i64 W5) (.int .i64 H5) (.slice A5 ys.length c5)
    clear CN GN XN RN ON
    go_wp2_with fail
    obtain ⟨wv, hws⟩ : ∃ v, ((wc.setCell ⟨q8, 0, none⟩ (.int .i64 W5)).setCell ⟨q8, 1, none⟩ (.int .i64 H5)).setCell ⟨q8, 2, none⟩ (.slice A5 ys.length c5) = v := ⟨_, rfl⟩
    rw [hws] at CNs GNs XNs RNs F_ON ⊢
    clear hws g0 g1 g2 z0 z1 z2
    have ONs := F_ON.1
    clear F_ON
    have CN := CNs
    have GN := GNs
    have RN := RNs
    have XN := XNs
    have ON := ONs
    clear CNs GNs RNs XNs ONs
    go_wp2_with fail
    refine (pattern8_any p (k + 300 + 2 + 1000) _ CN (by omega)).mono ?_
    rintro e wp ⟨A9, c9, ps, rfl, hp9, own9, hc, hg⟩
    have hn9 : ∀ z', (Value.slice A9 ps.length c9).ownBlock = some z' → z' ≠ p := fun z' hz' => by have h1 := (own9.bd z' hz').1; have h2 := CN.lt; omega
    replace own9 := own9.mono (show w.heap.size ≤ _ from GN.size)
    replace RN := RN.mark hg (fun z hz => by cases hz; omega)
    replace XN := XN.mark hg (fun z hz => by cases hz; exact fun e => hqp8 e.symm)
    replace ON := ON.mark hg (fun z z' hz hz' => by cases hz; exact fun e => hne z' hz' e.symm)
    replace GN := grown_trans GN hg
    replace CN := hc
    clear hc hg
    have ex0 := XN.cell 0
    have ex1 := XN.cell 1
    have ex2 := XN.cell 2
    have hlx := XN.lt
    go_wp2_with fail
    refine (l8Good_any W5 H5 A5 _ c5 _ ys _ ON.rd (Nat.le_refl _)).mono ?_
    rintro e wg ⟨rfl, hb⟩
    replace CN := CN.all hb
    replace RN := RN.all hb
    replace XN := XN.all hb
    replace ON := ON.all hb
    replace own9 := own9.all hb
    replace GN := grown_trans GN (below_grown (row := some p) hb)
    clear hb ex0 ex1 ex2 hlx
    obtain ⟨bg, hbg⟩ : ∃ b, hasRingB W5 H5 ys = b := ⟨_, rfl⟩
    rw [hbg]
    cases bg with
    | false =>
      clear hbg
      have ex0 := XN.cell 0
      have ex1 := XN.cell 1
      have ex2 := XN.cell 2
      have hlx := XN.lt
      have g0 := RN.cell 0
      have g1 := RN.cell 1
      have g2 := RN.cell 2
      have z0 := RN.frozen 0
      have z1 := RN.frozen 1
      have z2 := RN.frozen 2
      have F := fin3 (p := w.heap.size) (w0 := _) (B := w.heap.size) (a := .int .i64 W5) (b := .int .i64 H5) (c := .slice A5 ys.length c5) ON (row_ne' ON.1 RN (by decide)) (Below.refl _ _) (Nat.le_refl _)
      have CNs := CN.below F.2 hpw
      have GNs := grown_own GN F.2
      have ONs := F.1
      clear F
      go_wp2
      exact bodyPost_ret (v := chartV W5 H5 (.slice A5 ys.length c5)) (by simp [results, Try.results47, go_sem, g0, g1, g2]) rfl ⟨W5, H5, A5, c5, ys, rfl, hsm, ONs, CNs.more (by omega), GNs⟩
    | true =>
      go_wp2_with fail
      refine (l8Pattern_any A9 _ c9 _ ps _ own9.rd).mono ?_
      rintro e w' ⟨rfl, rfl⟩
      obtain ⟨bp, hbp⟩ : ∃ b, patB ps = b := ⟨_, rfl⟩
      rw [hbp]
      cases bp with
      | false =>
        clear hbg hbp
        have ex0 := XN.cell 0
        have ex1 := XN.cell 1
        have ex2 := XN.cell 2
        have hlx := XN.lt
        have g0 := RN.cell 0
        have g1 := RN.cell 1
        have g2 := RN.cell 2
        have z0 := RN.frozen 0
        have z1 := RN.frozen 1
        have z2 := RN.frozen 2
        have F := fin3 (p := w.heap.size) (w0 := _) (B := w.heap.size) (a := .int .i64 W5) (b := .int .i64 H5) (c := .slice A5 ys.length c5) ON (row_ne' ON.1 RN (by decide)) (Below.refl _ _) (Nat.le_refl _)
        have CNs := CN.below F.2 hpw
        have GNs := grown_own GN F.2
        have ONs := F.1
        clear F
        go_wp2
        exact bodyPost_ret (v := chartV W5 H5 (.slice A5 ys.length c5)) (by simp [results, Try.results47, go_sem, g0, g1, g2]) rfl ⟨W5, H5, A5, c5, ys, rfl, hsm, ONs, CNs.more (by omega), GNs⟩
      | true =>
        go_wp2_with fail
        refine (one_any p ((k + 300 + 2 + 1000) + 60) 2 _ CN (by omega) (by omega) (by omega)).mono ?_
        rintro e wo ⟨d, rfl, hc, hg⟩
        replace own9 := own9.mark hg (fun z z' hz hz' => by cases hz; exact fun e => hn9 z' hz' e.symm)
        replace RN := RN.mark hg (fun z hz => by cases hz; omega)
        replace XN := XN.mark hg (fun z hz => by cases hz; exact fun e => hqp8 e.symm)
        replace ON := ON.mark hg (fun z z' hz hz' => by cases hz; exact fun e => hne z' hz' e.symm)
        replace GN := grown_trans GN hg
        replace CN := hc
        clear hc hg
        cases d with
        | false =>
          clear hbg hbp
          have ex0 := XN.cell 0
          have ex1 := XN.cell 1
          have ex2 := XN.cell 2
          have hlx := XN.lt
          have g0 := RN.cell 0
          have g1 := RN.cell 1
          have g2 := RN.cell 2
          have z0 := RN.frozen 0
          have z1 := RN.frozen 1
          have z2 := RN.frozen 2
          have F := fin3 (p := w.heap.size) (w0 := _) (B := w.heap.size) (a := .int .i64 W5) (b := .int .i64 H5) (c := .slice A5 ys.length c5) ON (row_ne' ON.1 RN (by decide)) (Below.refl _ _) (Nat.le_refl _)
          have CNs := CN.below F.2 hpw
          have GNs := grown_own GN F.2
          have ONs := F.1
          clear F
          go_wp2
          exact bodyPost_ret (v := chartV W5 H5 (.slice A5 ys.length c5)) (by simp [results, Try.results47, go_sem, g0, g1, g2]) rfl ⟨W5, H5, A5, c5, ys, rfl, hsm, ONs, CNs.more (by omega), GNs⟩
        | true =>
          obtain ⟨m8, k8, hWm, hHk, m2, m8b, k2, k8b, hl8, h64, hl1⟩ := ringNat hbg
          have hp1 := (patB_yes hbp).1
          rw [hWm, hHk] at XN
          obtain ⟨g7, rfl, hg7a, hg7b⟩ := ON.some_ (by omega)
          obtain ⟨g9, rfl, hg9a, hg9b⟩ := own9.some_ (by omega)
          clear hbg hbp
          have ex0 := XN.cell 0
          have ex1 := XN.cell 1
          have ex2 := XN.cell 2
          have hlx := XN.lt
          go_wp2_with fail
          refine (l8Put_any m8 k8 g7 0 c5 _ g9 0 c9 _ ys ps _ ON.rd own9.rd (Nat.le_refl _) (Nat.le_refl _) m2 m8b k2 k8b hl8 hp1).mono ?_
          rintro e w6 ⟨A6, c6, rfl, own6, hb⟩
          clear ex0 ex1 ex2 hlx
          have hpl : (putRing m8 k8 ys ps).length = ys.length := by simp [putRing_len]
          replace own6 := own6.mono (show w.heap.size ≤ _ from GN.size)
          replace CN := CN.all hb
          replace RN := RN.all hb
          replace GN := grown_trans GN (below_grown (row := some p) hb)
          clear hb ON own9 XN
          have g0 := RN.cell 0
          have g1 := RN.cell 1
          have g2 := RN.cell 2
          have z0 := RN.frozen 0
          have z1 := RN.frozen 1
          have z2 := RN.frozen 2
          have F := fin3 (p := w.heap.size) (w0 := _) (B := w.heap.size) (a := .int .i64 (m8 : Int)) (b := .int .i64 (k8 : Int)) (c := .slice A6 (putRing m8 k8 ys ps).length c6) own6 (row_ne' own6.1 RN (by decide)) (Below.refl _ _) (Nat.le_refl _)
          have CNs := CN.below F.2 hpw
          have GNs := grown_own GN F.2
          have ONs := F.1
          clear F
          have hs6 : Small8 (m8 : Int) (k8 : Int) (putRing m8 k8 ys ps) := ⟨by rw [hpl]; omega, ⟨by omega, by omega⟩, ⟨by omega, by omega⟩⟩
          clear hpl
          go_wp2
          exact bodyPost_ret (v := chartV (m8 : Int) (k8 : Int) (.slice A6 (putRing m8 k8 ys ps).length c6)) (by simp [results, Try.results47, go_sem, g0, g1, g2]) rfl ⟨(m8 : Int), (k8 : Int), A6, c6, (putRing m8 k8 ys ps), rfl, hs6, ONs, CNs.more (by omega), GNs⟩
theorem ringed_any (p k : Nat) (w : World) (h : Cur w p k) (hk : k + 2000 ≤ 4294967296) : Calls Try.prog 47 #[.pointer (some ⟨p, 0, none⟩)] w (DrewChart w p (k + 2000) Small) := by
  refine (ringed_any9 p k w h hk).mono ?_
  rintro e w' ⟨W, H, A, c, xs, he, ⟨h1, h2, h3⟩, ho, hc, hg⟩
  exact ⟨W, H, A, c, xs, he, ⟨h1, h2.fit, h3.fit⟩, ho, hc, hg⟩
end Go.Proofs.Ytjfdcmdgpeeabaa
