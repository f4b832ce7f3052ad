/- The walks of FillArea, both texts. No condition. -/
import Derived.Test.YtgahompcejbjoaaNeighborsS
namespace Go.Proofs.Ytgahompcejbjoaa
open Go.RowKit

/-- A chart in which the places of P have a color. -/
def FilS (xs : List Int) (color : Int) (P : Nat → Prop) (L : List Int) : Prop := L.length = xs.length ∧ ∀ x, x < xs.length → (P x → L.getD x 0 = color) ∧ (¬ P x → L.getD x 0 = xs.getD x 0)
theorem FilS.start {xs : List Int} {color : Int} {P : Nat → Prop} (h : ∀ x, ¬ P x) : FilS xs color P xs := ⟨rfl, fun x _ => ⟨fun g => absurd g (h x), fun _ => rfl⟩⟩
theorem FilS.put {xs L : List Int} {color : Int} {P P' : Nat → Prop} {y : Nat} (h : FilS xs color P L) (hy : y < xs.length) (hP : ∀ x, P' x ↔ P x ∨ x = y) : FilS xs color P' (L.set y color) := by
  refine ⟨by rw [List.length_set]; exact h.1, fun x hx => ?_⟩
  rw [hP x]
  by_cases e : x = y
  · subst e
    refine ⟨fun _ => getD_set_self (by rw [h.1]; exact hx), fun g => absurd (.inr rfl) g⟩
  · rw [getD_set_ne e]
    obtain ⟨h1, h2⟩ := h.2 x hx
    exact ⟨fun g => h1 (g.elim id fun e' => absurd e' e), fun g => h2 fun g' => g (.inl g')⟩
theorem FilS.congr {xs L : List Int} {color : Int} {P P' : Nat → Prop} (h : FilS xs color P L) (hP : ∀ x, P' x ↔ P x) : FilS xs color P' L :=
  ⟨h.1, fun x hx => by rw [hP x]; exact h.2 x hx⟩
noncomputable def fillL (m : Nat) (xs : List Int) (a color : Int) : List Int := (List.range xs.length).map fun x => if labAt m xs x = a then color else xs.getD x 0
theorem FilS.end_ {m : Nat} {xs L : List Int} {a color : Int} {P : Nat → Prop} (h : FilS xs color P L) (hP : ∀ x, x < xs.length → (P x ↔ labAt m xs x = a)) : L = fillL m xs a color := by
  refine List.ext_getElem (by rw [h.1, fillL]; simp) fun x hx hx' => ?_
  have hxN : x < xs.length := by rw [← h.1]; exact hx
  obtain ⟨h1, h2⟩ := h.2 x hxN
  rw [getD_at hx] at h1 h2
  simp only [fillL, List.getElem_map, List.getElem_range]
  by_cases e : labAt m xs x = a
  · rw [if_pos e]; exact h1 ((hP x hxN).2 e)
  · rw [if_neg e]; exact h2 fun g => e ((hP x hxN).1 g)
noncomputable def fillOk (W H : Int) (xs : List Int) (a color : Int) : Bool := hasArea W H xs a && isColorB color
noncomputable def fillX (W H : Int) (xs : List Int) (a color : Int) : List Int := if fillOk W H xs a color = true then fillL W.toNat xs a color else []
theorem fillX_len (W H : Int) (xs : List Int) (a color : Int) : (fillX W H xs a color).length ≤ 1048576 := by
  unfold fillX
  split
  · next h =>
    have h1 : goodB W H xs = true := by simp only [fillOk, hasArea, Bool.and_eq_true] at h; exact h.1.1
    have := (good_bd h1).1
    simp [fillL]; omega
  · simp
theorem fill_no {W H : Int} {xs : List Int} {a color : Int} (h : fillOk W H xs a color = false) : orZero (fillOk W H xs a color) W = 0 ∧ orZero (fillOk W H xs a color) H = 0 ∧ fillX W H xs a color = [] := ⟨by rw [h]; rfl, by rw [h]; rfl, if_neg (by rw [h]; decide)⟩
theorem fill_yes {m k : Nat} {xs : List Int} {a color : Int} (h : fillOk m k xs a color = true) : orZero (fillOk m k xs a color) m = m ∧ orZero (fillOk m k xs a color) k = k ∧ fillX m k xs a color = fillL m xs a color := ⟨by rw [h]; rfl, by rw [h]; rfl, if_pos h⟩
theorem fillOk_1 {W H : Int} {xs : List Int} {a color : Int} (h : hasArea W H xs a = false) : fillOk W H xs a color = false := by simp [fillOk, h]
theorem fillOk_2 {W H : Int} {xs : List Int} {a color : Int} (h : isColorB color = false) : fillOk W H xs a color = false := by simp [fillOk, h]
theorem fillOk_3 {W H : Int} {xs : List Int} {a color : Int} (h : hasArea W H xs a = true) (h' : isColorB color = true) : fillOk W H xs a color = true := by simp [fillOk, h, h']
set_option maxRecDepth 100000 in
set_option maxHeartbeats 8000000 in
theorem implFillArea_any (W H : Int) (A : Option Addr) (n c B : Nat) (xs : List Int) (a color : Int) (w : World) (h : Rd w B A n c xs) (hB : B ≤ w.heap.size) :
    Calls Try.prog 19 #[chartV W H (.slice A n c), .int .i64 a, .int .i64 color] w (OutChart w (orZero (fillOk W H xs a color) W) (orZero (fillOk W H xs a color) H) (fillX W H xs a color) (fillOk W H xs a color)) := by
  cases hg : goodB W H xs with
  | false =>
    have hb0 := Lib.hid (((Below.refl w.heap.size w).alloc (Nat.le_refl _) (.cells #[.int .i64 W, .int .i64 H, .slice A n c] 26)).alloc (by simp) (.cells #[.int .i64 0, .int .i64 0, .slice none 0 0] 26))
    have h' := (h.alloc hB (.cells #[.int .i64 W, .int .i64 H, .slice A n c] 26)).alloc (by simp; omega) (.cells #[.int .i64 0, .int .i64 0, .slice none 0 0] 26)
    have r0 := (Blk.new (w.alloc (.cells #[.int .i64 W, .int .i64 H, .slice A n c] 26)) #[.int .i64 0, .int .i64 0, .slice none 0 0] 26)
    have H2 := Lib.hid (fillOk_1 (color := color) (hasArea_no1 (a := a) hg))
    go_enter Try.func19, Try.ntmps19
    go_wp2_with fail
    refine (placesOfArea_bad W H A n c B xs a _ h' (by simp; omega) hg).mono ?_
    rintro e w1 ⟨rfl, hb⟩
    have r1 := (r0.all hb).at_ (q := w.heap.size + 1) (by simp)
    have HB := Lib.hid (hb0.out.trans (hb.mono (by simp; omega)))
    clear hb r0
    have g0 := r1.cell 0
    have g1 := r1.cell 1
    have g2 := r1.cell 2
    have z0 := r1.frozen 0
    have z1 := r1.frozen 1
    have z2 := r1.frozen 2
    have HX := Lib.hid (fill_no H2.out)
    go_wp2
    rw [HX.out.1, HX.out.2.1, HX.out.2.2, H2.out]
    have F := fin3 (p := w.heap.size + 1) (a := .int .i64 0) (b := .int .i64 0) (c := .slice none 0 0) (Own.nil _ w.heap.size) (by simp [Value.ownBlock]) HB.out (by omega)
    exact bodyPost_ret (v := .tuple #[chartV 0 0 (.slice none 0 0), .bool false]) (by simp [results, Try.results19, go_sem, g0, g1, g2]) rfl ⟨none, 0, rfl, F.1, F.2⟩
  | true =>
    obtain ⟨m, k, b, off, rfl, rfl, rfl, rfl, hm, hm8, hk1, hk8, hl, h64, hN, _⟩ := good_open hg h
    obtain ⟨d, hd⟩ : ∃ d, inB a 0 (((cntOf m xs : Nat) : Int) - 1) = d := ⟨_, rfl⟩
    have HA := Lib.hid ((hasArea_eq (a := a) hg).trans hd)
    have x0 := (Cx.start (m := m) (k := k) h hB).alloc (.cells #[.int .i64 0, .int .i64 0, .slice none 0 0] 26)
    have r0 : Blk ((w.alloc (.cells #[.int .i64 m, .int .i64 k, .slice (some ⟨b, off, none⟩) xs.length c] 26)).alloc (.cells #[.int .i64 0, .int .i64 0, .slice none 0 0] 26)) (w.heap.size + 1) 26 #[.int .i64 0, .int .i64 0, .slice none 0 0] := (Blk.new (w.alloc (.cells #[.int .i64 m, .int .i64 k, .slice (some ⟨b, off, none⟩) xs.length c] 26)) #[.int .i64 0, .int .i64 0, .slice none 0 0] 26).at_ (by simp)
    clear h
    go_enter Try.func19, Try.ntmps19
    go_upto_region 1 with fail
    generalize (w.alloc (.cells #[.int .i64 m, .int .i64 k, .slice (some ⟨b, off, none⟩) xs.length c] 26)).alloc (.cells #[.int .i64 0, .int .i64 0, .slice none 0 0] 26) = w0 at *
    have e0 := x0.c0
    have e1 := x0.c1
    have e2 := x0.c2
    have hz0 := r0.lt
    go_wp2_with fail
    refine (placesOfArea_good m k b off c B xs a d _ x0.rd (by have := x0.sz; omega) hg hm hm8 hk1 hk8 hl hd).mono ?_
    rintro e w1 ⟨A1, c1, l, rfl, oL, hb, HLL⟩
    have x1 := x0.all hb
    have r1 := r0.all hb
    have hz1 := r1.lt
    clear hb e0 e1 e2 x0 r0
    cases d with
    | false =>
      have H2 := Lib.hid (fillOk_1 (color := color) HA.out)
      have HB := Lib.hid x1.bel
      clear HLL oL x1
      have g0 := r1.cell 0
      have g1 := r1.cell 1
      have g2 := r1.cell 2
      have z0 := r1.frozen 0
      have z1 := r1.frozen 1
      have z2 := r1.frozen 2
      have HX := Lib.hid (fill_no H2.out)
      go_wp2
      rw [HX.out.1, HX.out.2.1, HX.out.2.2, H2.out]
      have F := fin3 (p := w.heap.size + 1) (a := .int .i64 0) (b := .int .i64 0) (c := .slice none 0 0) (Own.nil _ w.heap.size) (by simp [Value.ownBlock]) HB.out (by omega)
      exact bodyPost_ret (v := .tuple #[chartV 0 0 (.slice none 0 0), .bool false]) (by simp [results, Try.results19, go_sem, g0, g1, g2]) rfl ⟨none, 0, rfl, F.1, F.2⟩
    | true =>
      have HLM := Lib.hid (HLL.out rfl)
      clear HLL
      go_wp2_with fail
      refine (isColor_any color w1).mono ?_
      rintro e w2 ⟨rfl, rfl⟩
      cases hcl : isColorB color with
      | false =>
        have H2 := Lib.hid (fillOk_2 (W := m) (H := k) (xs := xs) (a := a) hcl)
        have HB := Lib.hid x1.bel
        clear oL x1
        have g0 := r1.cell 0
        have g1 := r1.cell 1
        have g2 := r1.cell 2
        have z0 := r1.frozen 0
        have z1 := r1.frozen 1
        have z2 := r1.frozen 2
        have HX := Lib.hid (fill_no H2.out)
        go_wp2
        rw [HX.out.1, HX.out.2.1, HX.out.2.2, H2.out]
        have F := fin3 (p := w.heap.size + 1) (a := .int .i64 0) (b := .int .i64 0) (c := .slice none 0 0) (Own.nil _ w.heap.size) (by simp [Value.ownBlock]) HB.out (by omega)
        exact bodyPost_ret (v := .tuple #[chartV 0 0 (.slice none 0 0), .bool false]) (by simp [results, Try.results19, go_sem, g0, g1, g2]) rfl ⟨none, 0, rfl, F.1, F.2⟩
      | true =>
        have H2 := Lib.hid (fillOk_3 HA.out hcl)
        have HX := Lib.hid (fill_yes H2.out)
        have hci : I64 color := by have := isColorB_yes hcl; exact ⟨by omega, by omega⟩
        have e0 := x1.c0
        have e1 := x1.c1
        have e2 := x1.c2
        have hn20 : xs.length ≤ 1048576 := by omega
        have hl64 : l.length ≤ 64 := Nat.le_trans (nodup_le xs.length l HLM.out.1 (fun x hx => ((HLM.out.2 x).1 hx).1)) h64
        go_wp2_with fail
        refine (copyChart_any m k _ _ c B xs _ x1.rd (by have := x1.sz; omega) hn20).mono ?_
        rintro e w3 ⟨A3, cf, rfl, oC, hb3⟩
        have x3 := x1.all hb3
        have r3 := r1.all hb3
        have oL3 := (oL.all hb3).mono (show w.heap.size ≤ w0.heap.size by omega)
        obtain ⟨gf, rfl, hgf, hgfb⟩ := oC.some_ (by omega)
        have oF3 := oC.mono (show w.heap.size + 2 ≤ w1.heap.size by omega)
        have hgl := Lib.hid (show ∀ q, (Value.slice A1 l.length c1).ownBlock = some q → q ≠ gf from fun q hq e => by have := (oL.bd q hq).2; omega)
        clear oC oL hb3 x1 r1 e0 e1 e2
        have xF0 := Blk.new w3 #[.int .i64 m, .int .i64 k, .slice (some ⟨gf, 0, none⟩) xs.length cf] 26
        have x4 := x3.alloc (.cells #[.int .i64 m, .int .i64 k, .slice (some ⟨gf, 0, none⟩) xs.length cf] 26)
        have r4 := r3.alloc (.cells #[.int .i64 m, .int .i64 k, .slice (some ⟨gf, 0, none⟩) xs.length cf] 26)
        have oL4 := oL3.alloc (.cells #[.int .i64 m, .int .i64 k, .slice (some ⟨gf, 0, none⟩) xs.length cf] 26)
        have oF4 := oF3.alloc (.cells #[.int .i64 m, .int .i64 k, .slice (some ⟨gf, 0, none⟩) xs.length cf] 26)
        clear x3 r3 oL3 oF3
        have hgQ : gf ≠ w3.heap.size := by omega
        have hwp : w.heap.size < w.heap.size + 2 := by omega
        have HS := Lib.hid (FilS.start (xs := xs) (color := color) (P := fun x => ∃ s, s < 0 ∧ l[s]? = some x) (fun x ⟨s, h, _⟩ => by omega))
        go_upto_region 5 with fail
        generalize w3.alloc (.cells #[.int .i64 m, .int .i64 k, .slice (some ⟨gf, 0, none⟩) xs.length cf] 26) = W4 at *
        generalize w3.heap.size = Q at *
        go_wp2
        go_loopw [31] (fun s31 wr => ∃ (t : Nat) (L : List Int), t ≤ l.length ∧ s31 = .int .i64 t ∧ Hid (FilS xs color (fun x => ∃ s, s < t ∧ l[s]? = some x) L) ∧ Own wr (w.heap.size + 2) (.slice (some ⟨gf, 0, none⟩) xs.length cf) L ∧ Own wr w.heap.size (.slice A1 l.length c1) (upI l) ∧
            Blk wr Q 26 #[.int .i64 m, .int .i64 k, .slice (some ⟨gf, 0, none⟩) xs.length cf] ∧ Blk wr (w.heap.size + 1) 26 #[.int .i64 0, .int .i64 0, .slice none 0 0] ∧ Cx w m k b off c B xs wr) (fun s31 _ => l.length - (intOf s31).toNat)
        case atStart => exact ⟨0, xs, Nat.zero_le _, rfl, HS, oF4, oL4, xF0, r4, x4⟩
        case round =>
          clear HS oF4 oL4 xF0 r4 x4
          obtain ⟨t, L, ht, rfl, HS, oF, oL, xF, rR, x1⟩ := hrel
          by_cases htl : t < l.length
          · obtain ⟨x, HX1⟩ : ∃ x, Hid (l[t]? = some x) := ⟨l[t], List.getElem?_eq_getElem htl⟩
            have hxN := ((HLM.out.2 x).1 (List.mem_of_getElem? HX1.out)).1
            obtain ⟨g1, hA1, _, _⟩ := oL.some_ (by rw [upI_len]; omega)
            subst hA1
            have e8 := own_at oL (j := t) (by rw [upI_len]; exact htl) (upI_get HX1.out)
            have ev := own_at oF (j := x) (by rw [HS.out.1]; exact hxN) rfl
            have y2 := xF.cell 2
            obtain ⟨hfz, oF', hgr⟩ := own_put oF x color hci
            have hgfw : w.heap.size + 2 ≤ gf := (oF.bd gf rfl).1
            have x2 := x1.mark hgr (fun q hq => by cases hq; omega)
            have xF2 := xF.mark hgr (fun q hq e => by cases hq; exact hgQ e)
            have rR2 := rR.mark hgr (fun q hq e => by cases hq; omega)
            have oL2 := oL.far (a := ⟨gf, x, none⟩) (fun e => hgl.out gf e rfl) (.int .i64 color)
            have HS2 := Lib.hid (HS.out.put (P' := fun z => ∃ s, s < t + 1 ∧ l[s]? = some z) hxN (fun z => by
              constructor
              · rintro ⟨s, hs, hz⟩
                by_cases e : s = t
                · subst e; rw [HX1.out] at hz; cases hz; exact .inr rfl
                · exact .inl ⟨s, by omega, hz⟩
              · rintro (⟨s, hs, hz⟩ | rfl)
                · exact ⟨s, by omega, hz⟩
                · exact ⟨t, by omega, HX1.out⟩))
            clear HS oF oL xF rR x1 hgr
            go_wp2
            go_roundw
            case rel => exact ⟨t + 1, _, htl, by go_num, HS2, oF', oL2, xF2, rR2, x2⟩
            case measure => simp [intOf]; omega
          · have HFN := Lib.hid HS.out.1
            have HF := Lib.hid (HS.out.end_ (m := m) (a := a) (fun z hz => by
              constructor
              · rintro ⟨s, _, hs⟩
                exact ((HLM.out.2 z).1 (List.mem_of_getElem? hs)).2
              · intro hza
                obtain ⟨s, hs, hsz⟩ := List.mem_iff_getElem.1 ((HLM.out.2 z).2 ⟨hz, hza⟩)
                exact ⟨s, by omega, by rw [List.getElem?_eq_getElem hs, hsz]⟩))
            have HB := Lib.hid x1.bel
            clear HS oL x1
            have g0 := rR.cell 0
            have g1 := rR.cell 1
            have g2 := rR.cell 2
            have z0 := rR.frozen 0
            have z1 := rR.frozen 1
            have z2 := rR.frozen 2
            have y0 := xF.cell 0
            have y1 := xF.cell 1
            have y2 := xF.cell 2
            have HFl := Lib.hid (show L.length = (fillL m xs a color).length by rw [HF.out])
            have F := fin3 (p := w.heap.size + 1) (a := .int .i64 m) (b := .int .i64 k) (c := .slice (some ⟨gf, 0, none⟩) xs.length cf) (oF.mono (Nat.le_of_lt hwp)) (fun e => by have := (oF.bd _ e).1; omega) HB.out (by omega)
            go_wp2
            rw [HX.out.1, HX.out.2.1, HX.out.2.2, H2.out, ← HF.out]
            exact bodyPost_ret (v := .tuple #[chartV m k (.slice (some ⟨gf, 0, none⟩) xs.length cf), .bool true]) (by simp [results, Try.results19, go_sem, g0, g1, g2]) rfl ⟨some ⟨gf, 0, none⟩, cf, by rw [HFN.out], by rw [HFN.out]; exact F.1, F.2⟩
set_option maxRecDepth 100000 in
set_option maxHeartbeats 8000000 in
theorem specFillArea_any (W H : Int) (A : Option Addr) (n c B : Nat) (xs : List Int) (a color : Int) (w : World) (h : Rd w B A n c xs) (hB : B ≤ w.heap.size) :
    Calls Try.prog 20 #[chartV W H (.slice A n c), .int .i64 a, .int .i64 color] w (OutChart w (orZero (fillOk W H xs a color) W) (orZero (fillOk W H xs a color) H) (fillX W H xs a color) (fillOk W H xs a color)) := by
  cases hg : goodB W H xs with
  | false =>
    have hb0 := Lib.hid (((Below.refl w.heap.size w).alloc (Nat.le_refl _) (.cells #[.int .i64 W, .int .i64 H, .slice A n c] 26)).alloc (by simp) (.cells #[.int .i64 0, .int .i64 0, .slice none 0 0] 26))
    have h' := (h.alloc hB (.cells #[.int .i64 W, .int .i64 H, .slice A n c] 26)).alloc (by simp; omega) (.cells #[.int .i64 0, .int .i64 0, .slice none 0 0] 26)
    have r0 := (Blk.new (w.alloc (.cells #[.int .i64 W, .int .i64 H, .slice A n c] 26)) #[.int .i64 0, .int .i64 0, .slice none 0 0] 26)
    have H2 := Lib.hid (fillOk_1 (color := color) (hasArea_no1 (a := a) hg))
    go_enter Try.func20, Try.ntmps20
    go_wp2_with fail
    refine (l2Good_any W H A n c B xs _ h' (by simp; omega)).mono ?_
    rintro e w1 ⟨rfl, hb⟩
    rw [hg]
    have r1 := (r0.all hb).at_ (q := w.heap.size + 1) (by simp)
    have HB := Lib.hid (hb0.out.trans (hb.mono (by simp; omega)))
    clear hb r0
    have g0 := r1.cell 0
    have g1 := r1.cell 1
    have g2 := r1.cell 2
    have z0 := r1.frozen 0
    have z1 := r1.frozen 1
    have z2 := r1.frozen 2
    have HX := Lib.hid (fill_no H2.out)
    go_wp2
    rw [HX.out.1, HX.out.2.1, HX.out.2.2, H2.out]
    have F := fin3 (p := w.heap.size + 1) (a := .int .i64 0) (b := .int .i64 0) (c := .slice none 0 0) (Own.nil _ w.heap.size) (by simp [Value.ownBlock]) HB.out (by omega)
    exact bodyPost_ret (v := .tuple #[chartV 0 0 (.slice none 0 0), .bool false]) (by simp [results, Try.results20, go_sem, g0, g1, g2]) rfl ⟨none, 0, rfl, F.1, F.2⟩
  | true =>
    obtain ⟨m, k, b, off, rfl, rfl, rfl, rfl, hm, hm8, hk1, hk8, hl, h64, hN, _⟩ := good_open hg h
    obtain ⟨d, hd⟩ : ∃ d, inB a 0 (((cntOf m xs : Nat) : Int) - 1) = d := ⟨_, rfl⟩
    have HA := Lib.hid ((hasArea_eq (a := a) hg).trans hd)
    have x0 := (Cx.start (m := m) (k := k) h hB).alloc (.cells #[.int .i64 0, .int .i64 0, .slice none 0 0] 26)
    have r0 : Blk ((w.alloc (.cells #[.int .i64 m, .int .i64 k, .slice (some ⟨b, off, none⟩) xs.length c] 26)).alloc (.cells #[.int .i64 0, .int .i64 0, .slice none 0 0] 26)) (w.heap.size + 1) 26 #[.int .i64 0, .int .i64 0, .slice none 0 0] := (Blk.new (w.alloc (.cells #[.int .i64 m, .int .i64 k, .slice (some ⟨b, off, none⟩) xs.length c] 26)) #[.int .i64 0, .int .i64 0, .slice none 0 0] 26).at_ (by simp)
    clear h
    go_enter Try.func20, Try.ntmps20
    go_upto_region 1 with fail
    generalize (w.alloc (.cells #[.int .i64 m, .int .i64 k, .slice (some ⟨b, off, none⟩) xs.length c] 26)).alloc (.cells #[.int .i64 0, .int .i64 0, .slice none 0 0] 26) = w0 at *
    have e0 := x0.c0
    have e1 := x0.c1
    have e2 := x0.c2
    have hz0 := r0.lt
    go_wp2_with fail
    refine (l2Good_any m k _ _ c B xs _ x0.rd (by have := x0.sz; omega)).mono ?_
    rintro e w1 ⟨rfl, hb⟩
    rw [hg]
    have x1 := x0.all hb
    have r1 := r0.all hb
    have hz1 := r1.lt
    clear hb e0 e1 e2 x0 r0
    go_wp2_with fail
    refine (l2Color_any color w1).mono ?_
    rintro e w2 ⟨rfl, rfl⟩
    cases hcl : isColorB color with
    | false =>
      have H2 := Lib.hid (fillOk_2 (W := m) (H := k) (xs := xs) (a := a) hcl)
      have HB := Lib.hid x1.bel
      clear x1
      have g0 := r1.cell 0
      have g1 := r1.cell 1
      have g2 := r1.cell 2
      have z0 := r1.frozen 0
      have z1 := r1.frozen 1
      have z2 := r1.frozen 2
      have HX := Lib.hid (fill_no H2.out)
      go_wp2
      rw [HX.out.1, HX.out.2.1, HX.out.2.2, H2.out]
      have F := fin3 (p := w.heap.size + 1) (a := .int .i64 0) (b := .int .i64 0) (c := .slice none 0 0) (Own.nil _ w.heap.size) (by simp [Value.ownBlock]) HB.out (by omega)
      exact bodyPost_ret (v := .tuple #[chartV 0 0 (.slice none 0 0), .bool false]) (by simp [results, Try.results20, go_sem, g0, g1, g2]) rfl ⟨none, 0, rfl, F.1, F.2⟩
    | true =>
      have hci : I64 color := by have := isColorB_yes hcl; exact ⟨by omega, by omega⟩
      have e0 := x1.c0
      have e1 := x1.c1
      have e2 := x1.c2
      go_wp2_with fail
      refine (l12Areas_any m k b off c B xs _ x1.rd (by have := x1.sz; omega) hm hm8 hk1 hk8 hl).mono ?_
      rintro e w2 ⟨A2, c2, rfl, own2, hb2, _⟩
      have x2 := x1.all hb2
      have r2 := r1.all hb2
      have oN2 := own2.mono (show w.heap.size + 2 ≤ w1.heap.size by omega)
      have hcn : cntOf m xs ≤ 64 := Nat.le_trans (cnt_le m xs) h64
      have hLl := Lib.hid (labs_len m xs)
      obtain ⟨gn, rfl, hgn, hgnb⟩ := oN2.some_ (by rw [hLl.out]; omega)
      have hw1 : IntKind.i64.wrap (((cntOf m xs : Nat) : Int) - 1) = ((cntOf m xs : Nat) : Int) - 1 := IntWalk.i64_in _ (by omega)
      have hz2 := r2.lt
      clear own2 hb2 x1 r1 e0 e1 e2
      obtain ⟨N, HNn⟩ : ∃ N, Hid (cntOf m xs = N) := ⟨_, rfl⟩
      rw [show cntOf m xs = N from HNn.out] at hw1 hcn hd ⊢
      go_wp2_with fail
      refine (l1In_any a 0 ((N : Int) - 1) w2).mono ?_
      rintro e w3 ⟨rfl, rfl⟩
      rw [hd]
      cases d with
      | false =>
        have H2 := Lib.hid (fillOk_1 (color := color) HA.out)
        have HB := Lib.hid x2.bel
        clear oN2 x2 hd hw1
        have g0 := r2.cell 0
        have g1 := r2.cell 1
        have g2 := r2.cell 2
        have z0 := r2.frozen 0
        have z1 := r2.frozen 1
        have z2 := r2.frozen 2
        have HX := Lib.hid (fill_no H2.out)
        go_wp2
        rw [HX.out.1, HX.out.2.1, HX.out.2.2, H2.out]
        have F := fin3 (p := w.heap.size + 1) (a := .int .i64 0) (b := .int .i64 0) (c := .slice none 0 0) (Own.nil _ w.heap.size) (by simp [Value.ownBlock]) HB.out (by omega)
        exact bodyPost_ret (v := .tuple #[chartV 0 0 (.slice none 0 0), .bool false]) (by simp [results, Try.results20, go_sem, g0, g1, g2]) rfl ⟨none, 0, rfl, F.1, F.2⟩
      | true =>
        have H2 := Lib.hid (fillOk_3 HA.out hcl)
        have HX := Lib.hid (fill_yes H2.out)
        have e0 := x2.c0
        have e1 := x2.c1
        have e2 := x2.c2
        have hn20 : xs.length ≤ 1048576 := by omega
        clear hd hw1
        go_wp2_with fail
        refine (l2Own_any m k _ _ c B xs _ x2.rd (by have := x2.sz; omega) hn20).mono ?_
        rintro e w3 ⟨A3, cf, rfl, oC, hb3⟩
        have x3 := x2.all hb3
        have r3 := r2.all hb3
        have oN3 := oN2.all hb3
        obtain ⟨gf, rfl, hgf, hgfb⟩ := oC.some_ (by omega)
        have oF3 := oC.mono (show w.heap.size + 2 ≤ w2.heap.size by omega)
        have hgl : gn ≠ gf := by omega
        clear oC oN2 hb3 x2 r2 e0 e1 e2
        have xF0 := Blk.new w3 #[.int .i64 m, .int .i64 k, .slice (some ⟨gf, 0, none⟩) xs.length cf] 26
        have x4 := x3.alloc (.cells #[.int .i64 m, .int .i64 k, .slice (some ⟨gf, 0, none⟩) xs.length cf] 26)
        have r4 := r3.alloc (.cells #[.int .i64 m, .int .i64 k, .slice (some ⟨gf, 0, none⟩) xs.length cf] 26)
        have oN4 := oN3.alloc (.cells #[.int .i64 m, .int .i64 k, .slice (some ⟨gf, 0, none⟩) xs.length cf] 26)
        have oF4 := oF3.alloc (.cells #[.int .i64 m, .int .i64 k, .slice (some ⟨gf, 0, none⟩) xs.length cf] 26)
        clear x3 r3 oN3 oF3
        have hgQ : gf ≠ w3.heap.size := by omega
        have hwp : w.heap.size < w.heap.size + 2 := by omega
        have HS := Lib.hid (FilS.start (xs := xs) (color := color) (P := fun x => x < 0 ∧ labAt m xs x = a) (fun x ⟨h, _⟩ => by omega))
        go_upto_region 7 with fail
        generalize w3.alloc (.cells #[.int .i64 m, .int .i64 k, .slice (some ⟨gf, 0, none⟩) xs.length cf] 26) = W4 at *
        generalize w3.heap.size = Q at *
        go_wp2
        go_loopw [11] (fun s11 wr => ∃ (i : Nat) (L : List Int), i ≤ xs.length ∧ s11 = .int .i64 i ∧ Hid (FilS xs color (fun x => x < i ∧ labAt m xs x = a) L) ∧ Own wr (w.heap.size + 2) (.slice (some ⟨gf, 0, none⟩) xs.length cf) L ∧ Own wr (w.heap.size + 2) (.slice (some ⟨gn, 0, none⟩) xs.length c2) (labsOf m xs) ∧
            Blk wr Q 26 #[.int .i64 m, .int .i64 k, .slice (some ⟨gf, 0, none⟩) xs.length cf] ∧ Blk wr (w.heap.size + 1) 26 #[.int .i64 0, .int .i64 0, .slice none 0 0] ∧ Cx w m k b off c B xs wr) (fun s11 _ => xs.length - (intOf s11).toNat)
        case atStart => exact ⟨0, xs, Nat.zero_le _, rfl, HS, oF4, oN4, xF0, r4, x4⟩
        case round =>
          clear HS oF4 oN4 xF0 r4 x4
          obtain ⟨i, L, hi, rfl, HS, oF, oN, xF, rR, x1⟩ := hrel
          by_cases hlt : i < xs.length
          · obtain ⟨u, hu⟩ : ∃ u, labAt m xs i = u := ⟨_, rfl⟩
            have eu := own_at oN (j := i) (by rw [hLl.out]; exact hlt) (show (labsOf m xs).getD i 0 = u from hu)
            have HU := Lib.hid hu
            clear hu
            by_cases hua : u = a
            · have hub : (u == a) = true := by simp [hua]
              subst hua
              have ev := own_at oF (j := i) (by rw [HS.out.1]; exact hlt) rfl
              have y2 := xF.cell 2
              obtain ⟨hfz, oF', hgr⟩ := own_put oF i color hci
              have hgfw : w.heap.size + 2 ≤ gf := (oF.bd gf rfl).1
              have x2 := x1.mark hgr (fun q hq => by cases hq; omega)
              have xF2 := xF.mark hgr (fun q hq e => by cases hq; exact hgQ e)
              have rR2 := rR.mark hgr (fun q hq e => by cases hq; omega)
              have oN2 := oN.far (a := ⟨gf, i, none⟩) (fun e => hgl (by simpa [Value.ownBlock] using e)) (.int .i64 color)
              have HS2 := Lib.hid (HS.out.put (P' := fun x => x < i + 1 ∧ labAt m xs x = u) hlt (fun z => by
                constructor
                · rintro ⟨hz, hza⟩
                  by_cases e : z = i
                  · exact .inr e
                  · exact .inl ⟨by omega, hza⟩
                · rintro (⟨hz, hza⟩ | rfl)
                  · exact ⟨by omega, hza⟩
                  · exact ⟨by omega, HU.out⟩))
              clear HS oF oN xF rR x1 hgr
              go_wp2
              go_roundw
              case rel => exact ⟨i + 1, _, hlt, by go_num, HS2, oF', oN2, xF2, rR2, x2⟩
              case measure => simp [intOf]; omega
            · have hub : (u == a) = false := by simp [hua]
              have HS2 := Lib.hid (HS.out.congr (P' := fun x => x < i + 1 ∧ labAt m xs x = a) (fun z => by
                constructor
                · rintro ⟨hz, hza⟩
                  refine ⟨?_, hza⟩
                  have : z ≠ i := fun e => by subst e; exact hua (HU.out.symm.trans hza)
                  omega
                · rintro ⟨hz, hza⟩
                  exact ⟨by omega, hza⟩))
              clear HS
              go_wp2
              go_roundw
              case rel => exact ⟨i + 1, L, hlt, by go_num, HS2, oF, oN, xF, rR, x1⟩
              case measure => simp [intOf]; omega
          · have HFN := Lib.hid HS.out.1
            have HF := Lib.hid (HS.out.end_ (m := m) (a := a) (fun z hz => ⟨fun g => g.2, fun g => ⟨by omega, g⟩⟩))
            have HB := Lib.hid x1.bel
            clear HS oN x1
            have g0 := rR.cell 0
            have g1 := rR.cell 1
            have g2 := rR.cell 2
            have z0 := rR.frozen 0
            have z1 := rR.frozen 1
            have z2 := rR.frozen 2
            have y0 := xF.cell 0
            have y1 := xF.cell 1
            have y2 := xF.cell 2
            have HFl := Lib.hid (show L.length = (fillL m xs a color).length by rw [HF.out])
            have F := fin3 (p := w.heap.size + 1) (a := .int .i64 m) (b := .int .i64 k) (c := .slice (some ⟨gf, 0, none⟩) xs.length cf) (oF.mono (Nat.le_of_lt hwp)) (fun e => by have := (oF.bd _ e).1; omega) HB.out (by omega)
            go_wp2
            rw [HX.out.1, HX.out.2.1, HX.out.2.2, H2.out, ← HF.out]
            exact bodyPost_ret (v := .tuple #[chartV m k (.slice (some ⟨gf, 0, none⟩) xs.length cf), .bool true]) (by simp [results, Try.results20, go_sem, g0, g1, g2]) rfl ⟨some ⟨gf, 0, none⟩, cf, by rw [HFN.out], by rw [HFN.out]; exact F.1, F.2⟩
end Go.Proofs.Ytgahompcejbjoaa
