/- The draw of a stock; the draws of ShortColors, CarpetsFrom, HungriestColor and ColorShare. Condition: at most 65536 bytes. -/
import Derived.Test.YtndoianocmekmaaDraws10b
import Derived.Test.YtndoianocmekmaaStep
import Derived.Test.YtndoianocmekmaaRestI
namespace Go.Proofs.Ytndoianocmekmaa
open Go.RowKit

theorem Rd.farOf {w : World} {B g off n c p : Nat} {xs : List Int} (h : Rd w B (some ⟨g, off, none⟩) n c xs) (hp : g ≠ p) (k : Nat) (v : Value) : Rd (w.setCell ⟨p, k, none⟩ v) B (some ⟨g, off, none⟩) n c xs :=
  ⟨h.len, h.cap, h.max, fun hn => by
    obtain ⟨b, o, e, hb, hc⟩ := h.cells hn
    cases e
    exact ⟨_, _, rfl, hb, fun j hj => by rw [World.cell?_setCell_other _ _ _ _ (by first | (simp; done) | (simp; omega))]; exact hc j hj⟩, h.fits, h.nil⟩
/-- What a draw of a stock leaves. -/
def DrewStock (w : World) (p k : Nat) (e : Ending) (w' : World) : Prop := ∃ (g off n c : Nat) (xs : List Int), e = .returned (.slice (some ⟨g, off, none⟩) n c) ∧ w.heap.size ≤ g ∧ Rd w' w'.heap.size (some ⟨g, off, none⟩) n c xs ∧ n ≤ 6 ∧ Cur w' p k ∧ w.grownBy w' (some p)
set_option maxRecDepth 100000 in
set_option maxHeartbeats 8000000 in
theorem stock10_any (p k : Nat) (w : World) (h : Cur w p k) (hk : k + 100 ≤ 4294967296) :
    Calls Try.prog 61 #[.pointer (some ⟨p, 0, none⟩)] w (DrewStock w p (k + 100)) := by
  have hpw := h.lt
  have own := Own.empty (w := w) (lo := w.heap.size) (Nat.le_refl _)
  have HG := below_grown (row := some p) ((Below.refl w.heap.size w).alloc (Nat.le_refl _) (.cells #[] 3))
  have hc := h.all ((Below.refl w.heap.size w).alloc (Nat.le_refl _) (.cells #[] 3))
  clear h
  go_enter Try.func61, Try.ntmps61
  go_wp2
  go_loopw [3, 4] (fun s3 s4 wr => ∃ (j : Nat) (A' : Option Addr) (c' : Nat) (xs : List Int), j ≤ 6 ∧ s3 = .slice A' j c' ∧ s4 = .int .i64 j ∧ Hid (xs.length = j) ∧ Own wr w.heap.size (.slice A' j c') xs ∧ Cur wr p (k + 2 * j) ∧ w.grownBy wr (some p)) (fun _ s4 _ => 6 - (intOf s4).toNat)
  case atStart => exact ⟨0, _, _, [], by omega, rfl, rfl, Lib.hid rfl, own, hc, HG⟩
  case round =>
    clear own hc HG
    obtain ⟨j, A', c', xs, hj, rfl, rfl, HX, own, hc, HG⟩ := hrel
    have hwz := HG.size
    by_cases hlt : j < 6
    · go_wp2_with fail
      refine (among5 p (k + 2 * j) wr.heap.size 6 [0, 100, 500, 2000, 10000, 1000000] wr rfl rfl hc (by omega) (by decide) (by decide) (i64_lit (by decide))).mono ?_
      rintro e w1 ⟨y, rfl, hy, hc1, hg1⟩
      have Iy := i64_lit (l := [0, 100, 500, 2000, 10000, 1000000]) (by decide) y hy
      have hbd := own.bd
      replace own := own.mark hg1 (fun z z' hz hz' => by cases hz; have := (hbd z' hz').1; omega)
      replace HG := grown_trans HG hg1
      clear hc hg1 hy hbd
      have hwz1 := HG.size
      have hji : (0 : Int) ≤ (j : Int) := by omega
      have hjn : (j : Int) < 6 := by omega
      go_wp2_with (at_builtin; refine wpList_append_one w1 rfl (.tmp 11) (.tmp 15) 31 rfl Try.underlying31 info_int w.heap.size _ xs y rfl rfl own (by rw [HX.out]; omega) Iy hwz1 ?_)
      intro A2 c2 w2 ho2 hg2
      rw [HX.out] at ho2 ⊢
      have hbd := own.bd
      have hc2 := hc1.mark hg2 (fun z hz => by have := (hbd z hz).1; omega)
      have HG2 := grown_own HG ((Below.refl w.heap.size w1).grown hg2 hwz1 (fun z hz => (hbd z hz).1))
      have HX2 := Lib.hid (show (xs ++ [y]).length = j + 1 by rw [List.length_append, HX.out]; rfl)
      clear hbd hc1 own HG
      go_wp2
      go_roundw
      case rel => exact ⟨j + 1, A2, c2, xs ++ [y], by omega, by first | rfl | (rw [HX.out]), by go_num, HX2, by first | exact ho2 | (rw [HX.out] at ho2; exact ho2), hc2.more (by omega), HG2⟩
      case measure => simp [intOf]; omega
    · obtain rfl : j = 6 := by omega
      obtain ⟨g, rfl, hgl, hgw⟩ := own.some_ (by rw [HX.out]; omega)
      have hl6 := HX.out
      go_wp2_with fail
      refine (pick_any p (k + 2 * 6) 24 wr hc (by omega) (by omega) (by omega)).mono ?_
      rintro e w1 ⟨x, rfl, ⟨x0, x1⟩, hc1, hg1⟩
      have hbd := own.bd
      replace own := own.mark hg1 (fun z z' hz hz' => by cases hz; have := (hbd z' hz').1; omega)
      replace HG := grown_trans HG hg1
      have hgw1 : g < w1.heap.size := Nat.lt_of_lt_of_le hgw hg1.size
      have hwz1 := HG.size
      clear hc hg1 hbd hgw
      have ownb : Own w1 w.heap.size (.slice (some ⟨g, 0, none⟩) xs.length c') xs := by rw [hl6]; exact own
      by_cases hx0 : x = 0
      · subst hx0
        have hR := ownb.rd
        rw [hl6] at hR
        go_wp2_with (refine wpList_restI rfl (.tmp 21) (.const (.int .i64 1)) rfl g 0 _ 6 c' 1 xs _ rfl rfl rfl (by omega) hR ?_)
        intro off1 hR2
        go_wp2
        go_ret
        exact ⟨g, off1, _, _, _, rfl, hgl, hR2, by omega, hc1.more (by omega), HG⟩
      have hx0' : (x == 0) = false := by simpa using hx0
      by_cases hx1 : x = 1
      · subst hx1
        clear hx0 hx0'
        go_wp2_with fail
        refine (pick_any p (k + 2 * 6 + 2) 6 w1 hc1 (by omega) (by omega) (by omega)).mono ?_
        rintro e w2 ⟨i, rfl, ⟨i0, i1⟩, hc2, hg2⟩
        have hbd := ownb.bd
        replace ownb := ownb.mark hg2 (fun z z' hz hz' => by cases hz; have := (hbd z' hz').1; omega)
        replace HG := grown_trans HG hg2
        clear hc1 hg2 hbd own
        obtain ⟨q, rfl⟩ := Int.eq_ofNat_of_zero_le i0
        have hq6 : q < 6 := by omega
        have hqi : (q : Int) < 6 := by omega
        have hf := ownb.1.frozenAt q
        have HS := ownb.1.stored q (.int .i64 (-1))
        obtain ⟨v, hv⟩ : ∃ v, w2.cell? ⟨g, q, none⟩ = some v := ⟨.int .i64 (xs.getD q 0), by rw [ownb.1.cellAt q (by omega), List.getElem?_map, List.getElem?_eq_getElem (by omega), getD_at (by omega)]; rfl⟩
        have own3 : Own (w2.setCell ⟨g, q, none⟩ (.int .i64 (-1))) w.heap.size (.slice (some ⟨g, 0, none⟩) (xs.set q (-1)).length c') (xs.set q (-1)) := ⟨by rw [List.map_set, List.length_set]; exact HS.1, fun z hz => by
          rcases List.mem_or_eq_of_mem_set hz with hz | rfl
          · exact ownb.2 z hz
          · exact ⟨by omega, by omega⟩⟩
        have hR := own3.rd
        rw [List.length_set, hl6] at hR
        go_wp2
        go_ret
        exact ⟨g, 0, 6, c', _, rfl, hgl, hR, Nat.le_refl _, (cur_set (a := ⟨g, q, none⟩) hc2 (by show p < g; omega) _).more (by omega), grown_set (a := ⟨g, q, none⟩) HG hgl _⟩
      have hx1' : (x == 1) = false := by simpa using hx1
      by_cases hx2 : x = 2
      · subst hx2
        clear hx0 hx0' hx1 hx1' own
        go_wp2
        go_loopw [5] (fun s5 wr2 => ∃ (j : Nat) (ys : List Int), j ≤ 6 ∧ s5 = .int .i64 j ∧ Hid (ys.length = 6) ∧ Own wr2 w.heap.size (.slice (some ⟨g, 0, none⟩) 6 c') ys ∧ Cur wr2 p (k + 50) ∧ w.grownBy wr2 (some p)) (fun s5 _ => 6 - (intOf s5).toNat)
        case atStart => exact ⟨0, xs, by omega, rfl, Lib.hid hl6, by rw [← hl6]; exact ownb, hc1.more (by omega), HG⟩
        case round =>
          clear ownb hc1 HG hl6 HX
          obtain ⟨j, ys, hj, rfl, HY, own, hc, HG⟩ := hrel
          have ownb : Own wr w.heap.size (.slice (some ⟨g, 0, none⟩) ys.length c') ys := by rw [HY.out]; exact own
          by_cases hlt : j < 6
          · have hji : (0 : Int) ≤ (j : Int) := by omega
            have hjn : (j : Int) < 6 := by omega
            have hf := ownb.1.frozenAt j
            have HS := ownb.1.stored j (.int .i64 100000000)
            obtain ⟨v, hv⟩ : ∃ v, wr.cell? ⟨g, j, none⟩ = some v := ⟨.int .i64 (ys.getD j 0), by have := HY.out; rw [ownb.1.cellAt j (by omega), List.getElem?_map, List.getElem?_eq_getElem (by omega), getD_at (by omega)]; rfl⟩
            have own3 : Own (wr.setCell ⟨g, j, none⟩ (.int .i64 100000000)) w.heap.size (.slice (some ⟨g, 0, none⟩) 6 c') (ys.set j 100000000) := by
              have hl : (ys.set j 100000000).length = 6 := by rw [List.length_set]; exact HY.out
              refine ⟨?_, fun z hz => ?_⟩
              · rw [List.map_set, hl, ← HY.out]; exact HS.1
              · rcases List.mem_or_eq_of_mem_set hz with hz | rfl
                · exact ownb.2 z hz
                · exact ⟨by omega, by omega⟩
            have HY2 := Lib.hid (show (ys.set j 100000000).length = 6 by rw [List.length_set]; exact HY.out)
            go_wp2
            go_roundw
            case rel => exact ⟨j + 1, ys.set j 100000000, by omega, by go_num, HY2, own3, cur_set (a := ⟨g, j, none⟩) hc (by show p < g; omega) _, grown_set (a := ⟨g, j, none⟩) HG hgl _⟩
            case measure => simp [intOf]; omega
          · have hR := ownb.rd
            rw [HY.out] at hR
            go_wp2
            go_ret
            exact ⟨g, 0, 6, c', ys, rfl, hgl, hR, Nat.le_refl _, hc.more (by omega), HG⟩
      have hx2' : (x == 2) = false := by simpa using hx2
      have hR := ownb.rd
      rw [hl6] at hR
      go_wp2
      go_ret
      exact ⟨g, 0, 6, c', xs, rfl, hgl, hR, Nat.le_refl _, hc1.more (by omega), HG⟩
def GaveCYS (w : World) (e : Ending) (w' : World) : Prop := ∃ (W H : Int) (A : Option Addr) (c : Nat) (xs : List Int) (s : YarnR) (g off n2 c2 : Nat) (ss : List Int), e = .returned (.tuple #[chartV W H (.slice A xs.length c), .agg #[.int .i64 s.f0, .int .i64 s.f1, .int .i64 s.f2, .int .i64 s.f3], .slice (some ⟨g, off, none⟩) n2 c2]) ∧ Small W H xs ∧ s.ok ∧ Own w' w.heap.size (.slice A xs.length c) xs ∧ w.heap.size ≤ g ∧ Rd w' w'.heap.size (some ⟨g, off, none⟩) n2 c2 ss ∧ Below w.heap.size w w'
def GaveCI (w : World) (e : Ending) (w' : World) : Prop := ∃ (W H : Int) (A : Option Addr) (c : Nat) (xs : List Int) (f : Int), e = .returned (.tuple #[chartV W H (.slice A xs.length c), .int .i64 f]) ∧ Small W H xs ∧ I64 f ∧ Own w' w.heap.size (.slice A xs.length c) xs ∧ Below w.heap.size w w'
set_option maxRecDepth 100000 in
set_option maxHeartbeats 4000000 in
theorem drawShortColors_any (A : Option Addr) (n c B : Nat) (w : World) (h : RdB w B A n c) (hB : B ≤ w.heap.size) (hn : n ≤ 65536) : Calls Try.prog 44 #[.slice A n c] w (GaveCYS w) := by
  have r0 := ((Blk.new w #[.int .i64 0, .int .i64 0, .slice none 0 0] 33).alloc (.cells #[.int .i64 0, .int .i64 0, .int .i64 0, .int .i64 0] 25)).alloc (.cells #[.slice A n c, .int .i64 0, .int .u64 0] 52)
  have r1 := ((Blk.new (w.alloc (.cells #[.int .i64 0, .int .i64 0, .slice none 0 0] 33)) #[.int .i64 0, .int .i64 0, .int .i64 0, .int .i64 0] 25).alloc (.cells #[.slice A n c, .int .i64 0, .int .u64 0] 52)).at_ (q := w.heap.size + 1) (by simp)
  have hc0 : Cur (((w.alloc (.cells #[.int .i64 0, .int .i64 0, .slice none 0 0] 33)).alloc (.cells #[.int .i64 0, .int .i64 0, .int .i64 0, .int .i64 0] 25)).alloc (.cells #[.slice A n c, .int .i64 0, .int .u64 0] 52)) (w.heap.size + 2) 0 := by
    have := cur_new ((h.alloc hB (.cells #[.int .i64 0, .int .i64 0, .slice none 0 0] 33)).alloc (by simp; omega) (.cells #[.int .i64 0, .int .i64 0, .int .i64 0, .int .i64 0] 25)) (by simp; omega) hn
    simpa using this
  have HB : Below w.heap.size w (((w.alloc (.cells #[.int .i64 0, .int .i64 0, .slice none 0 0] 33)).alloc (.cells #[.int .i64 0, .int .i64 0, .int .i64 0, .int .i64 0] 25)).alloc (.cells #[.slice A n c, .int .i64 0, .int .u64 0] 52)) := (((Below.refl _ _).alloc (Nat.le_refl _) _).alloc (by simp) _).alloc (by simp; omega) _
  clear h
  go_enter Try.func44, Try.ntmps44
  go_wp2_with fail
  refine (chart_any (w.heap.size + 2) 0 _ hc0 (by omega)).mono ?_
  rintro e w1 ⟨W, H, A1, c1, xs, rfl, hsm, own, hc1, hg1⟩
  replace r0 := r0.mark hg1 (fun z hz => by cases hz; omega)
  replace r1 := r1.mark hg1 (fun z hz => by cases hz; omega)
  replace HB := HB.trans (grown_below hg1 (by omega) HB.size)
  have hne1 := fun z' hz' => row_ne own.1 (show Blk w1 (w.heap.size + 2) 52 _ from hc1.choose_spec.choose_spec.choose_spec.choose_spec.choose_spec.choose_spec.1) (by decide) z' hz'
  replace own := own.mono (show w.heap.size ≤ _ by simp; omega)
  clear hc0 hg1
  go_wp2_with fail
  refine (yarn_any (w.heap.size + 2) (0 + 1000) _ hc1 (by omega)).mono ?_
  rintro e w2 ⟨s, rfl, hs, hc2, hg2⟩
  replace r0 := r0.mark hg2 (fun z hz => by cases hz; omega)
  replace r1 := r1.mark hg2 (fun z hz => by cases hz; omega)
  replace own := own.mark hg2 (fun z z' hz hz' => by cases hz; exact fun e => hne1 z' hz' e.symm)
  replace HB := HB.trans (grown_below hg2 (by omega) HB.size)
  clear hc1 hg2
  have hlt1 := r1.lt
  go_wp2_with fail
  refine (stock10_any (w.heap.size + 2) (0 + 1000 + 100) _ hc2 (by omega)).mono ?_
  rintro e w3 ⟨g, off, n2, c2, ss, rfl, hgl, hR, hn2, hc3, hg3⟩
  replace r0 := r0.mark hg3 (fun z hz => by cases hz; omega)
  replace r1 := r1.mark hg3 (fun z hz => by cases hz; omega)
  replace own := own.mark hg3 (fun z z' hz hz' => by cases hz; exact fun e => hne1 z' hz' e.symm)
  replace HB := HB.trans (grown_below hg3 (by omega) HB.size)
  clear hc2 hc3 hg3 hne1 hn2
  have g0 := r0.cell 0
  have z0 := r0.frozen 0
  have g1 := r0.cell 1
  have z1 := r0.frozen 1
  have g2 := r0.cell 2
  have z2 := r0.frozen 2
  have v0 := r1.cell 0
  have f0 := r1.frozen 0
  have v1 := r1.cell 1
  have f1 := r1.frozen 1
  have v2 := r1.cell 2
  have f2 := r1.frozen 2
  have v3 := r1.cell 3
  have f3 := r1.frozen 3
  have F := fin3 (p := w.heap.size) (a := .int .i64 W) (b := .int .i64 H) (c := .slice A1 xs.length c1) own (row_ne' own.1 r0 (by decide)) HB (Nat.le_refl _)
  have G := fin4Y (p := w.heap.size + 1) (a := .int .i64 s.f0) (b := .int .i64 s.f1) (c := .int .i64 s.f2) (d := .int .i64 s.f3) F.1 (row_ne' own.1 r1 (by decide)) F.2 (by omega)
  have hgp : g ≠ w.heap.size := by omega
  have hgq : g ≠ w.heap.size + 1 := by omega
  have RS := ((((((((hR.farOf hgp 0 (.int .i64 W)).farOf hgp 1 (.int .i64 H)).farOf hgp 2 (.slice A1 xs.length c1)).farOf hgq 0 (.int .i64 s.f0)).farOf hgq 1 (.int .i64 s.f1)).farOf hgq 2 (.int .i64 s.f2)).farOf hgq 3 (.int .i64 s.f3))).more (B' := (((((((w3.setCell ⟨w.heap.size, 0, none⟩ (.int .i64 W)).setCell ⟨w.heap.size, 1, none⟩ (.int .i64 H)).setCell ⟨w.heap.size, 2, none⟩ (.slice A1 xs.length c1)).setCell ⟨w.heap.size + 1, 0, none⟩ (.int .i64 s.f0)).setCell ⟨w.heap.size + 1, 1, none⟩ (.int .i64 s.f1)).setCell ⟨w.heap.size + 1, 2, none⟩ (.int .i64 s.f2)).setCell ⟨w.heap.size + 1, 3, none⟩ (.int .i64 s.f3)).heap.size) (by simp)
  go_wp2
  exact bodyPost_ret (v := .tuple #[chartV W H (.slice A1 xs.length c1), .agg #[.int .i64 s.f0, .int .i64 s.f1, .int .i64 s.f2, .int .i64 s.f3], .slice (some ⟨g, off, none⟩) n2 c2]) (by simp [results, Try.results44, go_sem, *]) rfl ⟨W, H, A1, c1, xs, s, g, off, n2, c2, ss, rfl, hsm, hs, G.1, by omega, RS, G.2⟩
set_option maxRecDepth 100000 in
set_option maxHeartbeats 4000000 in
theorem drawCarpetsFrom_any (A : Option Addr) (n c B : Nat) (w : World) (h : RdB w B A n c) (hB : B ≤ w.heap.size) (hn : n ≤ 65536) : Calls Try.prog 20 #[.slice A n c] w (GaveCYS w) := by
  have r0 := (Blk.new w #[.int .i64 0, .int .i64 0, .slice none 0 0] 33).alloc (.cells #[.int .i64 0, .int .i64 0, .int .i64 0, .int .i64 0] 25)
  have r1 := (Blk.new (w.alloc (.cells #[.int .i64 0, .int .i64 0, .slice none 0 0] 33)) #[.int .i64 0, .int .i64 0, .int .i64 0, .int .i64 0] 25).at_ (q := w.heap.size + 1) (by simp)
  have h' := (h.alloc hB (.cells #[.int .i64 0, .int .i64 0, .slice none 0 0] 33)).alloc (by simp; omega) (.cells #[.int .i64 0, .int .i64 0, .int .i64 0, .int .i64 0] 25)
  have HB : Below w.heap.size w ((w.alloc (.cells #[.int .i64 0, .int .i64 0, .slice none 0 0] 33)).alloc (.cells #[.int .i64 0, .int .i64 0, .int .i64 0, .int .i64 0] 25)) := ((Below.refl _ _).alloc (Nat.le_refl _) _).alloc (by simp) _
  clear h
  go_enter Try.func20, Try.ntmps20
  go_wp2_with fail
  refine (drawShortColors_any A n c B _ h' (by simp; omega) hn).mono ?_
  rintro e w1 ⟨W, H, A1, c1, xs, s, g, off, n2, c2, ss, rfl, hsm, hs, own, hgl, hR, hb⟩
  replace r0 := r0.all hb
  replace r1 := r1.all hb
  replace HB := HB.trans (hb.mono HB.size)
  replace own := own.mono (show w.heap.size ≤ _ by simp; omega)
  replace hgl : w.heap.size + 2 ≤ g := by simpa using hgl
  clear hb h'
  have g0 := r0.cell 0
  have z0 := r0.frozen 0
  have g1 := r0.cell 1
  have z1 := r0.frozen 1
  have g2 := r0.cell 2
  have z2 := r0.frozen 2
  have v0 := r1.cell 0
  have f0 := r1.frozen 0
  have v1 := r1.cell 1
  have f1 := r1.frozen 1
  have v2 := r1.cell 2
  have f2 := r1.frozen 2
  have v3 := r1.cell 3
  have f3 := r1.frozen 3
  have F := fin3 (p := w.heap.size) (a := .int .i64 W) (b := .int .i64 H) (c := .slice A1 xs.length c1) own (row_ne' own.1 r0 (by decide)) HB (Nat.le_refl _)
  have G := fin4Y (p := w.heap.size + 1) (a := .int .i64 s.f0) (b := .int .i64 s.f1) (c := .int .i64 s.f2) (d := .int .i64 s.f3) F.1 (row_ne' own.1 r1 (by decide)) F.2 (by omega)
  have hgp : g ≠ w.heap.size := by omega
  have hgq : g ≠ w.heap.size + 1 := by omega
  have RS := ((((((((hR.farOf hgp 0 (.int .i64 W)).farOf hgp 1 (.int .i64 H)).farOf hgp 2 (.slice A1 xs.length c1)).farOf hgq 0 (.int .i64 s.f0)).farOf hgq 1 (.int .i64 s.f1)).farOf hgq 2 (.int .i64 s.f2)).farOf hgq 3 (.int .i64 s.f3))).more (B' := (((((((w1.setCell ⟨w.heap.size, 0, none⟩ (.int .i64 W)).setCell ⟨w.heap.size, 1, none⟩ (.int .i64 H)).setCell ⟨w.heap.size, 2, none⟩ (.slice A1 xs.length c1)).setCell ⟨w.heap.size + 1, 0, none⟩ (.int .i64 s.f0)).setCell ⟨w.heap.size + 1, 1, none⟩ (.int .i64 s.f1)).setCell ⟨w.heap.size + 1, 2, none⟩ (.int .i64 s.f2)).setCell ⟨w.heap.size + 1, 3, none⟩ (.int .i64 s.f3)).heap.size) (by simp)
  go_wp2
  exact bodyPost_ret (v := .tuple #[chartV W H (.slice A1 xs.length c1), .agg #[.int .i64 s.f0, .int .i64 s.f1, .int .i64 s.f2, .int .i64 s.f3], .slice (some ⟨g, off, none⟩) n2 c2]) (by simp [results, Try.results20, go_sem, *]) rfl ⟨W, H, A1, c1, xs, s, g, off, n2, c2, ss, rfl, hsm, hs, G.1, by omega, RS, G.2⟩
set_option maxRecDepth 100000 in
set_option maxHeartbeats 4000000 in
theorem drawIsChart_any (A : Option Addr) (n c B : Nat) (w : World) (h : RdB w B A n c) (hB : B ≤ w.heap.size) (hn : n ≤ 65536) : Calls Try.prog 48 #[.slice A n c] w (GaveChart w) := by
  have r0 := (Blk.new w #[.int .i64 0, .int .i64 0, .slice none 0 0] 33).alloc (.cells #[.slice A n c, .int .i64 0, .int .u64 0] 52)
  have hc0 : Cur ((w.alloc (.cells #[.int .i64 0, .int .i64 0, .slice none 0 0] 33)).alloc (.cells #[.slice A n c, .int .i64 0, .int .u64 0] 52)) (w.heap.size + 1) 0 := by
    have := cur_new (h.alloc hB (.cells #[.int .i64 0, .int .i64 0, .slice none 0 0] 33)) (by simp; omega) hn
    simpa using this
  have HB : Below w.heap.size w ((w.alloc (.cells #[.int .i64 0, .int .i64 0, .slice none 0 0] 33)).alloc (.cells #[.slice A n c, .int .i64 0, .int .u64 0] 52)) := ((Below.refl _ _).alloc (Nat.le_refl _) _).alloc (by simp) _
  clear h
  go_enter Try.func48, Try.ntmps48
  go_wp2_with fail
  refine (chart_any (w.heap.size + 1) 0 _ hc0 (by omega)).mono ?_
  rintro e w1 ⟨W, H, A1, c1, xs, rfl, hsm, own, hc1, hg1⟩
  replace r0 := r0.mark hg1 (fun z hz => by cases hz; omega)
  replace HB := HB.trans (grown_below hg1 (by omega) HB.size)
  replace own := own.mono (show w.heap.size ≤ _ by simp; omega)
  clear hc0 hc1 hg1
  have g0 := r0.cell 0
  have z0 := r0.frozen 0
  have g1 := r0.cell 1
  have z1 := r0.frozen 1
  have g2 := r0.cell 2
  have z2 := r0.frozen 2
  have F := fin3 (p := w.heap.size) (a := .int .i64 W) (b := .int .i64 H) (c := .slice A1 xs.length c1) own (row_ne' own.1 r0 (by decide)) HB (Nat.le_refl _)
  go_wp2
  exact bodyPost_ret (v := chartV W H (.slice A1 xs.length c1)) (by simp [results, Try.results48, go_sem, *]) rfl ⟨W, H, A1, c1, xs, rfl, hsm, F.1, F.2⟩
set_option maxRecDepth 100000 in
set_option maxHeartbeats 4000000 in
theorem drawHungriestColor_any (A : Option Addr) (n c B : Nat) (w : World) (h : RdB w B A n c) (hB : B ≤ w.heap.size) (hn : n ≤ 65536) : Calls Try.prog 25 #[.slice A n c] w (GaveChart w) := by
  have r0 := Blk.new w #[.int .i64 0, .int .i64 0, .slice none 0 0] 33
  have h' := h.alloc hB (.cells #[.int .i64 0, .int .i64 0, .slice none 0 0] 33)
  have HB : Below w.heap.size w (w.alloc (.cells #[.int .i64 0, .int .i64 0, .slice none 0 0] 33)) := (Below.refl _ _).alloc (Nat.le_refl _) _
  clear h
  go_enter Try.func25, Try.ntmps25
  go_wp2_with fail
  refine (drawIsChart_any A n c B _ h' (by simp; omega) hn).mono ?_
  rintro e w1 ⟨W, H, A1, c1, xs, rfl, hsm, own, hb⟩
  replace r0 := r0.all hb
  replace HB := HB.trans (hb.mono HB.size)
  replace own := own.mono (show w.heap.size ≤ _ by simp)
  clear hb h'
  have g0 := r0.cell 0
  have z0 := r0.frozen 0
  have g1 := r0.cell 1
  have z1 := r0.frozen 1
  have g2 := r0.cell 2
  have z2 := r0.frozen 2
  have F := fin3 (p := w.heap.size) (a := .int .i64 W) (b := .int .i64 H) (c := .slice A1 xs.length c1) own (row_ne' own.1 r0 (by decide)) HB (Nat.le_refl _)
  go_wp2
  exact bodyPost_ret (v := chartV W H (.slice A1 xs.length c1)) (by simp [results, Try.results25, go_sem, *]) rfl ⟨W, H, A1, c1, xs, rfl, hsm, F.1, F.2⟩
set_option maxRecDepth 100000 in
set_option maxHeartbeats 4000000 in
theorem drawColorShare_any (A : Option Addr) (n c B : Nat) (w : World) (h : RdB w B A n c) (hB : B ≤ w.heap.size) (hn : n ≤ 65536) : Calls Try.prog 29 #[.slice A n c] w (GaveCI w) := by
  have r0 := (Blk.new w #[.int .i64 0, .int .i64 0, .slice none 0 0] 33).alloc (.cells #[.slice A n c, .int .i64 0, .int .u64 0] 52)
  have hc0 : Cur ((w.alloc (.cells #[.int .i64 0, .int .i64 0, .slice none 0 0] 33)).alloc (.cells #[.slice A n c, .int .i64 0, .int .u64 0] 52)) (w.heap.size + 1) 0 := by
    have := cur_new (h.alloc hB (.cells #[.int .i64 0, .int .i64 0, .slice none 0 0] 33)) (by simp; omega) hn
    simpa using this
  have HB : Below w.heap.size w ((w.alloc (.cells #[.int .i64 0, .int .i64 0, .slice none 0 0] 33)).alloc (.cells #[.slice A n c, .int .i64 0, .int .u64 0] 52)) := ((Below.refl _ _).alloc (Nat.le_refl _) _).alloc (by simp) _
  clear h
  go_enter Try.func29, Try.ntmps29
  go_wp2_with fail
  refine (chart_any (w.heap.size + 1) 0 _ hc0 (by omega)).mono ?_
  rintro e w1 ⟨W, H, A1, c1, xs, rfl, hsm, own, hc1, hg1⟩
  replace r0 := r0.mark hg1 (fun z hz => by cases hz; omega)
  replace HB := HB.trans (grown_below hg1 (by omega) HB.size)
  have hne1 := fun z' hz' => row_ne own.1 (show Blk w1 (w.heap.size + 1) 52 _ from hc1.choose_spec.choose_spec.choose_spec.choose_spec.choose_spec.choose_spec.1) (by decide) z' hz'
  replace own := own.mono (show w.heap.size ≤ _ by simp; omega)
  clear hc0 hg1
  go_wp2_with fail
  refine (color_any (w.heap.size + 1) (0 + 1000) _ hc1 (by omega)).mono ?_
  rintro e w2 ⟨f, rfl, hf, hc2, hg2⟩
  replace r0 := r0.mark hg2 (fun z hz => by cases hz; omega)
  replace own := own.mark hg2 (fun z z' hz hz' => by cases hz; exact fun e => hne1 z' hz' e.symm)
  replace HB := HB.trans (grown_below hg2 (by omega) HB.size)
  clear hc1 hc2 hg2 hne1
  have g0 := r0.cell 0
  have z0 := r0.frozen 0
  have g1 := r0.cell 1
  have z1 := r0.frozen 1
  have g2 := r0.cell 2
  have z2 := r0.frozen 2
  have F := fin3 (p := w.heap.size) (a := .int .i64 W) (b := .int .i64 H) (c := .slice A1 xs.length c1) own (row_ne' own.1 r0 (by decide)) HB (Nat.le_refl _)
  go_wp2
  exact bodyPost_ret (v := .tuple #[chartV W H (.slice A1 xs.length c1), .int .i64 f]) (by simp [results, Try.results29, go_sem, *]) rfl ⟨W, H, A1, c1, xs, f, rfl, hsm, ⟨by omega, by omega⟩, F.1, F.2⟩
end Go.Proofs.Ytndoianocmekmaa
