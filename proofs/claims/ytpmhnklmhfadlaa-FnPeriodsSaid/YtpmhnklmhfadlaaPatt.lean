/- The walk of the cursor's patterned: a chart that a motif makes, mostly, and the motif. Condition: few draws. -/
import Derived.Test.YtpmhnklmhfadlaaMgDraws
import Derived.Test.YtpmhnklmhfadlaaTileSpec
import Derived.Test.YtpmhnklmhfadlaaMgRep
namespace Go.Proofs.Ytpmhnklmhfadlaa
open Go.RowKit

/-- Two charts drawn. -/
def DrewTwo (w : World) (p k : Nat) (e : Ending) (w' : World) : Prop := ∃ (W H : Int) (A : Option Addr) (c : Nat) (xs : List Int) (W' H' : Int) (A' : Option Addr) (c' : Nat) (ys : List Int), e = .returned (.tuple #[chartV W H (.slice A xs.length c), chartV W' H' (.slice A' ys.length c')]) ∧ Small W H xs ∧ Small W' H' ys ∧ Own w' w.heap.size (.slice A xs.length c) xs ∧ Own w' w.heap.size (.slice A' ys.length c') ys ∧ Cur w' p k ∧ w.grownBy w' (some p)
theorem Blk.far3q {w : World} {p q : Nat} {t : TypeId} {cs : Array Value} {a b c : Value} (h : Blk w q t cs) (hp : q ≠ p) : Blk (((w.setCell ⟨p, 0, none⟩ a).setCell ⟨p, 1, none⟩ b).setCell ⟨p, 2, none⟩ c) q t cs :=
  ((h.far (a := ⟨p, 0, none⟩) hp a).far (a := ⟨p, 1, none⟩) hp b).far (a := ⟨p, 2, none⟩) hp c
theorem Blk.put3q {w : World} {p : Nat} {t : TypeId} {a b c : Value} (h : Blk w p t #[a, b, c]) (a' b' c' : Value) : Blk (((w.setCell ⟨p, 0, none⟩ a').setCell ⟨p, 1, none⟩ b').setCell ⟨p, 2, none⟩ c') p t #[a', b', c'] := by
  have := ((h.set_ 0 a').set_ 1 b').set_ 2 c'
  simpa using this
/-- Two charts stored into two boxes. -/
theorem two_stored {w0 w : World} {p p2 p3 k : Nat} {v v' a b c a' b' c' : Value} {xs ys : List Int} {z2 z3 : Array Value} {lo : Nat} (h : Own w lo v xs) (h' : Own w lo v' ys) (b2 : Blk w p2 26 z2) (b3 : Blk w p3 26 z3) (hz2 : z2.size = 3) (hz3 : z3.size = 3) (hne : p2 ≠ p3) (C : Cur w p k) (G : w0.grownBy w (some p)) (hp2 : w0.heap.size ≤ p2) (hp3 : w0.heap.size ≤ p3) (hp : p < w0.heap.size)
    (w' : World) (hw : w' = (((((w.setCell ⟨p2, 0, none⟩ a).setCell ⟨p2, 1, none⟩ b).setCell ⟨p2, 2, none⟩ c).setCell ⟨p3, 0, none⟩ a').setCell ⟨p3, 1, none⟩ b').setCell ⟨p3, 2, none⟩ c') :
    Own w' lo v xs ∧ Own w' lo v' ys ∧ Blk w' p2 26 #[a, b, c] ∧ Blk w' p3 26 #[a', b', c'] ∧ Cur w' p k ∧ w0.grownBy w' (some p) := by
  subst hw
  obtain ⟨⟨x0, x1, x2⟩, rfl⟩ : ∃ t : Value × Value × Value, z2 = #[t.1, t.2.1, t.2.2] := by
    match z2, hz2 with
    | ⟨[x, y, z]⟩, _ => exact ⟨(x, y, z), rfl⟩
  obtain ⟨⟨y0, y1, y2⟩, rfl⟩ : ∃ t : Value × Value × Value, z3 = #[t.1, t.2.1, t.2.2] := by
    match z3, hz3 with
    | ⟨[x, y, z]⟩, _ => exact ⟨(x, y, z), rfl⟩
  have F1 := fin3 (p := p2) (w0 := w) (B := w0.heap.size) (a := a) (b := b) (c := c) h (row_ne' h.1 b2 (by decide)) (Below.refl _ _) hp2
  have F1' := fin3 (p := p2) (w0 := w) (B := w0.heap.size) (a := a) (b := b) (c := c) h' (row_ne' h'.1 b2 (by decide)) (Below.refl _ _) hp2
  have B2 := b2.put3q a b c
  have B3 := b3.far3q (p := p2) (a := a) (b := b) (c := c) (fun e => hne e.symm)
  have C1 := C.below F1.2 hp
  have G1 := grown_own G F1.2
  have F2 := fin3 (p := p3) (w0 := _) (B := w0.heap.size) (a := a') (b := b') (c := c') F1.1 (row_ne' F1.1.1 B3 (by decide)) (Below.refl _ _) hp3
  have F2' := fin3 (p := p3) (w0 := _) (B := w0.heap.size) (a := a') (b := b') (c := c') F1'.1 (row_ne' F1'.1.1 B3 (by decide)) (Below.refl _ _) hp3
  exact ⟨F2.1, F2'.1, B2.far3q (p := p3) (a := a') (b := b') (c := c') hne, B3.put3q a' b' c', C1.below F2.2 hp, grown_own G1 F2.2⟩
theorem knot_put {w : World} {g j c lo : Nat} {xs : List Int} {x : Int} (h : Own w lo (.slice (some ⟨g, 0, none⟩) xs.length c) xs) (hj : j < xs.length) (hx : I64 x) :
    (∃ v, w.cell? ⟨g, j, none⟩ = some v) ∧ w.frozen? ⟨g, j, none⟩ = false ∧ Own (w.setCell ⟨g, j, none⟩ (.int .i64 x)) lo (.slice (some ⟨g, 0, none⟩) (xs.set j x).length c) (xs.set j x) ∧ w.grownBy (w.setCell ⟨g, j, none⟩ (.int .i64 x)) (some g) := by
  have HS := h.1.stored j (.int .i64 x)
  refine ⟨⟨_, own_at h hj rfl⟩, h.1.frozenAt _, ⟨?_, fun y hy => ?_⟩, HS.2⟩
  · rw [List.length_set, List.map_set]
    exact HS.1
  · rcases List.mem_or_eq_of_mem_set hy with hy | rfl
    · exact h.2 y hy
    · exact hx
theorem rep_small (W H : Int) (xs : List Int) (a d : Int) : Small (orZero (repAll W H xs a d) (a * W)) (orZero (repAll W H xs a d) (d * H)) (repX W H xs a d) ∧ (repAll W H xs a d = true → 1 ≤ (repX W H xs a d).length) := by
  cases h : repAll W H xs a d with
  | false =>
    have : repX W H xs a d = [] := by unfold repX; rw [h]; rfl
    rw [this]
    exact ⟨⟨by simp, ⟨by simp [orZero], by simp [orZero]⟩, ⟨by simp [orZero], by simp [orZero]⟩⟩, fun h => by cases h⟩
  | true =>
    have hg := (rep_facts h).good
    obtain ⟨m, k, e1, e2, m1, m8, k1, k8, hl, _, _, hc⟩ := good_nat hg
    have hm : m * k ≤ 8 * 8 := Nat.mul_le_mul m8 k8
    have hm1 : 1 * 1 ≤ m * k := Nat.mul_le_mul m1 k1
    simp only [orZero, if_true]
    rw [e1, e2]
    exact ⟨⟨by omega, ⟨by omega, by omega⟩, ⟨by omega, by omega⟩⟩, fun _ => by omega⟩
set_option maxRecDepth 100000 in
set_option maxHeartbeats 16000000 in
theorem patterned_any (p k : Nat) (w : World) (h : Cur w p k) (hk : k + 6000 ≤ 4294967296) : Calls Try.prog 43 #[.pointer (some ⟨p, 0, none⟩)] w (DrewTwo w p (k + 6000)) := by
  have hpw := h.lt
  have hb0 := ((Below.refl w.heap.size w).alloc (Nat.le_refl _) (.cells #[.int .i64 0, .int .i64 0, .slice none 0 0] 26)).alloc (by simp) (.cells #[.int .i64 0, .int .i64 0, .slice none 0 0] 26)
  have HG0 := Lib.hid (below_grown (row := some p) hb0)
  have hc0 := h.all hb0
  have r0 := (Blk.new w #[.int .i64 0, .int .i64 0, .slice none 0 0] 26).alloc (.cells #[.int .i64 0, .int .i64 0, .slice none 0 0] 26)
  have s0 := (Blk.new (w.alloc (.cells #[.int .i64 0, .int .i64 0, .slice none 0 0] 26)) #[.int .i64 0, .int .i64 0, .slice none 0 0] 26).at_ (q := w.heap.size + 1) (by simp)
  clear h hb0
  go_enter Try.func43, Try.ntmps43
  go_wp2_with fail
  refine (motif_any p k _ hc0 (by omega)).mono ?_
  rintro e w1 ⟨W, H, A1, c1, xs, rfl, hsm, own, hc1, hg1⟩
  have r1 := r0.mark hg1 (fun z hz => by cases hz; omega)
  have s1 := s0.mark hg1 (fun z hz => by cases hz; omega)
  have HG1 := Lib.hid (grown_trans HG0.out hg1)
  have hs2 : w.heap.size + 2 ≤ w1.heap.size := by have := hg1.size; simpa using this
  replace own := own.mono (show w.heap.size ≤ _ by simp; omega)
  clear hc0 hg1 r0 s0 HG0
  have hal := (Below.refl w1.heap.size w1).alloc (Nat.le_refl _) (.cells #[.int .i64 W, .int .i64 H, .slice A1 xs.length c1] 26)
  have Bm := Blk.new w1 #[.int .i64 W, .int .i64 H, .slice A1 xs.length c1] 26
  have C := hc1.all hal
  have R2 := r1.all hal
  have R3 := s1.all hal
  have O := own.all hal
  have G := grown_trans HG1.out (below_grown (row := some p) hal)
  have hne1 : ∀ z', (Value.slice A1 xs.length c1).ownBlock = some z' → z' ≠ p := fun z' hz' => by have := (own.bd z' hz').1; omega
  clear hc1 r1 s1 own HG1 hal
  go_wp2_with fail
  obtain ⟨wX, hwX⟩ : ∃ v, w1.alloc (.cells #[.int .i64 W, .int .i64 H, .slice A1 xs.length c1] 26) = v := ⟨_, rfl⟩
  rw [hwX] at Bm C R2 R3 O G ⊢
  obtain ⟨Q4, hQ4⟩ : ∃ q, w1.heap.size = q := ⟨_, rfl⟩
  rw [hQ4] at Bm hs2 ⊢
  clear hwX hQ4
  have ex0 := Bm.cell 0
  have ex1 := Bm.cell 1
  have ex2 := Bm.cell 2
  refine' (fun (keyK8 : Bool → (_ : Prop)) => ?main) ?keyK8
  case main =>
    refine' (fun (keyK7 : Bool → (_ : Prop)) => ?main) ?keyK7
    case main =>
      refine' (fun (keyK6 : Bool → (_ : Prop)) => ?main) ?keyK6
      case main =>
        refine' (fun (keyK5 : Bool → (_ : Prop)) => ?main) ?keyK5
        case main =>
          refine' (fun (keyK4 : Bool → (_ : Prop)) => ?main) ?keyK4
          case main =>
            refine' (fun (keyK3 : Bool → (_ : Prop)) => ?main) ?keyK3
            case main =>
              refine' (fun (keyK2 : Bool → (_ : Prop)) => ?main) ?keyK2
              case main =>
                refine' (fun (keyK1 : Bool → (_ : Prop)) => ?main) ?keyK1
                case main =>
                  refine' (fun (keyK0 : Bool → (_ : Prop)) => ?main) ?keyK0
                  case main =>
                    refine wp_region_noPanic ?_
                    refine wp_region_held_drew (S := (fun w' => w'.cell? ⟨Q4, 0, none⟩ = some (.int .i64 W) ∧ w'.cell? ⟨Q4, 1, none⟩ = some (.int .i64 H) ∧ w'.cell? ⟨Q4, 2, none⟩ = some (.slice A1 xs.length c1))) (by kernel_rfl) (by go_keep) (fun hHeld => ?_)
                    have Cz := cur_drew C
                    have Bmz : Blk wX.drew _ _ _ := Bm.all (low_drewN wX 1)
                    have R2z : Blk wX.drew _ _ _ := R2.all (low_drewN wX 1)
                    have R3z : Blk wX.drew _ _ _ := R3.all (low_drewN wX 1)
                    have Oz : Own wX.drew _ _ _ := O.all (low_drewN wX 1)
                    have Gz := grown_trans G (drew_grown _ _)
                    obtain ⟨wdK, hwd⟩ : ∃ v, wX.drew = v := ⟨_, rfl⟩
                    rw [hwd] at hHeld Cz Bmz R2z R3z Oz Gz ⊢
                    clear hwd
                    refine wpAnyH_take (i := 0) (v := ?_) rfl (by kernel_rfl) (by kernel_rfl) (by kernel_rfl) (fun _ _ _ h => h) (Or.inl ⟨by rfl, ?_⟩) (by assumption) ?_
                    rotate_left
                    · intro w hSw; (try dsimp only at hSw); go_simp; (try with_reducible rfl)
                    (try simp only [Act.put, List.getElem_toArray, List.getElem_cons_zero, List.setIfInBounds_toArray, List.set_cons_zero, List.set_cons_succ])
                    refine wpAnyH_take (i := 1) (v := ?_) rfl (by kernel_rfl) (by kernel_rfl) (by kernel_rfl) (fun _ _ _ h => h) (Or.inl ⟨by rfl, ?_⟩) (by assumption) ?_
                    rotate_left
                    · intro w hSw; (try dsimp only at hSw); go_simp; (try with_reducible rfl)
                    (try simp only [Act.put, List.getElem_toArray, List.getElem_cons_zero, List.getElem_cons_succ, List.setIfInBounds_toArray, List.set_cons_zero, List.set_cons_succ])
                    refine wpAnyH_take (i := 4) (v := ?_) rfl (by kernel_rfl) (by kernel_rfl) (by kernel_rfl) (fun _ _ _ h => h) (Or.inl ⟨by rfl, ?_⟩) (by assumption) ?_
                    rotate_left
                    · intro w hSw; (try dsimp only at hSw); go_simp; (try with_reducible rfl)
                    (try simp only [Act.put, List.getElem_toArray, List.getElem_cons_zero, List.getElem_cons_succ, List.setIfInBounds_toArray, List.set_cons_zero, List.set_cons_succ])
                    clear hHeld
                    refine wpAnyH_ready (rs := [2, 5, 11]) (by kernel_rfl) (by simp) ?_
                    refine AllReadyH.cons rfl (fun K hK => ?_) ?_
                    · skip
                      go_simp
                      have hal := (Below.refl wdK.heap.size wdK).alloc (Nat.le_refl _) (.cells #[.int .i64 1, .int .i64 2, .int .i64 3, .int .i64 4] 3)
                      have hcl := Cz.lt
                      replace Cz := Cz.all hal
                      replace Bmz := Bmz.all hal
                      replace R2z := R2z.all hal
                      replace R3z := R3z.all hal
                      replace Oz := Oz.all hal
                      replace Gz := grown_trans Gz (below_grown (row := some p) hal)
                      have Lit2 : Blk _ (wdK.heap.size) _ _ := Blk.new wdK #[.int .i64 1, .int .i64 2, .int .i64 3, .int .i64 4] 3
                      obtain ⟨q2, hq⟩ : ∃ q, wdK.heap.size = q := ⟨_, rfl⟩
                      rw [hq] at Lit2 ⊢
                      have hqp2 : q2 ≠ p := by omega
                      clear hcl
                      obtain ⟨wq1, hw⟩ : ∃ v, wdK.alloc (.cells #[.int .i64 1, .int .i64 2, .int .i64 3, .int .i64 4] 3) = v := ⟨_, rfl⟩
                      rw [hw] at Cz Bmz R2z R3z Oz Gz Lit2 ⊢
                      clear hal hw hq
                      refine hK.out _ _ (by exact ⟨Bmz.cell 0, Bmz.cell 1, Bmz.cell 2⟩) (fun hHeld => ?_)
                      clear hK K
                      (try simp only [Act.put, List.getElem_toArray, List.getElem_cons_zero, List.getElem_cons_succ, List.setIfInBounds_toArray, List.set_cons_zero, List.set_cons_succ])
                      clear hHeld
                      refine wpAnyH_ready (rs := [3, 5, 11]) (by kernel_rfl) (by simp) ?_
                      refine AllReadyH.cons rfl (fun K hK => ?_) ?_
                      · skip
                        go_simp
                        refine (among_any p (k + 3000) q2 0 4 4 _ [1, 2, 3, 4] _ Cz (by omega) (lit_rd2 (xs := [1, 2, 3, 4]) Lit2 (I64.lit (by decide)) (by decide)) (by omega) (by omega) (by omega)).mono ?_
                        rintro e wq2 ⟨x3, rfl, -, hc, hg⟩
                        clear Cz
                        have Cz := hc
                        replace Bmz := Bmz.mark hg (fun z hz => by cases hz; omega)
                        replace R2z := R2z.mark hg (fun z hz => by cases hz; omega)
                        replace R3z := R3z.mark hg (fun z hz => by cases hz; omega)
                        replace Oz := Oz.mark hg (fun z z' hz hz' => by cases hz; exact fun e => hne1 z' hz' e.symm)
                        replace Gz := grown_trans Gz hg
                        replace Lit2 := Lit2.mark hg (fun z hz => by cases hz; omega)
                        clear hc hg
                        refine hK.out _ _ (by exact ⟨Bmz.cell 0, Bmz.cell 1, Bmz.cell 2⟩) (fun hHeld => ?_)
                        clear hK K
                        (try simp only [Act.put, List.getElem_toArray, List.getElem_cons_zero, List.getElem_cons_succ, List.setIfInBounds_toArray, List.set_cons_zero, List.set_cons_succ])
                        clear hHeld
                        refine wpAnyH_ready (rs := [5, 11]) (by kernel_rfl) (by simp) ?_
                        refine AllReadyH.cons rfl (fun K hK => ?_) ?_
                        · skip
                          go_simp
                          have hal := (Below.refl wq2.heap.size wq2).alloc (Nat.le_refl _) (.cells #[.int .i64 1, .int .i64 2, .int .i64 3] 3)
                          have hcl := Cz.lt
                          replace Cz := Cz.all hal
                          replace Bmz := Bmz.all hal
                          replace R2z := R2z.all hal
                          replace R3z := R3z.all hal
                          replace Oz := Oz.all hal
                          replace Gz := grown_trans Gz (below_grown (row := some p) hal)
                          replace Lit2 := Lit2.all hal
                          have Lit5 : Blk _ (wq2.heap.size) _ _ := Blk.new wq2 #[.int .i64 1, .int .i64 2, .int .i64 3] 3
                          obtain ⟨q5, hq⟩ : ∃ q, wq2.heap.size = q := ⟨_, rfl⟩
                          rw [hq] at Lit5 ⊢
                          have hqp5 : q5 ≠ p := by omega
                          clear hcl
                          obtain ⟨wq3, hw⟩ : ∃ v, wq2.alloc (.cells #[.int .i64 1, .int .i64 2, .int .i64 3] 3) = v := ⟨_, rfl⟩
                          rw [hw] at Cz Bmz R2z R3z Oz Gz Lit2 Lit5 ⊢
                          clear hal hw hq
                          refine hK.out _ _ (by exact ⟨Bmz.cell 0, Bmz.cell 1, Bmz.cell 2⟩) (fun hHeld => ?_)
                          clear hK K
                          (try simp only [Act.put, List.getElem_toArray, List.getElem_cons_zero, List.getElem_cons_succ, List.setIfInBounds_toArray, List.set_cons_zero, List.set_cons_succ])
                          revert hHeld; revert hqp5; revert hqp2; revert Lit5; revert Lit2; revert Gz; revert Oz; revert R3z; revert R2z; revert Bmz; revert Cz; revert x3; revert q5; revert q2; revert wq3
                          exact keyK3 true
                        refine AllReadyH.cons rfl (fun K hK => ?_) AllReadyH.nil
                        go_simp
                        have hal := (Below.refl wq2.heap.size wq2).alloc (Nat.le_refl _) (.cells #[.int .i64 0, .int .i64 0, .slice none 0 0] 26)
                        have hql11 : Q4 < wq2.heap.size := Bmz.lt
                        have hcl := Cz.lt
                        replace Cz := Cz.all hal
                        replace Bmz := Bmz.all hal
                        replace R2z := R2z.all hal
                        replace R3z := R3z.all hal
                        replace Oz := Oz.all hal
                        replace Gz := grown_trans Gz (below_grown (row := some p) hal)
                        replace Lit2 := Lit2.all hal
                        have Lit11 : Blk _ (wq2.heap.size) _ _ := Blk.new wq2 #[.int .i64 0, .int .i64 0, .slice none 0 0] 26
                        obtain ⟨q11, hq⟩ : ∃ q, wq2.heap.size = q := ⟨_, rfl⟩
                        rw [hq] at Lit11 hql11 ⊢
                        have hqp11 : q11 ≠ p := by omega
                        clear hcl
                        obtain ⟨wq4, hw⟩ : ∃ v, wq2.alloc (.cells #[.int .i64 0, .int .i64 0, .slice none 0 0] 26) = v := ⟨_, rfl⟩
                        rw [hw] at Cz Bmz R2z R3z Oz Gz Lit2 Lit11 ⊢
                        clear hal hw hq
                        refine hK.out _ _ (by exact ⟨Bmz.cell 0, Bmz.cell 1, Bmz.cell 2⟩) (fun hHeld => ?_)
                        clear hK K
                        (try simp only [Act.put, List.getElem_toArray, List.getElem_cons_zero, List.getElem_cons_succ, List.setIfInBounds_toArray, List.set_cons_zero, List.set_cons_succ])
                        revert hHeld; revert hqp2; revert hqp11; revert hql11; revert Lit2; revert Lit11; revert Gz; revert Oz; revert R3z; revert R2z; revert Bmz; revert Cz; revert x3; revert q11; revert q2; revert wq4
                        exact keyK4 true
                      refine AllReadyH.cons rfl (fun K hK => ?_) ?_
                      · skip
                        go_simp
                        have hal := (Below.refl wq1.heap.size wq1).alloc (Nat.le_refl _) (.cells #[.int .i64 1, .int .i64 2, .int .i64 3] 3)
                        have hcl := Cz.lt
                        replace Cz := Cz.all hal
                        replace Bmz := Bmz.all hal
                        replace R2z := R2z.all hal
                        replace R3z := R3z.all hal
                        replace Oz := Oz.all hal
                        replace Gz := grown_trans Gz (below_grown (row := some p) hal)
                        replace Lit2 := Lit2.all hal
                        have Lit5 : Blk _ (wq1.heap.size) _ _ := Blk.new wq1 #[.int .i64 1, .int .i64 2, .int .i64 3] 3
                        obtain ⟨q5, hq⟩ : ∃ q, wq1.heap.size = q := ⟨_, rfl⟩
                        rw [hq] at Lit5 ⊢
                        have hqp5 : q5 ≠ p := by omega
                        clear hcl
                        obtain ⟨wq5, hw⟩ : ∃ v, wq1.alloc (.cells #[.int .i64 1, .int .i64 2, .int .i64 3] 3) = v := ⟨_, rfl⟩
                        rw [hw] at Cz Bmz R2z R3z Oz Gz Lit2 Lit5 ⊢
                        clear hal hw hq
                        refine hK.out _ _ (by exact ⟨Bmz.cell 0, Bmz.cell 1, Bmz.cell 2⟩) (fun hHeld => ?_)
                        clear hK K
                        (try simp only [Act.put, List.getElem_toArray, List.getElem_cons_zero, List.getElem_cons_succ, List.setIfInBounds_toArray, List.set_cons_zero, List.set_cons_succ])
                        revert hHeld; revert hqp5; revert hqp2; revert Lit5; revert Lit2; revert Gz; revert Oz; revert R3z; revert R2z; revert Bmz; revert Cz; revert q5; revert q2; revert wq5
                        exact keyK2 true
                      refine AllReadyH.cons rfl (fun K hK => ?_) AllReadyH.nil
                      go_simp
                      have hal := (Below.refl wq1.heap.size wq1).alloc (Nat.le_refl _) (.cells #[.int .i64 0, .int .i64 0, .slice none 0 0] 26)
                      have hql11 : Q4 < wq1.heap.size := Bmz.lt
                      have hcl := Cz.lt
                      replace Cz := Cz.all hal
                      replace Bmz := Bmz.all hal
                      replace R2z := R2z.all hal
                      replace R3z := R3z.all hal
                      replace Oz := Oz.all hal
                      replace Gz := grown_trans Gz (below_grown (row := some p) hal)
                      replace Lit2 := Lit2.all hal
                      have Lit11 : Blk _ (wq1.heap.size) _ _ := Blk.new wq1 #[.int .i64 0, .int .i64 0, .slice none 0 0] 26
                      obtain ⟨q11, hq⟩ : ∃ q, wq1.heap.size = q := ⟨_, rfl⟩
                      rw [hq] at Lit11 hql11 ⊢
                      have hqp11 : q11 ≠ p := by omega
                      clear hcl
                      obtain ⟨wq6, hw⟩ : ∃ v, wq1.alloc (.cells #[.int .i64 0, .int .i64 0, .slice none 0 0] 26) = v := ⟨_, rfl⟩
                      rw [hw] at Cz Bmz R2z R3z Oz Gz Lit2 Lit11 ⊢
                      clear hal hw hq
                      refine hK.out _ _ (by exact ⟨Bmz.cell 0, Bmz.cell 1, Bmz.cell 2⟩) (fun hHeld => ?_)
                      clear hK K
                      (try simp only [Act.put, List.getElem_toArray, List.getElem_cons_zero, List.getElem_cons_succ, List.setIfInBounds_toArray, List.set_cons_zero, List.set_cons_succ])
                      revert hHeld; revert hqp2; revert hqp11; revert hql11; revert Lit2; revert Lit11; revert Gz; revert Oz; revert R3z; revert R2z; revert Bmz; revert Cz; revert q11; revert q2; revert wq6
                      exact keyK1 true
                    refine AllReadyH.cons rfl (fun K hK => ?_) ?_
                    · skip
                      go_simp
                      have hal := (Below.refl wdK.heap.size wdK).alloc (Nat.le_refl _) (.cells #[.int .i64 1, .int .i64 2, .int .i64 3] 3)
                      have hcl := Cz.lt
                      replace Cz := Cz.all hal
                      replace Bmz := Bmz.all hal
                      replace R2z := R2z.all hal
                      replace R3z := R3z.all hal
                      replace Oz := Oz.all hal
                      replace Gz := grown_trans Gz (below_grown (row := some p) hal)
                      have Lit5 : Blk _ (wdK.heap.size) _ _ := Blk.new wdK #[.int .i64 1, .int .i64 2, .int .i64 3] 3
                      obtain ⟨q5, hq⟩ : ∃ q, wdK.heap.size = q := ⟨_, rfl⟩
                      rw [hq] at Lit5 ⊢
                      have hqp5 : q5 ≠ p := by omega
                      clear hcl
                      obtain ⟨wq7, hw⟩ : ∃ v, wdK.alloc (.cells #[.int .i64 1, .int .i64 2, .int .i64 3] 3) = v := ⟨_, rfl⟩
                      rw [hw] at Cz Bmz R2z R3z Oz Gz Lit5 ⊢
                      clear hal hw hq
                      refine hK.out _ _ (by exact ⟨Bmz.cell 0, Bmz.cell 1, Bmz.cell 2⟩) (fun hHeld => ?_)
                      clear hK K
                      (try simp only [Act.put, List.getElem_toArray, List.getElem_cons_zero, List.getElem_cons_succ, List.setIfInBounds_toArray, List.set_cons_zero, List.set_cons_succ])
                      clear hHeld
                      refine wpAnyH_ready (rs := [2, 11]) (by kernel_rfl) (by simp) ?_
                      refine AllReadyH.cons rfl (fun K hK => ?_) ?_
                      · skip
                        go_simp
                        have hal := (Below.refl wq7.heap.size wq7).alloc (Nat.le_refl _) (.cells #[.int .i64 1, .int .i64 2, .int .i64 3, .int .i64 4] 3)
                        have hcl := Cz.lt
                        replace Cz := Cz.all hal
                        replace Bmz := Bmz.all hal
                        replace R2z := R2z.all hal
                        replace R3z := R3z.all hal
                        replace Oz := Oz.all hal
                        replace Gz := grown_trans Gz (below_grown (row := some p) hal)
                        replace Lit5 := Lit5.all hal
                        have Lit2 : Blk _ (wq7.heap.size) _ _ := Blk.new wq7 #[.int .i64 1, .int .i64 2, .int .i64 3, .int .i64 4] 3
                        obtain ⟨q2, hq⟩ : ∃ q, wq7.heap.size = q := ⟨_, rfl⟩
                        rw [hq] at Lit2 ⊢
                        have hqp2 : q2 ≠ p := by omega
                        clear hcl
                        obtain ⟨wq8, hw⟩ : ∃ v, wq7.alloc (.cells #[.int .i64 1, .int .i64 2, .int .i64 3, .int .i64 4] 3) = v := ⟨_, rfl⟩
                        rw [hw] at Cz Bmz R2z R3z Oz Gz Lit5 Lit2 ⊢
                        clear hal hw hq
                        refine hK.out _ _ (by exact ⟨Bmz.cell 0, Bmz.cell 1, Bmz.cell 2⟩) (fun hHeld => ?_)
                        clear hK K
                        (try simp only [Act.put, List.getElem_toArray, List.getElem_cons_zero, List.getElem_cons_succ, List.setIfInBounds_toArray, List.set_cons_zero, List.set_cons_succ])
                        revert hHeld; revert hqp5; revert hqp2; revert Lit5; revert Lit2; revert Gz; revert Oz; revert R3z; revert R2z; revert Bmz; revert Cz; revert q5; revert q2; revert wq8
                        exact keyK2 true
                      refine AllReadyH.cons rfl (fun K hK => ?_) AllReadyH.nil
                      go_simp
                      have hal := (Below.refl wq7.heap.size wq7).alloc (Nat.le_refl _) (.cells #[.int .i64 0, .int .i64 0, .slice none 0 0] 26)
                      have hql11 : Q4 < wq7.heap.size := Bmz.lt
                      have hcl := Cz.lt
                      replace Cz := Cz.all hal
                      replace Bmz := Bmz.all hal
                      replace R2z := R2z.all hal
                      replace R3z := R3z.all hal
                      replace Oz := Oz.all hal
                      replace Gz := grown_trans Gz (below_grown (row := some p) hal)
                      replace Lit5 := Lit5.all hal
                      have Lit11 : Blk _ (wq7.heap.size) _ _ := Blk.new wq7 #[.int .i64 0, .int .i64 0, .slice none 0 0] 26
                      obtain ⟨q11, hq⟩ : ∃ q, wq7.heap.size = q := ⟨_, rfl⟩
                      rw [hq] at Lit11 hql11 ⊢
                      have hqp11 : q11 ≠ p := by omega
                      clear hcl
                      obtain ⟨wq9, hw⟩ : ∃ v, wq7.alloc (.cells #[.int .i64 0, .int .i64 0, .slice none 0 0] 26) = v := ⟨_, rfl⟩
                      rw [hw] at Cz Bmz R2z R3z Oz Gz Lit5 Lit11 ⊢
                      clear hal hw hq
                      refine hK.out _ _ (by exact ⟨Bmz.cell 0, Bmz.cell 1, Bmz.cell 2⟩) (fun hHeld => ?_)
                      clear hK K
                      (try simp only [Act.put, List.getElem_toArray, List.getElem_cons_zero, List.getElem_cons_succ, List.setIfInBounds_toArray, List.set_cons_zero, List.set_cons_succ])
                      revert hHeld; revert hqp5; revert hqp11; revert hql11; revert Lit5; revert Lit11; revert Gz; revert Oz; revert R3z; revert R2z; revert Bmz; revert Cz; revert q11; revert q5; revert wq9
                      exact keyK0 true
                    refine AllReadyH.cons rfl (fun K hK => ?_) AllReadyH.nil
                    go_simp
                    have hal := (Below.refl wdK.heap.size wdK).alloc (Nat.le_refl _) (.cells #[.int .i64 0, .int .i64 0, .slice none 0 0] 26)
                    have hql11 : Q4 < wdK.heap.size := Bmz.lt
                    have hcl := Cz.lt
                    replace Cz := Cz.all hal
                    replace Bmz := Bmz.all hal
                    replace R2z := R2z.all hal
                    replace R3z := R3z.all hal
                    replace Oz := Oz.all hal
                    replace Gz := grown_trans Gz (below_grown (row := some p) hal)
                    have Lit11 : Blk _ (wdK.heap.size) _ _ := Blk.new wdK #[.int .i64 0, .int .i64 0, .slice none 0 0] 26
                    obtain ⟨q11, hq⟩ : ∃ q, wdK.heap.size = q := ⟨_, rfl⟩
                    rw [hq] at Lit11 hql11 ⊢
                    have hqp11 : q11 ≠ p := by omega
                    clear hcl
                    obtain ⟨wq10, hw⟩ : ∃ v, wdK.alloc (.cells #[.int .i64 0, .int .i64 0, .slice none 0 0] 26) = v := ⟨_, rfl⟩
                    rw [hw] at Cz Bmz R2z R3z Oz Gz Lit11 ⊢
                    clear hal hw hq
                    refine hK.out _ _ (by exact ⟨Bmz.cell 0, Bmz.cell 1, Bmz.cell 2⟩) (fun hHeld => ?_)
                    clear hK K
                    (try simp only [Act.put, List.getElem_toArray, List.getElem_cons_zero, List.getElem_cons_succ, List.setIfInBounds_toArray, List.set_cons_zero, List.set_cons_succ])
                    clear hHeld
                    refine wpAnyH_ready (rs := [2, 5]) (by kernel_rfl) (by simp) ?_
                    refine AllReadyH.cons rfl (fun K hK => ?_) ?_
                    · skip
                      go_simp
                      have hal := (Below.refl wq10.heap.size wq10).alloc (Nat.le_refl _) (.cells #[.int .i64 1, .int .i64 2, .int .i64 3, .int .i64 4] 3)
                      have hcl := Cz.lt
                      replace Cz := Cz.all hal
                      replace Bmz := Bmz.all hal
                      replace R2z := R2z.all hal
                      replace R3z := R3z.all hal
                      replace Oz := Oz.all hal
                      replace Gz := grown_trans Gz (below_grown (row := some p) hal)
                      replace Lit11 := Lit11.all hal
                      have Lit2 : Blk _ (wq10.heap.size) _ _ := Blk.new wq10 #[.int .i64 1, .int .i64 2, .int .i64 3, .int .i64 4] 3
                      obtain ⟨q2, hq⟩ : ∃ q, wq10.heap.size = q := ⟨_, rfl⟩
                      rw [hq] at Lit2 ⊢
                      have hqp2 : q2 ≠ p := by omega
                      clear hcl
                      obtain ⟨wq11, hw⟩ : ∃ v, wq10.alloc (.cells #[.int .i64 1, .int .i64 2, .int .i64 3, .int .i64 4] 3) = v := ⟨_, rfl⟩
                      rw [hw] at Cz Bmz R2z R3z Oz Gz Lit11 Lit2 ⊢
                      clear hal hw hq
                      refine hK.out _ _ (by exact ⟨Bmz.cell 0, Bmz.cell 1, Bmz.cell 2⟩) (fun hHeld => ?_)
                      clear hK K
                      (try simp only [Act.put, List.getElem_toArray, List.getElem_cons_zero, List.getElem_cons_succ, List.setIfInBounds_toArray, List.set_cons_zero, List.set_cons_succ])
                      revert hHeld; revert hqp2; revert hqp11; revert hql11; revert Lit2; revert Lit11; revert Gz; revert Oz; revert R3z; revert R2z; revert Bmz; revert Cz; revert q11; revert q2; revert wq11
                      exact keyK1 true
                    refine AllReadyH.cons rfl (fun K hK => ?_) AllReadyH.nil
                    go_simp
                    have hal := (Below.refl wq10.heap.size wq10).alloc (Nat.le_refl _) (.cells #[.int .i64 1, .int .i64 2, .int .i64 3] 3)
                    have hcl := Cz.lt
                    replace Cz := Cz.all hal
                    replace Bmz := Bmz.all hal
                    replace R2z := R2z.all hal
                    replace R3z := R3z.all hal
                    replace Oz := Oz.all hal
                    replace Gz := grown_trans Gz (below_grown (row := some p) hal)
                    replace Lit11 := Lit11.all hal
                    have Lit5 : Blk _ (wq10.heap.size) _ _ := Blk.new wq10 #[.int .i64 1, .int .i64 2, .int .i64 3] 3
                    obtain ⟨q5, hq⟩ : ∃ q, wq10.heap.size = q := ⟨_, rfl⟩
                    rw [hq] at Lit5 ⊢
                    have hqp5 : q5 ≠ p := by omega
                    clear hcl
                    obtain ⟨wq12, hw⟩ : ∃ v, wq10.alloc (.cells #[.int .i64 1, .int .i64 2, .int .i64 3] 3) = v := ⟨_, rfl⟩
                    rw [hw] at Cz Bmz R2z R3z Oz Gz Lit11 Lit5 ⊢
                    clear hal hw hq
                    refine hK.out _ _ (by exact ⟨Bmz.cell 0, Bmz.cell 1, Bmz.cell 2⟩) (fun hHeld => ?_)
                    clear hK K
                    (try simp only [Act.put, List.getElem_toArray, List.getElem_cons_zero, List.getElem_cons_succ, List.setIfInBounds_toArray, List.set_cons_zero, List.set_cons_succ])
                    revert hHeld; revert hqp5; revert hqp11; revert hql11; revert Lit5; revert Lit11; revert Gz; revert Oz; revert R3z; revert R2z; revert Bmz; revert Cz; revert q11; revert q5; revert wq12
                    exact keyK0 true
                  case keyK0 =>
                    intro _ wq9 q5 q11 Cz Bmz R2z R3z Oz Gz Lit11 Lit5 hql11 hqp11 hqp5 hHeld
                    clear hHeld
                    refine wpAnyH_ready (rs := [2]) (by kernel_rfl) (by simp) ?_
                    refine AllReadyH.cons rfl (fun K hK => ?_) AllReadyH.nil
                    go_simp
                    have hal := (Below.refl wq9.heap.size wq9).alloc (Nat.le_refl _) (.cells #[.int .i64 1, .int .i64 2, .int .i64 3, .int .i64 4] 3)
                    have hcl := Cz.lt
                    replace Cz := Cz.all hal
                    replace Bmz := Bmz.all hal
                    replace R2z := R2z.all hal
                    replace R3z := R3z.all hal
                    replace Oz := Oz.all hal
                    replace Gz := grown_trans Gz (below_grown (row := some p) hal)
                    replace Lit11 := Lit11.all hal
                    replace Lit5 := Lit5.all hal
                    have Lit2 : Blk _ (wq9.heap.size) _ _ := Blk.new wq9 #[.int .i64 1, .int .i64 2, .int .i64 3, .int .i64 4] 3
                    obtain ⟨q2, hq⟩ : ∃ q, wq9.heap.size = q := ⟨_, rfl⟩
                    rw [hq] at Lit2 ⊢
                    have hqp2 : q2 ≠ p := by omega
                    clear hcl
                    obtain ⟨wq13, hw⟩ : ∃ v, wq9.alloc (.cells #[.int .i64 1, .int .i64 2, .int .i64 3, .int .i64 4] 3) = v := ⟨_, rfl⟩
                    rw [hw] at Cz Bmz R2z R3z Oz Gz Lit11 Lit5 Lit2 ⊢
                    clear hal hw hq
                    refine hK.out _ _ (by exact ⟨Bmz.cell 0, Bmz.cell 1, Bmz.cell 2⟩) (fun hHeld => ?_)
                    clear hK K
                    (try simp only [Act.put, List.getElem_toArray, List.getElem_cons_zero, List.getElem_cons_succ, List.setIfInBounds_toArray, List.set_cons_zero, List.set_cons_succ])
                    revert hHeld; revert hqp5; revert hqp2; revert hqp11; revert hql11; revert Lit5; revert Lit2; revert Lit11; revert Gz; revert Oz; revert R3z; revert R2z; revert Bmz; revert Cz; revert q11; revert q5; revert q2; revert wq13
                    exact keyK5 true
                case keyK1 =>
                  intro _ wq6 q2 q11 Cz Bmz R2z R3z Oz Gz Lit11 Lit2 hql11 hqp11 hqp2 hHeld
                  clear hHeld
                  refine wpAnyH_ready (rs := [3, 5]) (by kernel_rfl) (by simp) ?_
                  refine AllReadyH.cons rfl (fun K hK => ?_) ?_
                  · skip
                    go_simp
                    refine (among_any p (k + 3000) q2 0 4 4 _ [1, 2, 3, 4] _ Cz (by omega) (lit_rd2 (xs := [1, 2, 3, 4]) Lit2 (I64.lit (by decide)) (by decide)) (by omega) (by omega) (by omega)).mono ?_
                    rintro e wq14 ⟨x3, rfl, -, hc, hg⟩
                    clear Cz
                    have Cz := hc
                    replace Bmz := Bmz.mark hg (fun z hz => by cases hz; omega)
                    replace R2z := R2z.mark hg (fun z hz => by cases hz; omega)
                    replace R3z := R3z.mark hg (fun z hz => by cases hz; omega)
                    replace Oz := Oz.mark hg (fun z z' hz hz' => by cases hz; exact fun e => hne1 z' hz' e.symm)
                    replace Gz := grown_trans Gz hg
                    replace Lit11 := Lit11.mark hg (fun z hz => by cases hz; omega)
                    replace Lit2 := Lit2.mark hg (fun z hz => by cases hz; omega)
                    clear hc hg
                    refine hK.out _ _ (by exact ⟨Bmz.cell 0, Bmz.cell 1, Bmz.cell 2⟩) (fun hHeld => ?_)
                    clear hK K
                    (try simp only [Act.put, List.getElem_toArray, List.getElem_cons_zero, List.getElem_cons_succ, List.setIfInBounds_toArray, List.set_cons_zero, List.set_cons_succ])
                    revert hHeld; revert hqp2; revert hqp11; revert hql11; revert Lit2; revert Lit11; revert Gz; revert Oz; revert R3z; revert R2z; revert Bmz; revert Cz; revert x3; revert q11; revert q2; revert wq14
                    exact keyK4 true
                  refine AllReadyH.cons rfl (fun K hK => ?_) AllReadyH.nil
                  go_simp
                  have hal := (Below.refl wq6.heap.size wq6).alloc (Nat.le_refl _) (.cells #[.int .i64 1, .int .i64 2, .int .i64 3] 3)
                  have hcl := Cz.lt
                  replace Cz := Cz.all hal
                  replace Bmz := Bmz.all hal
                  replace R2z := R2z.all hal
                  replace R3z := R3z.all hal
                  replace Oz := Oz.all hal
                  replace Gz := grown_trans Gz (below_grown (row := some p) hal)
                  replace Lit11 := Lit11.all hal
                  replace Lit2 := Lit2.all hal
                  have Lit5 : Blk _ (wq6.heap.size) _ _ := Blk.new wq6 #[.int .i64 1, .int .i64 2, .int .i64 3] 3
                  obtain ⟨q5, hq⟩ : ∃ q, wq6.heap.size = q := ⟨_, rfl⟩
                  rw [hq] at Lit5 ⊢
                  have hqp5 : q5 ≠ p := by omega
                  clear hcl
                  obtain ⟨wq15, hw⟩ : ∃ v, wq6.alloc (.cells #[.int .i64 1, .int .i64 2, .int .i64 3] 3) = v := ⟨_, rfl⟩
                  rw [hw] at Cz Bmz R2z R3z Oz Gz Lit11 Lit2 Lit5 ⊢
                  clear hal hw hq
                  refine hK.out _ _ (by exact ⟨Bmz.cell 0, Bmz.cell 1, Bmz.cell 2⟩) (fun hHeld => ?_)
                  clear hK K
                  (try simp only [Act.put, List.getElem_toArray, List.getElem_cons_zero, List.getElem_cons_succ, List.setIfInBounds_toArray, List.set_cons_zero, List.set_cons_succ])
                  revert hHeld; revert hqp5; revert hqp2; revert hqp11; revert hql11; revert Lit5; revert Lit2; revert Lit11; revert Gz; revert Oz; revert R3z; revert R2z; revert Bmz; revert Cz; revert q11; revert q5; revert q2; revert wq15
                  exact keyK5 true
              case keyK2 =>
                intro _ wq5 q2 q5 Cz Bmz R2z R3z Oz Gz Lit2 Lit5 hqp2 hqp5 hHeld
                clear hHeld
                refine wpAnyH_ready (rs := [3, 11]) (by kernel_rfl) (by simp) ?_
                refine AllReadyH.cons rfl (fun K hK => ?_) ?_
                · skip
                  go_simp
                  refine (among_any p (k + 3000) q2 0 4 4 _ [1, 2, 3, 4] _ Cz (by omega) (lit_rd2 (xs := [1, 2, 3, 4]) Lit2 (I64.lit (by decide)) (by decide)) (by omega) (by omega) (by omega)).mono ?_
                  rintro e wq16 ⟨x3, rfl, -, hc, hg⟩
                  clear Cz
                  have Cz := hc
                  replace Bmz := Bmz.mark hg (fun z hz => by cases hz; omega)
                  replace R2z := R2z.mark hg (fun z hz => by cases hz; omega)
                  replace R3z := R3z.mark hg (fun z hz => by cases hz; omega)
                  replace Oz := Oz.mark hg (fun z z' hz hz' => by cases hz; exact fun e => hne1 z' hz' e.symm)
                  replace Gz := grown_trans Gz hg
                  replace Lit2 := Lit2.mark hg (fun z hz => by cases hz; omega)
                  replace Lit5 := Lit5.mark hg (fun z hz => by cases hz; omega)
                  clear hc hg
                  refine hK.out _ _ (by exact ⟨Bmz.cell 0, Bmz.cell 1, Bmz.cell 2⟩) (fun hHeld => ?_)
                  clear hK K
                  (try simp only [Act.put, List.getElem_toArray, List.getElem_cons_zero, List.getElem_cons_succ, List.setIfInBounds_toArray, List.set_cons_zero, List.set_cons_succ])
                  revert hHeld; revert hqp5; revert hqp2; revert Lit5; revert Lit2; revert Gz; revert Oz; revert R3z; revert R2z; revert Bmz; revert Cz; revert x3; revert q5; revert q2; revert wq16
                  exact keyK3 true
                refine AllReadyH.cons rfl (fun K hK => ?_) AllReadyH.nil
                go_simp
                have hal := (Below.refl wq5.heap.size wq5).alloc (Nat.le_refl _) (.cells #[.int .i64 0, .int .i64 0, .slice none 0 0] 26)
                have hql11 : Q4 < wq5.heap.size := Bmz.lt
                have hcl := Cz.lt
                replace Cz := Cz.all hal
                replace Bmz := Bmz.all hal
                replace R2z := R2z.all hal
                replace R3z := R3z.all hal
                replace Oz := Oz.all hal
                replace Gz := grown_trans Gz (below_grown (row := some p) hal)
                replace Lit2 := Lit2.all hal
                replace Lit5 := Lit5.all hal
                have Lit11 : Blk _ (wq5.heap.size) _ _ := Blk.new wq5 #[.int .i64 0, .int .i64 0, .slice none 0 0] 26
                obtain ⟨q11, hq⟩ : ∃ q, wq5.heap.size = q := ⟨_, rfl⟩
                rw [hq] at Lit11 hql11 ⊢
                have hqp11 : q11 ≠ p := by omega
                clear hcl
                obtain ⟨wq17, hw⟩ : ∃ v, wq5.alloc (.cells #[.int .i64 0, .int .i64 0, .slice none 0 0] 26) = v := ⟨_, rfl⟩
                rw [hw] at Cz Bmz R2z R3z Oz Gz Lit2 Lit5 Lit11 ⊢
                clear hal hw hq
                refine hK.out _ _ (by exact ⟨Bmz.cell 0, Bmz.cell 1, Bmz.cell 2⟩) (fun hHeld => ?_)
                clear hK K
                (try simp only [Act.put, List.getElem_toArray, List.getElem_cons_zero, List.getElem_cons_succ, List.setIfInBounds_toArray, List.set_cons_zero, List.set_cons_succ])
                revert hHeld; revert hqp5; revert hqp2; revert hqp11; revert hql11; revert Lit5; revert Lit2; revert Lit11; revert Gz; revert Oz; revert R3z; revert R2z; revert Bmz; revert Cz; revert q11; revert q5; revert q2; revert wq17
                exact keyK5 true
            case keyK3 =>
              intro _ wq3 q2 q5 x3 Cz Bmz R2z R3z Oz Gz Lit2 Lit5 hqp2 hqp5 hHeld
              clear hHeld
              refine wpAnyH_ready (rs := [6, 11]) (by kernel_rfl) (by simp) ?_
              refine AllReadyH.cons rfl (fun K hK => ?_) ?_
              · skip
                go_simp
                refine (among_any p ((k + 3000) + 2) q5 0 3 3 _ [1, 2, 3] _ Cz (by omega) (lit_rd2 (xs := [1, 2, 3]) Lit5 (I64.lit (by decide)) (by decide)) (by omega) (by omega) (by omega)).mono ?_
                rintro e wq18 ⟨x6, rfl, -, hc, hg⟩
                clear Cz
                have Cz := hc
                replace Bmz := Bmz.mark hg (fun z hz => by cases hz; omega)
                replace R2z := R2z.mark hg (fun z hz => by cases hz; omega)
                replace R3z := R3z.mark hg (fun z hz => by cases hz; omega)
                replace Oz := Oz.mark hg (fun z z' hz hz' => by cases hz; exact fun e => hne1 z' hz' e.symm)
                replace Gz := grown_trans Gz hg
                replace Lit2 := Lit2.mark hg (fun z hz => by cases hz; omega)
                replace Lit5 := Lit5.mark hg (fun z hz => by cases hz; omega)
                clear hc hg
                refine hK.out _ _ (by exact ⟨Bmz.cell 0, Bmz.cell 1, Bmz.cell 2⟩) (fun hHeld => ?_)
                clear hK K
                (try simp only [Act.put, List.getElem_toArray, List.getElem_cons_zero, List.getElem_cons_succ, List.setIfInBounds_toArray, List.set_cons_zero, List.set_cons_succ])
                clear hHeld
                refine wpAnyH_ready (rs := [7, 11]) (by kernel_rfl) (by simp) ?_
                refine AllReadyH.cons rfl (fun K hK => ?_) ?_
                · skip
                  go_simp
                  refine (specRepeatMotif_any W H A1 _ c1 _ xs x3 x6 _ Oz.rd (Nat.le_refl _)).mono ?_
                  rintro e wq19 ⟨A6, c6, rfl, own6, hb6⟩
                  have hg := below_grown (row := some p) hb6
                  have hc := Cz.all hb6
                  have hne6 : ∀ z', (Value.slice A6 (repX W H xs x3 x6).length c6).ownBlock = some z' → z' ≠ p := fun z' hz' => by have h1 := (own6.bd z' hz').1; have h2 := Cz.lt; omega
                  have hdis : ∀ z z', (Value.slice A1 xs.length c1).ownBlock = some z → (Value.slice A6 (repX W H xs x3 x6).length c6).ownBlock = some z' → z ≠ z' := fun z z' hz hz' => by have h1 := (own6.bd z' hz').1; have h2 := (Oz.bd z hz).2; omega
                  replace own6 := own6.mono (show w.heap.size ≤ _ from Gz.size)
                  clear hb6
                  clear Cz
                  have Cz := hc
                  replace Bmz := Bmz.mark hg (fun z hz => by cases hz; omega)
                  replace R2z := R2z.mark hg (fun z hz => by cases hz; omega)
                  replace R3z := R3z.mark hg (fun z hz => by cases hz; omega)
                  replace Oz := Oz.mark hg (fun z z' hz hz' => by cases hz; exact fun e => hne1 z' hz' e.symm)
                  replace Gz := grown_trans Gz hg
                  replace Lit2 := Lit2.mark hg (fun z hz => by cases hz; omega)
                  replace Lit5 := Lit5.mark hg (fun z hz => by cases hz; omega)
                  clear hc hg
                  refine hK.out _ _ (by exact ⟨Bmz.cell 0, Bmz.cell 1, Bmz.cell 2⟩) (fun hHeld => ?_)
                  clear hK K
                  (try simp only [Act.put, List.getElem_toArray, List.getElem_cons_zero, List.getElem_cons_succ, List.setIfInBounds_toArray, List.set_cons_zero, List.set_cons_succ])
                  refine wpAnyH_take (i := 8) (v := ?_) rfl (by kernel_rfl) (by kernel_rfl) (by kernel_rfl) (fun _ _ _ h => h) (Or.inl ⟨by rfl, ?_⟩) (by assumption) ?_
                  rotate_left
                  · intro w hSw; (try dsimp only at hSw); go_simp; (try with_reducible rfl)
                  (try simp only [Act.put, List.getElem_toArray, List.getElem_cons_zero, List.getElem_cons_succ, List.setIfInBounds_toArray, List.set_cons_zero, List.set_cons_succ])
                  refine wpAnyH_take (i := 9) (v := ?_) rfl (by kernel_rfl) (by kernel_rfl) (by kernel_rfl) (fun _ _ _ h => h) (Or.inl ⟨by rfl, ?_⟩) (by assumption) ?_
                  rotate_left
                  · intro w hSw; (try dsimp only at hSw); go_simp; (try with_reducible rfl)
                  (try simp only [Act.put, List.getElem_toArray, List.getElem_cons_zero, List.getElem_cons_succ, List.setIfInBounds_toArray, List.set_cons_zero, List.set_cons_succ])
                  refine wpAnyH_take (i := 10) (v := ?_) rfl (by kernel_rfl) (by kernel_rfl) (by kernel_rfl) (fun _ _ _ h => h) (Or.inl ⟨by rfl, ?_⟩) (by assumption) ?_
                  rotate_left
                  · intro w hSw; (try dsimp only at hSw); go_simp; (try with_reducible rfl)
                  (try simp only [Act.put, List.getElem_toArray, List.getElem_cons_zero, List.getElem_cons_succ, List.setIfInBounds_toArray, List.set_cons_zero, List.set_cons_succ])
                  clear hHeld
                  refine wpAnyH_ready (rs := [11]) (by kernel_rfl) (by simp) ?_
                  refine AllReadyH.cons rfl (fun K hK => ?_) AllReadyH.nil
                  go_simp
                  have hal := (Below.refl wq19.heap.size wq19).alloc (Nat.le_refl _) (.cells #[.int .i64 0, .int .i64 0, .slice none 0 0] 26)
                  have hql11 : Q4 < wq19.heap.size := Bmz.lt
                  have hcl := Cz.lt
                  replace Cz := Cz.all hal
                  replace Bmz := Bmz.all hal
                  replace R2z := R2z.all hal
                  replace R3z := R3z.all hal
                  replace Oz := Oz.all hal
                  replace Gz := grown_trans Gz (below_grown (row := some p) hal)
                  replace own6 := own6.all hal
                  replace Lit2 := Lit2.all hal
                  replace Lit5 := Lit5.all hal
                  have Lit11 : Blk _ (wq19.heap.size) _ _ := Blk.new wq19 #[.int .i64 0, .int .i64 0, .slice none 0 0] 26
                  obtain ⟨q11, hq⟩ : ∃ q, wq19.heap.size = q := ⟨_, rfl⟩
                  rw [hq] at Lit11 hql11 ⊢
                  have hqp11 : q11 ≠ p := by omega
                  clear hcl
                  obtain ⟨wq20, hw⟩ : ∃ v, wq19.alloc (.cells #[.int .i64 0, .int .i64 0, .slice none 0 0] 26) = v := ⟨_, rfl⟩
                  rw [hw] at Cz Bmz R2z R3z Oz Gz own6 Lit2 Lit5 Lit11 ⊢
                  clear hal hw hq
                  refine hK.out _ _ (by exact ⟨Bmz.cell 0, Bmz.cell 1, Bmz.cell 2⟩) (fun hHeld => ?_)
                  clear hK K
                  (try simp only [Act.put, List.getElem_toArray, List.getElem_cons_zero, List.getElem_cons_succ, List.setIfInBounds_toArray, List.set_cons_zero, List.set_cons_succ])
                  revert hHeld; revert hqp5; revert hqp2; revert hqp11; revert hql11; revert hne6; revert hdis; revert Lit5; revert Lit2; revert Lit11; revert own6; revert Gz; revert Oz; revert R3z; revert R2z; revert Bmz; revert Cz; revert x6; revert x3; revert c6; revert A6; revert q11; revert q5; revert q2; revert wq20
                  exact keyK8 true
                refine AllReadyH.cons rfl (fun K hK => ?_) AllReadyH.nil
                go_simp
                have hal := (Below.refl wq18.heap.size wq18).alloc (Nat.le_refl _) (.cells #[.int .i64 0, .int .i64 0, .slice none 0 0] 26)
                have hql11 : Q4 < wq18.heap.size := Bmz.lt
                have hcl := Cz.lt
                replace Cz := Cz.all hal
                replace Bmz := Bmz.all hal
                replace R2z := R2z.all hal
                replace R3z := R3z.all hal
                replace Oz := Oz.all hal
                replace Gz := grown_trans Gz (below_grown (row := some p) hal)
                replace Lit2 := Lit2.all hal
                replace Lit5 := Lit5.all hal
                have Lit11 : Blk _ (wq18.heap.size) _ _ := Blk.new wq18 #[.int .i64 0, .int .i64 0, .slice none 0 0] 26
                obtain ⟨q11, hq⟩ : ∃ q, wq18.heap.size = q := ⟨_, rfl⟩
                rw [hq] at Lit11 hql11 ⊢
                have hqp11 : q11 ≠ p := by omega
                clear hcl
                obtain ⟨wq21, hw⟩ : ∃ v, wq18.alloc (.cells #[.int .i64 0, .int .i64 0, .slice none 0 0] 26) = v := ⟨_, rfl⟩
                rw [hw] at Cz Bmz R2z R3z Oz Gz Lit2 Lit5 Lit11 ⊢
                clear hal hw hq
                refine hK.out _ _ (by exact ⟨Bmz.cell 0, Bmz.cell 1, Bmz.cell 2⟩) (fun hHeld => ?_)
                clear hK K
                (try simp only [Act.put, List.getElem_toArray, List.getElem_cons_zero, List.getElem_cons_succ, List.setIfInBounds_toArray, List.set_cons_zero, List.set_cons_succ])
                revert hHeld; revert hqp5; revert hqp2; revert hqp11; revert hql11; revert Lit5; revert Lit2; revert Lit11; revert Gz; revert Oz; revert R3z; revert R2z; revert Bmz; revert Cz; revert x6; revert x3; revert q11; revert q5; revert q2; revert wq21
                exact keyK7 true
              refine AllReadyH.cons rfl (fun K hK => ?_) AllReadyH.nil
              go_simp
              have hal := (Below.refl wq3.heap.size wq3).alloc (Nat.le_refl _) (.cells #[.int .i64 0, .int .i64 0, .slice none 0 0] 26)
              have hql11 : Q4 < wq3.heap.size := Bmz.lt
              have hcl := Cz.lt
              replace Cz := Cz.all hal
              replace Bmz := Bmz.all hal
              replace R2z := R2z.all hal
              replace R3z := R3z.all hal
              replace Oz := Oz.all hal
              replace Gz := grown_trans Gz (below_grown (row := some p) hal)
              replace Lit2 := Lit2.all hal
              replace Lit5 := Lit5.all hal
              have Lit11 : Blk _ (wq3.heap.size) _ _ := Blk.new wq3 #[.int .i64 0, .int .i64 0, .slice none 0 0] 26
              obtain ⟨q11, hq⟩ : ∃ q, wq3.heap.size = q := ⟨_, rfl⟩
              rw [hq] at Lit11 hql11 ⊢
              have hqp11 : q11 ≠ p := by omega
              clear hcl
              obtain ⟨wq22, hw⟩ : ∃ v, wq3.alloc (.cells #[.int .i64 0, .int .i64 0, .slice none 0 0] 26) = v := ⟨_, rfl⟩
              rw [hw] at Cz Bmz R2z R3z Oz Gz Lit2 Lit5 Lit11 ⊢
              clear hal hw hq
              refine hK.out _ _ (by exact ⟨Bmz.cell 0, Bmz.cell 1, Bmz.cell 2⟩) (fun hHeld => ?_)
              clear hK K
              (try simp only [Act.put, List.getElem_toArray, List.getElem_cons_zero, List.getElem_cons_succ, List.setIfInBounds_toArray, List.set_cons_zero, List.set_cons_succ])
              revert hHeld; revert hqp5; revert hqp2; revert hqp11; revert hql11; revert Lit5; revert Lit2; revert Lit11; revert Gz; revert Oz; revert R3z; revert R2z; revert Bmz; revert Cz; revert x3; revert q11; revert q5; revert q2; revert wq22
              exact keyK6 true
          case keyK4 =>
            intro _ wq4 q2 q11 x3 Cz Bmz R2z R3z Oz Gz Lit11 Lit2 hql11 hqp11 hqp2 hHeld
            clear hHeld
            refine wpAnyH_ready (rs := [5]) (by kernel_rfl) (by simp) ?_
            refine AllReadyH.cons rfl (fun K hK => ?_) AllReadyH.nil
            go_simp
            have hal := (Below.refl wq4.heap.size wq4).alloc (Nat.le_refl _) (.cells #[.int .i64 1, .int .i64 2, .int .i64 3] 3)
            have hcl := Cz.lt
            replace Cz := Cz.all hal
            replace Bmz := Bmz.all hal
            replace R2z := R2z.all hal
            replace R3z := R3z.all hal
            replace Oz := Oz.all hal
            replace Gz := grown_trans Gz (below_grown (row := some p) hal)
            replace Lit11 := Lit11.all hal
            replace Lit2 := Lit2.all hal
            have Lit5 : Blk _ (wq4.heap.size) _ _ := Blk.new wq4 #[.int .i64 1, .int .i64 2, .int .i64 3] 3
            obtain ⟨q5, hq⟩ : ∃ q, wq4.heap.size = q := ⟨_, rfl⟩
            rw [hq] at Lit5 ⊢
            have hqp5 : q5 ≠ p := by omega
            clear hcl
            obtain ⟨wq23, hw⟩ : ∃ v, wq4.alloc (.cells #[.int .i64 1, .int .i64 2, .int .i64 3] 3) = v := ⟨_, rfl⟩
            rw [hw] at Cz Bmz R2z R3z Oz Gz Lit11 Lit2 Lit5 ⊢
            clear hal hw hq
            refine hK.out _ _ (by exact ⟨Bmz.cell 0, Bmz.cell 1, Bmz.cell 2⟩) (fun hHeld => ?_)
            clear hK K
            (try simp only [Act.put, List.getElem_toArray, List.getElem_cons_zero, List.getElem_cons_succ, List.setIfInBounds_toArray, List.set_cons_zero, List.set_cons_succ])
            revert hHeld; revert hqp5; revert hqp2; revert hqp11; revert hql11; revert Lit5; revert Lit2; revert Lit11; revert Gz; revert Oz; revert R3z; revert R2z; revert Bmz; revert Cz; revert x3; revert q11; revert q5; revert q2; revert wq23
            exact keyK6 true
        case keyK5 =>
          intro _ wq13 q2 q5 q11 Cz Bmz R2z R3z Oz Gz Lit11 Lit2 Lit5 hql11 hqp11 hqp2 hqp5 hHeld
          clear hHeld
          refine wpAnyH_ready (rs := [3]) (by kernel_rfl) (by simp) ?_
          refine AllReadyH.cons rfl (fun K hK => ?_) AllReadyH.nil
          go_simp
          refine (among_any p (k + 3000) q2 0 4 4 _ [1, 2, 3, 4] _ Cz (by omega) (lit_rd2 (xs := [1, 2, 3, 4]) Lit2 (I64.lit (by decide)) (by decide)) (by omega) (by omega) (by omega)).mono ?_
          rintro e wq24 ⟨x3, rfl, -, hc, hg⟩
          clear Cz
          have Cz := hc
          replace Bmz := Bmz.mark hg (fun z hz => by cases hz; omega)
          replace R2z := R2z.mark hg (fun z hz => by cases hz; omega)
          replace R3z := R3z.mark hg (fun z hz => by cases hz; omega)
          replace Oz := Oz.mark hg (fun z z' hz hz' => by cases hz; exact fun e => hne1 z' hz' e.symm)
          replace Gz := grown_trans Gz hg
          replace Lit11 := Lit11.mark hg (fun z hz => by cases hz; omega)
          replace Lit2 := Lit2.mark hg (fun z hz => by cases hz; omega)
          replace Lit5 := Lit5.mark hg (fun z hz => by cases hz; omega)
          clear hc hg
          refine hK.out _ _ (by exact ⟨Bmz.cell 0, Bmz.cell 1, Bmz.cell 2⟩) (fun hHeld => ?_)
          clear hK K
          (try simp only [Act.put, List.getElem_toArray, List.getElem_cons_zero, List.getElem_cons_succ, List.setIfInBounds_toArray, List.set_cons_zero, List.set_cons_succ])
          revert hHeld; revert hqp5; revert hqp2; revert hqp11; revert hql11; revert Lit5; revert Lit2; revert Lit11; revert Gz; revert Oz; revert R3z; revert R2z; revert Bmz; revert Cz; revert x3; revert q11; revert q5; revert q2; revert wq24
          exact keyK6 true
      case keyK6 =>
        intro _ wq22 q2 q5 q11 x3 Cz Bmz R2z R3z Oz Gz Lit11 Lit2 Lit5 hql11 hqp11 hqp2 hqp5 hHeld
        clear hHeld
        refine wpAnyH_ready (rs := [6]) (by kernel_rfl) (by simp) ?_
        refine AllReadyH.cons rfl (fun K hK => ?_) AllReadyH.nil
        go_simp
        refine (among_any p ((k + 3000) + 2) q5 0 3 3 _ [1, 2, 3] _ Cz (by omega) (lit_rd2 (xs := [1, 2, 3]) Lit5 (I64.lit (by decide)) (by decide)) (by omega) (by omega) (by omega)).mono ?_
        rintro e wq25 ⟨x6, rfl, -, hc, hg⟩
        clear Cz
        have Cz := hc
        replace Bmz := Bmz.mark hg (fun z hz => by cases hz; omega)
        replace R2z := R2z.mark hg (fun z hz => by cases hz; omega)
        replace R3z := R3z.mark hg (fun z hz => by cases hz; omega)
        replace Oz := Oz.mark hg (fun z z' hz hz' => by cases hz; exact fun e => hne1 z' hz' e.symm)
        replace Gz := grown_trans Gz hg
        replace Lit11 := Lit11.mark hg (fun z hz => by cases hz; omega)
        replace Lit2 := Lit2.mark hg (fun z hz => by cases hz; omega)
        replace Lit5 := Lit5.mark hg (fun z hz => by cases hz; omega)
        clear hc hg
        refine hK.out _ _ (by exact ⟨Bmz.cell 0, Bmz.cell 1, Bmz.cell 2⟩) (fun hHeld => ?_)
        clear hK K
        (try simp only [Act.put, List.getElem_toArray, List.getElem_cons_zero, List.getElem_cons_succ, List.setIfInBounds_toArray, List.set_cons_zero, List.set_cons_succ])
        revert hHeld; revert hqp5; revert hqp2; revert hqp11; revert hql11; revert Lit5; revert Lit2; revert Lit11; revert Gz; revert Oz; revert R3z; revert R2z; revert Bmz; revert Cz; revert x6; revert x3; revert q11; revert q5; revert q2; revert wq25
        exact keyK7 true
    case keyK7 =>
      intro _ wq21 q2 q5 q11 x3 x6 Cz Bmz R2z R3z Oz Gz Lit11 Lit2 Lit5 hql11 hqp11 hqp2 hqp5 hHeld
      clear hHeld
      refine wpAnyH_ready (rs := [7]) (by kernel_rfl) (by simp) ?_
      refine AllReadyH.cons rfl (fun K hK => ?_) AllReadyH.nil
      go_simp
      refine (specRepeatMotif_any W H A1 _ c1 _ xs x3 x6 _ Oz.rd (Nat.le_refl _)).mono ?_
      rintro e wq26 ⟨A6, c6, rfl, own6, hb6⟩
      have hg := below_grown (row := some p) hb6
      have hc := Cz.all hb6
      have hne6 : ∀ z', (Value.slice A6 (repX W H xs x3 x6).length c6).ownBlock = some z' → z' ≠ p := fun z' hz' => by have h1 := (own6.bd z' hz').1; have h2 := Cz.lt; omega
      have hdis : ∀ z z', (Value.slice A1 xs.length c1).ownBlock = some z → (Value.slice A6 (repX W H xs x3 x6).length c6).ownBlock = some z' → z ≠ z' := fun z z' hz hz' => by have h1 := (own6.bd z' hz').1; have h2 := (Oz.bd z hz).2; omega
      replace own6 := own6.mono (show w.heap.size ≤ _ from Gz.size)
      clear hb6
      clear Cz
      have Cz := hc
      replace Bmz := Bmz.mark hg (fun z hz => by cases hz; omega)
      replace R2z := R2z.mark hg (fun z hz => by cases hz; omega)
      replace R3z := R3z.mark hg (fun z hz => by cases hz; omega)
      replace Oz := Oz.mark hg (fun z z' hz hz' => by cases hz; exact fun e => hne1 z' hz' e.symm)
      replace Gz := grown_trans Gz hg
      replace Lit11 := Lit11.mark hg (fun z hz => by cases hz; omega)
      replace Lit2 := Lit2.mark hg (fun z hz => by cases hz; omega)
      replace Lit5 := Lit5.mark hg (fun z hz => by cases hz; omega)
      clear hc hg
      refine hK.out _ _ (by exact ⟨Bmz.cell 0, Bmz.cell 1, Bmz.cell 2⟩) (fun hHeld => ?_)
      clear hK K
      (try simp only [Act.put, List.getElem_toArray, List.getElem_cons_zero, List.getElem_cons_succ, List.setIfInBounds_toArray, List.set_cons_zero, List.set_cons_succ])
      refine wpAnyH_take (i := 8) (v := ?_) rfl (by kernel_rfl) (by kernel_rfl) (by kernel_rfl) (fun _ _ _ h => h) (Or.inl ⟨by rfl, ?_⟩) (by assumption) ?_
      rotate_left
      · intro w hSw; (try dsimp only at hSw); go_simp; (try with_reducible rfl)
      (try simp only [Act.put, List.getElem_toArray, List.getElem_cons_zero, List.getElem_cons_succ, List.setIfInBounds_toArray, List.set_cons_zero, List.set_cons_succ])
      refine wpAnyH_take (i := 9) (v := ?_) rfl (by kernel_rfl) (by kernel_rfl) (by kernel_rfl) (fun _ _ _ h => h) (Or.inl ⟨by rfl, ?_⟩) (by assumption) ?_
      rotate_left
      · intro w hSw; (try dsimp only at hSw); go_simp; (try with_reducible rfl)
      (try simp only [Act.put, List.getElem_toArray, List.getElem_cons_zero, List.getElem_cons_succ, List.setIfInBounds_toArray, List.set_cons_zero, List.set_cons_succ])
      refine wpAnyH_take (i := 10) (v := ?_) rfl (by kernel_rfl) (by kernel_rfl) (by kernel_rfl) (fun _ _ _ h => h) (Or.inl ⟨by rfl, ?_⟩) (by assumption) ?_
      rotate_left
      · intro w hSw; (try dsimp only at hSw); go_simp; (try with_reducible rfl)
      (try simp only [Act.put, List.getElem_toArray, List.getElem_cons_zero, List.getElem_cons_succ, List.setIfInBounds_toArray, List.set_cons_zero, List.set_cons_succ])
      revert hHeld; revert hqp5; revert hqp2; revert hqp11; revert hql11; revert hne6; revert hdis; revert Lit5; revert Lit2; revert Lit11; revert own6; revert Gz; revert Oz; revert R3z; revert R2z; revert Bmz; revert Cz; revert x6; revert x3; revert c6; revert A6; revert q11; revert q5; revert q2; revert wq26
      exact keyK8 true
  case keyK8 =>
    intro _ wq20 q2 q5 q11 A6 c6 x3 x6 Cz Bmz R2z R3z Oz Gz own6 Lit11 Lit2 Lit5 hdis hne6 hql11 hqp11 hqp2 hqp5 hHeld
    clear hHeld
    refine wpAnyH_ready (rs := [12]) (by kernel_rfl) (by simp) ?_
    refine AllReadyH.cons rfl (fun K hK => ?_) AllReadyH.nil
    have g0 := Lit11.cell 0
    have g1 := Lit11.cell 1
    have g2 := Lit11.cell 2
    have z0 := Lit11.frozen 0
    have z1 := Lit11.frozen 1
    have z2 := Lit11.frozen 2
    have F1 := fin3 (p := q11) (w0 := wq20) (B := w.heap.size) (a := .int .i64 (orZero (repAll W H xs x3 x6) (x3 * W))) (b := .int .i64 (orZero (repAll W H xs x3 x6) (x6 * H))) (c := .slice A6 (repX W H xs x3 x6).length c6) Oz (row_ne' Oz.1 Lit11 (by decide)) (Below.refl _ _) (by omega)
    have F6 := fin3 (p := q11) (w0 := wq20) (B := w.heap.size) (a := .int .i64 (orZero (repAll W H xs x3 x6) (x3 * W))) (b := .int .i64 (orZero (repAll W H xs x3 x6) (x6 * H))) (c := .slice A6 (repX W H xs x3 x6).length c6) own6 (row_ne' own6.1 Lit11 (by decide)) (Below.refl _ _) (by omega)
    have cF := Cz.below F1.2 hpw
    have gF := grown_own Gz F1.2
    have xF := Lit11.put3q (.int .i64 (orZero (repAll W H xs x3 x6) (x3 * W))) (.int .i64 (orZero (repAll W H xs x3 x6) (x6 * H))) (.slice A6 (repX W H xs x3 x6).length c6)
    have BmF := Bmz.far3q (p := q11) (a := .int .i64 (orZero (repAll W H xs x3 x6) (x3 * W))) (b := .int .i64 (orZero (repAll W H xs x3 x6) (x6 * H))) (c := .slice A6 (repX W H xs x3 x6).length c6) (by omega)
    have R2F := R2z.far3q (p := q11) (a := .int .i64 (orZero (repAll W H xs x3 x6) (x3 * W))) (b := .int .i64 (orZero (repAll W H xs x3 x6) (x6 * H))) (c := .slice A6 (repX W H xs x3 x6).length c6) (by omega)
    have R3F := R3z.far3q (p := q11) (a := .int .i64 (orZero (repAll W H xs x3 x6) (x3 * W))) (b := .int .i64 (orZero (repAll W H xs x3 x6) (x6 * H))) (c := .slice A6 (repX W H xs x3 x6).length c6) (by omega)
    clear Oz own6 Cz Gz Lit11 Bmz R2z R3z
    go_simp
    obtain ⟨ws, hws⟩ : ∃ v, ((wq20.setCell ⟨q11, 0, none⟩ (.int .i64 (orZero (repAll W H xs x3 x6) (x3 * W)))).setCell ⟨q11, 1, none⟩ (.int .i64 (orZero (repAll W H xs x3 x6) (x6 * H)))).setCell ⟨q11, 2, none⟩ (.slice A6 (repX W H xs x3 x6).length c6) = v := ⟨_, rfl⟩
    rw [hws] at F1 F6 cF gF xF BmF R2F R3F ⊢
    clear hws g0 g1 g2 z0 z1 z2
    have OF := F1.1
    have O6F := F6.1
    clear F1 F6
    refine hK.out _ _ (by exact ⟨BmF.cell 0, BmF.cell 1, BmF.cell 2⟩) (fun hHeld => ?_)
    clear hK K
    (try simp only [Act.put, List.getElem_toArray, List.getElem_cons_zero, List.getElem_cons_succ, List.setIfInBounds_toArray, List.set_cons_zero, List.set_cons_succ])
    refine wpAnyH_take (i := 13) (v := ?_) rfl (by kernel_rfl) (by kernel_rfl) (by kernel_rfl) (fun _ _ _ h => h) (Or.inl ⟨by rfl, ?_⟩) (by assumption) ?_
    rotate_left
    · intro w hSw; (try dsimp only at hSw); go_simp; (try with_reducible rfl)
    (try simp only [Act.put, List.getElem_toArray, List.getElem_cons_zero, List.getElem_cons_succ, List.setIfInBounds_toArray, List.set_cons_zero, List.set_cons_succ])
    refine wpAnyH_done (by kernel_rfl) ?_ _
    refine NoPanic.normal ?_
    have hsr := rep_small W H xs x3 x6
    have hqp : p < q11 := by omega
    have hq2 : w.heap.size + 2 ≤ q11 := by omega
    clear hHeld ex0 ex1 ex2 hqp11
    obtain ⟨ok, hok⟩ : ∃ b, repAll W H xs x3 x6 = b := ⟨_, rfl⟩
    obtain ⟨oW, hoW⟩ : ∃ b, orZero (repAll W H xs x3 x6) (x3 * W) = b := ⟨_, rfl⟩
    obtain ⟨oH, hoH⟩ : ∃ b, orZero (repAll W H xs x3 x6) (x6 * H) = b := ⟨_, rfl⟩
    obtain ⟨zs, hzs⟩ : ∃ b, repX W H xs x3 x6 = b := ⟨_, rfl⟩
    rw [hoW, hoH, hzs] at hsr xF
    rw [hzs] at O6F hne6 hdis
    rw [hok] at hsr ⊢
    obtain ⟨hso, hpos⟩ := hsr
    clear hok hoW hoH hzs
    cases ok with
    | false =>
      clear xF O6F
      have ex00 := BmF.cell 0
      have ex01 := BmF.cell 1
      have ex02 := BmF.cell 2
      go_wp2
      refine wp_region_noPanic ?_
      refine wp_region_held_drew (S := (fun w' => w'.cell? ⟨Q4, 0, none⟩ = some (.int .i64 W) ∧ w'.cell? ⟨Q4, 1, none⟩ = some (.int .i64 H) ∧ w'.cell? ⟨Q4, 2, none⟩ = some (.slice A1 xs.length c1))) (by kernel_rfl) (by go_keep) (fun hHeld => ?_)
      have cFz := cur_drew cF
      have BmFz : Blk ws.drew _ _ _ := BmF.all (low_drewN ws 1)
      have R2Fz : Blk ws.drew _ _ _ := R2F.all (low_drewN ws 1)
      have R3Fz : Blk ws.drew _ _ _ := R3F.all (low_drewN ws 1)
      have OFz : Own ws.drew _ _ _ := OF.all (low_drewN ws 1)
      have gFz := grown_trans gF (drew_grown _ _)
      obtain ⟨wdT1, hwd⟩ : ∃ v, ws.drew = v := ⟨_, rfl⟩
      rw [hwd] at hHeld cFz BmFz R2Fz R3Fz OFz gFz ⊢
      clear hwd
      refine wpAnyH_take (i := 0) (v := ?_) rfl (by kernel_rfl) (by kernel_rfl) (by kernel_rfl) (fun _ _ _ h => h) (Or.inl ⟨by rfl, ?_⟩) (by assumption) ?_
      rotate_left
      · intro w hSw; (try dsimp only at hSw); go_simp; (try with_reducible rfl)
      (try simp only [Act.put, List.getElem_toArray, List.getElem_cons_zero, List.setIfInBounds_toArray, List.set_cons_zero, List.set_cons_succ])
      refine wpAnyH_take (i := 2) (v := ?_) rfl (by kernel_rfl) (by kernel_rfl) (by kernel_rfl) (fun _ _ _ h => h) (Or.inl ⟨by rfl, ?_⟩) (by assumption) ?_
      rotate_left
      · intro w hSw; (try dsimp only at hSw); go_simp; (try with_reducible rfl)
      (try simp only [Act.put, List.getElem_toArray, List.getElem_cons_zero, List.getElem_cons_succ, List.setIfInBounds_toArray, List.set_cons_zero, List.set_cons_succ])
      clear hHeld
      refine wpAnyH_ready (rs := [1]) (by kernel_rfl) (by simp) ?_
      refine AllReadyH.cons rfl (fun K hK => ?_) AllReadyH.nil
      go_simp
      refine (chart_any p (k + 3000 + 2 + 2) _ cFz (by omega)).mono ?_
      rintro e wq1001 ⟨W7, H7, A7, c7, ys, rfl, hsm7, own7, hc, hg⟩
      replace own7 := own7.mono (show w.heap.size ≤ _ from gFz.size)
      clear cFz
      have cFz := hc
      replace BmFz := BmFz.mark hg (fun z hz => by cases hz; omega)
      replace R2Fz := R2Fz.mark hg (fun z hz => by cases hz; omega)
      replace R3Fz := R3Fz.mark hg (fun z hz => by cases hz; omega)
      replace OFz := OFz.mark hg (fun z z' hz hz' => by cases hz; exact fun e => hne1 z' hz' e.symm)
      replace gFz := grown_trans gFz hg
      clear hc hg
      refine hK.out _ _ (by exact ⟨BmFz.cell 0, BmFz.cell 1, BmFz.cell 2⟩) (fun hHeld => ?_)
      clear hK K
      (try simp only [Act.put, List.getElem_toArray, List.getElem_cons_zero, List.getElem_cons_succ, List.setIfInBounds_toArray, List.set_cons_zero, List.set_cons_succ])
      clear hHeld
      refine wpAnyH_ready (rs := [3]) (by kernel_rfl) (by simp) ?_
      refine AllReadyH.cons rfl (fun K hK => ?_) AllReadyH.nil
      have g0 := R2Fz.cell 0
      have g1 := R2Fz.cell 1
      have g2 := R2Fz.cell 2
      have z0 := R2Fz.frozen 0
      have z1 := R2Fz.frozen 1
      have z2 := R2Fz.frozen 2
      have F_OF := fin3 (p := w.heap.size) (w0 := wq1001) (B := w.heap.size) (a := .int .i64 W7) (b := .int .i64 H7) (c := .slice A7 ys.length c7) OFz (row_ne' OFz.1 R2Fz (by decide)) (Below.refl _ _) (by omega)
      have F_O7 := fin3 (p := w.heap.size) (w0 := wq1001) (B := w.heap.size) (a := .int .i64 W7) (b := .int .i64 H7) (c := .slice A7 ys.length c7) own7 (row_ne' own7.1 R2Fz (by decide)) (Below.refl _ _) (by omega)
      have cFzs := cFz.below F_OF.2 hpw
      have gFzs := grown_own gFz F_OF.2
      have BmFzs := BmFz.far3q (p := w.heap.size) (a := .int .i64 W7) (b := .int .i64 H7) (c := .slice A7 ys.length c7) (by omega)
      have R2Fzs := R2Fz.put3q (.int .i64 W7) (.int .i64 H7) (.slice A7 ys.length c7)
      have R3Fzs := R3Fz.far3q (p := w.heap.size) (a := .int .i64 W7) (b := .int .i64 H7) (c := .slice A7 ys.length c7) (by omega)
      clear cFz gFz BmFz R2Fz R3Fz OFz own7
      go_simp
      obtain ⟨ws1002, hws⟩ : ∃ v, ((wq1001.setCell ⟨w.heap.size, 0, none⟩ (.int .i64 W7)).setCell ⟨w.heap.size, 1, none⟩ (.int .i64 H7)).setCell ⟨w.heap.size, 2, none⟩ (.slice A7 ys.length c7) = v := ⟨_, rfl⟩
      rw [hws] at cFzs gFzs BmFzs R2Fzs R3Fzs F_OF F_O7 ⊢
      clear hws g0 g1 g2 z0 z1 z2
      have OFzs := F_OF.1
      have own7s := F_O7.1
      clear F_OF F_O7
      refine hK.out _ _ (by exact ⟨BmFzs.cell 0, BmFzs.cell 1, BmFzs.cell 2⟩) (fun hHeld => ?_)
      clear hK K
      (try simp only [Act.put, List.getElem_toArray, List.getElem_cons_zero, List.getElem_cons_succ, List.setIfInBounds_toArray, List.set_cons_zero, List.set_cons_succ])
      clear hHeld
      refine wpAnyH_ready (rs := [4]) (by kernel_rfl) (by simp) ?_
      refine AllReadyH.cons rfl (fun K hK => ?_) AllReadyH.nil
      have g0 := R3Fzs.cell 0
      have g1 := R3Fzs.cell 1
      have g2 := R3Fzs.cell 2
      have z0 := R3Fzs.frozen 0
      have z1 := R3Fzs.frozen 1
      have z2 := R3Fzs.frozen 2
      have F_OF := fin3 (p := (w.heap.size + 1)) (w0 := ws1002) (B := w.heap.size) (a := .int .i64 W) (b := .int .i64 H) (c := .slice A1 xs.length c1) OFzs (row_ne' OFzs.1 R3Fzs (by decide)) (Below.refl _ _) (by omega)
      have F_O7 := fin3 (p := (w.heap.size + 1)) (w0 := ws1002) (B := w.heap.size) (a := .int .i64 W) (b := .int .i64 H) (c := .slice A1 xs.length c1) own7s (row_ne' own7s.1 R3Fzs (by decide)) (Below.refl _ _) (by omega)
      have cFzss := cFzs.below F_OF.2 hpw
      have gFzss := grown_own gFzs F_OF.2
      have BmFzss := BmFzs.far3q (p := (w.heap.size + 1)) (a := .int .i64 W) (b := .int .i64 H) (c := .slice A1 xs.length c1) (by omega)
      have R2Fzss := R2Fzs.far3q (p := (w.heap.size + 1)) (a := .int .i64 W) (b := .int .i64 H) (c := .slice A1 xs.length c1) (by omega)
      have R3Fzss := R3Fzs.put3q (.int .i64 W) (.int .i64 H) (.slice A1 xs.length c1)
      clear cFzs gFzs BmFzs R2Fzs R3Fzs OFzs own7s
      go_simp
      obtain ⟨ws1003, hws⟩ : ∃ v, ((ws1002.setCell ⟨(w.heap.size + 1), 0, none⟩ (.int .i64 W)).setCell ⟨(w.heap.size + 1), 1, none⟩ (.int .i64 H)).setCell ⟨(w.heap.size + 1), 2, none⟩ (.slice A1 xs.length c1) = v := ⟨_, rfl⟩
      rw [hws] at cFzss gFzss BmFzss R2Fzss R3Fzss F_OF F_O7 ⊢
      clear hws g0 g1 g2 z0 z1 z2
      have OFzss := F_OF.1
      have own7ss := F_O7.1
      clear F_OF F_O7
      refine hK.out _ _ (by exact ⟨BmFzss.cell 0, BmFzss.cell 1, BmFzss.cell 2⟩) (fun hHeld => ?_)
      clear hK K
      (try simp only [Act.put, List.getElem_toArray, List.getElem_cons_zero, List.getElem_cons_succ, List.setIfInBounds_toArray, List.set_cons_zero, List.set_cons_succ])
      refine wpAnyH_done (by kernel_rfl) ?_ _
      refine NoPanic.normal ?_
      have g0 := R2Fzss.cell 0
      have g1 := R2Fzss.cell 1
      have g2 := R2Fzss.cell 2
      have k0 := R3Fzss.cell 0
      have k1 := R3Fzss.cell 1
      have k2 := R3Fzss.cell 2
      go_wp2
      exact bodyPost_ret (v := .tuple #[chartV W7 H7 (.slice A7 ys.length c7), chartV W H (.slice A1 xs.length c1)]) (by simp [results, Try.results43, go_sem, g0, g1, g2, k0, k1, k2]) rfl ⟨W7, H7, A7, c7, ys, W, H, A1, c1, xs, rfl, hsm7, hsm, own7ss, OFzss, cFzss.more (by omega), gFzss⟩
    | true =>
      replace hpos := hpos rfl
      go_wp2_with fail
      refine (one_any p (k + 3000 + 2 + 2) 4 _ cF (by omega) (by omega) (by omega)).mono ?_
      rintro e wu ⟨d, rfl, hc, hg⟩
      replace BmF := BmF.mark hg (fun z hz => by cases hz; omega)
      replace xF := xF.mark hg (fun z hz => by cases hz; omega)
      replace R2F := R2F.mark hg (fun z hz => by cases hz; omega)
      replace R3F := R3F.mark hg (fun z hz => by cases hz; omega)
      replace OF := OF.mark hg (fun z z' hz hz' => by cases hz; exact fun e => hne1 z' hz' e.symm)
      replace O6F := O6F.mark hg (fun z z' hz hz' => by cases hz; exact fun e => hne6 z' hz' e.symm)
      replace gF := grown_trans gF hg
      replace cF := hc
      clear hc hg
      cases d with
      | true =>
        clear xF O6F
        have ex00 := BmF.cell 0
        have ex01 := BmF.cell 1
        have ex02 := BmF.cell 2
        go_wp2
        refine wp_region_noPanic ?_
        refine wp_region_held_drew (S := (fun w' => w'.cell? ⟨Q4, 0, none⟩ = some (.int .i64 W) ∧ w'.cell? ⟨Q4, 1, none⟩ = some (.int .i64 H) ∧ w'.cell? ⟨Q4, 2, none⟩ = some (.slice A1 xs.length c1))) (by kernel_rfl) (by go_keep) (fun hHeld => ?_)
        have cFz := cur_drew cF
        have BmFz : Blk wu.drew _ _ _ := BmF.all (low_drewN wu 1)
        have R2Fz : Blk wu.drew _ _ _ := R2F.all (low_drewN wu 1)
        have R3Fz : Blk wu.drew _ _ _ := R3F.all (low_drewN wu 1)
        have OFz : Own wu.drew _ _ _ := OF.all (low_drewN wu 1)
        have gFz := grown_trans gF (drew_grown _ _)
        obtain ⟨wdT2, hwd⟩ : ∃ v, wu.drew = v := ⟨_, rfl⟩
        rw [hwd] at hHeld cFz BmFz R2Fz R3Fz OFz gFz ⊢
        clear hwd
        refine wpAnyH_take (i := 0) (v := ?_) rfl (by kernel_rfl) (by kernel_rfl) (by kernel_rfl) (fun _ _ _ h => h) (Or.inl ⟨by rfl, ?_⟩) (by assumption) ?_
        rotate_left
        · intro w hSw; (try dsimp only at hSw); go_simp; (try with_reducible rfl)
        (try simp only [Act.put, List.getElem_toArray, List.getElem_cons_zero, List.setIfInBounds_toArray, List.set_cons_zero, List.set_cons_succ])
        refine wpAnyH_take (i := 2) (v := ?_) rfl (by kernel_rfl) (by kernel_rfl) (by kernel_rfl) (fun _ _ _ h => h) (Or.inl ⟨by rfl, ?_⟩) (by assumption) ?_
        rotate_left
        · intro w hSw; (try dsimp only at hSw); go_simp; (try with_reducible rfl)
        (try simp only [Act.put, List.getElem_toArray, List.getElem_cons_zero, List.getElem_cons_succ, List.setIfInBounds_toArray, List.set_cons_zero, List.set_cons_succ])
        clear hHeld
        refine wpAnyH_ready (rs := [1]) (by kernel_rfl) (by simp) ?_
        refine AllReadyH.cons rfl (fun K hK => ?_) AllReadyH.nil
        go_simp
        refine (chart_any p (k + 3000 + 2 + 2 + 2) _ cFz (by omega)).mono ?_
        rintro e wq2001 ⟨W7, H7, A7, c7, ys, rfl, hsm7, own7, hc, hg⟩
        replace own7 := own7.mono (show w.heap.size ≤ _ from gFz.size)
        clear cFz
        have cFz := hc
        replace BmFz := BmFz.mark hg (fun z hz => by cases hz; omega)
        replace R2Fz := R2Fz.mark hg (fun z hz => by cases hz; omega)
        replace R3Fz := R3Fz.mark hg (fun z hz => by cases hz; omega)
        replace OFz := OFz.mark hg (fun z z' hz hz' => by cases hz; exact fun e => hne1 z' hz' e.symm)
        replace gFz := grown_trans gFz hg
        clear hc hg
        refine hK.out _ _ (by exact ⟨BmFz.cell 0, BmFz.cell 1, BmFz.cell 2⟩) (fun hHeld => ?_)
        clear hK K
        (try simp only [Act.put, List.getElem_toArray, List.getElem_cons_zero, List.getElem_cons_succ, List.setIfInBounds_toArray, List.set_cons_zero, List.set_cons_succ])
        clear hHeld
        refine wpAnyH_ready (rs := [3]) (by kernel_rfl) (by simp) ?_
        refine AllReadyH.cons rfl (fun K hK => ?_) AllReadyH.nil
        have g0 := R2Fz.cell 0
        have g1 := R2Fz.cell 1
        have g2 := R2Fz.cell 2
        have z0 := R2Fz.frozen 0
        have z1 := R2Fz.frozen 1
        have z2 := R2Fz.frozen 2
        have F_OF := fin3 (p := w.heap.size) (w0 := wq2001) (B := w.heap.size) (a := .int .i64 W7) (b := .int .i64 H7) (c := .slice A7 ys.length c7) OFz (row_ne' OFz.1 R2Fz (by decide)) (Below.refl _ _) (by omega)
        have F_O7 := fin3 (p := w.heap.size) (w0 := wq2001) (B := w.heap.size) (a := .int .i64 W7) (b := .int .i64 H7) (c := .slice A7 ys.length c7) own7 (row_ne' own7.1 R2Fz (by decide)) (Below.refl _ _) (by omega)
        have cFzs := cFz.below F_OF.2 hpw
        have gFzs := grown_own gFz F_OF.2
        have BmFzs := BmFz.far3q (p := w.heap.size) (a := .int .i64 W7) (b := .int .i64 H7) (c := .slice A7 ys.length c7) (by omega)
        have R2Fzs := R2Fz.put3q (.int .i64 W7) (.int .i64 H7) (.slice A7 ys.length c7)
        have R3Fzs := R3Fz.far3q (p := w.heap.size) (a := .int .i64 W7) (b := .int .i64 H7) (c := .slice A7 ys.length c7) (by omega)
        clear cFz gFz BmFz R2Fz R3Fz OFz own7
        go_simp
        obtain ⟨ws2002, hws⟩ : ∃ v, ((wq2001.setCell ⟨w.heap.size, 0, none⟩ (.int .i64 W7)).setCell ⟨w.heap.size, 1, none⟩ (.int .i64 H7)).setCell ⟨w.heap.size, 2, none⟩ (.slice A7 ys.length c7) = v := ⟨_, rfl⟩
        rw [hws] at cFzs gFzs BmFzs R2Fzs R3Fzs F_OF F_O7 ⊢
        clear hws g0 g1 g2 z0 z1 z2
        have OFzs := F_OF.1
        have own7s := F_O7.1
        clear F_OF F_O7
        refine hK.out _ _ (by exact ⟨BmFzs.cell 0, BmFzs.cell 1, BmFzs.cell 2⟩) (fun hHeld => ?_)
        clear hK K
        (try simp only [Act.put, List.getElem_toArray, List.getElem_cons_zero, List.getElem_cons_succ, List.setIfInBounds_toArray, List.set_cons_zero, List.set_cons_succ])
        clear hHeld
        refine wpAnyH_ready (rs := [4]) (by kernel_rfl) (by simp) ?_
        refine AllReadyH.cons rfl (fun K hK => ?_) AllReadyH.nil
        have g0 := R3Fzs.cell 0
        have g1 := R3Fzs.cell 1
        have g2 := R3Fzs.cell 2
        have z0 := R3Fzs.frozen 0
        have z1 := R3Fzs.frozen 1
        have z2 := R3Fzs.frozen 2
        have F_OF := fin3 (p := (w.heap.size + 1)) (w0 := ws2002) (B := w.heap.size) (a := .int .i64 W) (b := .int .i64 H) (c := .slice A1 xs.length c1) OFzs (row_ne' OFzs.1 R3Fzs (by decide)) (Below.refl _ _) (by omega)
        have F_O7 := fin3 (p := (w.heap.size + 1)) (w0 := ws2002) (B := w.heap.size) (a := .int .i64 W) (b := .int .i64 H) (c := .slice A1 xs.length c1) own7s (row_ne' own7s.1 R3Fzs (by decide)) (Below.refl _ _) (by omega)
        have cFzss := cFzs.below F_OF.2 hpw
        have gFzss := grown_own gFzs F_OF.2
        have BmFzss := BmFzs.far3q (p := (w.heap.size + 1)) (a := .int .i64 W) (b := .int .i64 H) (c := .slice A1 xs.length c1) (by omega)
        have R2Fzss := R2Fzs.far3q (p := (w.heap.size + 1)) (a := .int .i64 W) (b := .int .i64 H) (c := .slice A1 xs.length c1) (by omega)
        have R3Fzss := R3Fzs.put3q (.int .i64 W) (.int .i64 H) (.slice A1 xs.length c1)
        clear cFzs gFzs BmFzs R2Fzs R3Fzs OFzs own7s
        go_simp
        obtain ⟨ws2003, hws⟩ : ∃ v, ((ws2002.setCell ⟨(w.heap.size + 1), 0, none⟩ (.int .i64 W)).setCell ⟨(w.heap.size + 1), 1, none⟩ (.int .i64 H)).setCell ⟨(w.heap.size + 1), 2, none⟩ (.slice A1 xs.length c1) = v := ⟨_, rfl⟩
        rw [hws] at cFzss gFzss BmFzss R2Fzss R3Fzss F_OF F_O7 ⊢
        clear hws g0 g1 g2 z0 z1 z2
        have OFzss := F_OF.1
        have own7ss := F_O7.1
        clear F_OF F_O7
        refine hK.out _ _ (by exact ⟨BmFzss.cell 0, BmFzss.cell 1, BmFzss.cell 2⟩) (fun hHeld => ?_)
        clear hK K
        (try simp only [Act.put, List.getElem_toArray, List.getElem_cons_zero, List.getElem_cons_succ, List.setIfInBounds_toArray, List.set_cons_zero, List.set_cons_succ])
        refine wpAnyH_done (by kernel_rfl) ?_ _
        refine NoPanic.normal ?_
        have g0 := R2Fzss.cell 0
        have g1 := R2Fzss.cell 1
        have g2 := R2Fzss.cell 2
        have k0 := R3Fzss.cell 0
        have k1 := R3Fzss.cell 1
        have k2 := R3Fzss.cell 2
        go_wp2
        exact bodyPost_ret (v := .tuple #[chartV W7 H7 (.slice A7 ys.length c7), chartV W H (.slice A1 xs.length c1)]) (by simp [results, Try.results43, go_sem, g0, g1, g2, k0, k1, k2]) rfl ⟨W7, H7, A7, c7, ys, W, H, A1, c1, xs, rfl, hsm7, hsm, own7ss, OFzss, cFzss.more (by omega), gFzss⟩
      | false =>
        go_wp2_with fail
        refine (one_any p (k + 3000 + 2 + 2 + 2) 3 _ cF (by omega) (by omega) (by omega)).mono ?_
        rintro e wv ⟨d, rfl, hc, hg⟩
        replace BmF := BmF.mark hg (fun z hz => by cases hz; omega)
        replace xF := xF.mark hg (fun z hz => by cases hz; omega)
        replace R2F := R2F.mark hg (fun z hz => by cases hz; omega)
        replace R3F := R3F.mark hg (fun z hz => by cases hz; omega)
        replace OF := OF.mark hg (fun z z' hz hz' => by cases hz; exact fun e => hne1 z' hz' e.symm)
        replace O6F := O6F.mark hg (fun z z' hz hz' => by cases hz; exact fun e => hne6 z' hz' e.symm)
        replace gF := grown_trans gF hg
        replace cF := hc
        clear hc hg
        cases d with
        | false =>
          have ex00 := BmF.cell 0
          have ex01 := BmF.cell 1
          have ex02 := BmF.cell 2
          have ex10 := xF.cell 0
          have ex11 := xF.cell 1
          have ex12 := xF.cell 2
          go_wp2
          refine wp_region_noPanic ?_
          refine wp_region_held_drew (S := (fun w' => w'.cell? ⟨Q4, 0, none⟩ = some (.int .i64 W) ∧ w'.cell? ⟨Q4, 1, none⟩ = some (.int .i64 H) ∧ w'.cell? ⟨Q4, 2, none⟩ = some (.slice A1 xs.length c1) ∧ w'.cell? ⟨q11, 0, none⟩ = some (.int .i64 oW) ∧ w'.cell? ⟨q11, 1, none⟩ = some (.int .i64 oH) ∧ w'.cell? ⟨q11, 2, none⟩ = some (.slice A6 zs.length c6))) (by kernel_rfl) (by go_keep) (fun hHeld => ?_)
          have cFz := cur_drew cF
          have BmFz : Blk wv.drew _ _ _ := BmF.all (low_drewN wv 1)
          have xFz : Blk wv.drew _ _ _ := xF.all (low_drewN wv 1)
          have R2Fz : Blk wv.drew _ _ _ := R2F.all (low_drewN wv 1)
          have R3Fz : Blk wv.drew _ _ _ := R3F.all (low_drewN wv 1)
          have OFz : Own wv.drew _ _ _ := OF.all (low_drewN wv 1)
          have O6Fz : Own wv.drew _ _ _ := O6F.all (low_drewN wv 1)
          have gFz := grown_trans gF (drew_grown _ _)
          obtain ⟨wdT3, hwd⟩ : ∃ v, wv.drew = v := ⟨_, rfl⟩
          rw [hwd] at hHeld cFz BmFz xFz R2Fz R3Fz OFz O6Fz gFz ⊢
          clear hwd
          refine wpAnyH_take (i := 0) (v := ?_) rfl (by kernel_rfl) (by kernel_rfl) (by kernel_rfl) (fun _ _ _ h => h) (Or.inl ⟨by rfl, ?_⟩) (by assumption) ?_
          rotate_left
          · intro w hSw; (try dsimp only at hSw); go_simp; (try with_reducible rfl)
          (try simp only [Act.put, List.getElem_toArray, List.getElem_cons_zero, List.setIfInBounds_toArray, List.set_cons_zero, List.set_cons_succ])
          refine wpAnyH_take (i := 1) (v := ?_) rfl (by kernel_rfl) (by kernel_rfl) (by kernel_rfl) (fun _ _ _ h => h) (Or.inl ⟨by rfl, ?_⟩) (by assumption) ?_
          rotate_left
          · intro w hSw; (try dsimp only at hSw); go_simp; (try with_reducible rfl)
          (try simp only [Act.put, List.getElem_toArray, List.getElem_cons_zero, List.getElem_cons_succ, List.setIfInBounds_toArray, List.set_cons_zero, List.set_cons_succ])
          clear hHeld
          refine wpAnyH_ready (rs := [2]) (by kernel_rfl) (by simp) ?_
          refine AllReadyH.cons rfl (fun K hK => ?_) AllReadyH.nil
          have g0 := R2Fz.cell 0
          have g1 := R2Fz.cell 1
          have g2 := R2Fz.cell 2
          have z0 := R2Fz.frozen 0
          have z1 := R2Fz.frozen 1
          have z2 := R2Fz.frozen 2
          have F_OF := fin3 (p := w.heap.size) (w0 := wdT3) (B := w.heap.size) (a := .int .i64 oW) (b := .int .i64 oH) (c := .slice A6 zs.length c6) OFz (row_ne' OFz.1 R2Fz (by decide)) (Below.refl _ _) (by omega)
          have F_O6F := fin3 (p := w.heap.size) (w0 := wdT3) (B := w.heap.size) (a := .int .i64 oW) (b := .int .i64 oH) (c := .slice A6 zs.length c6) O6Fz (row_ne' O6Fz.1 R2Fz (by decide)) (Below.refl _ _) (by omega)
          have cFzs := cFz.below F_OF.2 hpw
          have gFzs := grown_own gFz F_OF.2
          have BmFzs := BmFz.far3q (p := w.heap.size) (a := .int .i64 oW) (b := .int .i64 oH) (c := .slice A6 zs.length c6) (by omega)
          have xFzs := xFz.far3q (p := w.heap.size) (a := .int .i64 oW) (b := .int .i64 oH) (c := .slice A6 zs.length c6) (by omega)
          have R2Fzs := R2Fz.put3q (.int .i64 oW) (.int .i64 oH) (.slice A6 zs.length c6)
          have R3Fzs := R3Fz.far3q (p := w.heap.size) (a := .int .i64 oW) (b := .int .i64 oH) (c := .slice A6 zs.length c6) (by omega)
          clear cFz gFz BmFz xFz R2Fz R3Fz OFz O6Fz
          go_simp
          obtain ⟨ws3001, hws⟩ : ∃ v, ((wdT3.setCell ⟨w.heap.size, 0, none⟩ (.int .i64 oW)).setCell ⟨w.heap.size, 1, none⟩ (.int .i64 oH)).setCell ⟨w.heap.size, 2, none⟩ (.slice A6 zs.length c6) = v := ⟨_, rfl⟩
          rw [hws] at cFzs gFzs BmFzs xFzs R2Fzs R3Fzs F_OF F_O6F ⊢
          clear hws g0 g1 g2 z0 z1 z2
          have OFzs := F_OF.1
          have O6Fzs := F_O6F.1
          clear F_OF F_O6F
          refine hK.out _ _ (by exact ⟨BmFzs.cell 0, BmFzs.cell 1, BmFzs.cell 2, xFzs.cell 0, xFzs.cell 1, xFzs.cell 2⟩) (fun hHeld => ?_)
          clear hK K
          (try simp only [Act.put, List.getElem_toArray, List.getElem_cons_zero, List.getElem_cons_succ, List.setIfInBounds_toArray, List.set_cons_zero, List.set_cons_succ])
          clear hHeld
          refine wpAnyH_ready (rs := [3]) (by kernel_rfl) (by simp) ?_
          refine AllReadyH.cons rfl (fun K hK => ?_) AllReadyH.nil
          have g0 := R3Fzs.cell 0
          have g1 := R3Fzs.cell 1
          have g2 := R3Fzs.cell 2
          have z0 := R3Fzs.frozen 0
          have z1 := R3Fzs.frozen 1
          have z2 := R3Fzs.frozen 2
          have F_OF := fin3 (p := (w.heap.size + 1)) (w0 := ws3001) (B := w.heap.size) (a := .int .i64 W) (b := .int .i64 H) (c := .slice A1 xs.length c1) OFzs (row_ne' OFzs.1 R3Fzs (by decide)) (Below.refl _ _) (by omega)
          have F_O6F := fin3 (p := (w.heap.size + 1)) (w0 := ws3001) (B := w.heap.size) (a := .int .i64 W) (b := .int .i64 H) (c := .slice A1 xs.length c1) O6Fzs (row_ne' O6Fzs.1 R3Fzs (by decide)) (Below.refl _ _) (by omega)
          have cFzss := cFzs.below F_OF.2 hpw
          have gFzss := grown_own gFzs F_OF.2
          have BmFzss := BmFzs.far3q (p := (w.heap.size + 1)) (a := .int .i64 W) (b := .int .i64 H) (c := .slice A1 xs.length c1) (by omega)
          have xFzss := xFzs.far3q (p := (w.heap.size + 1)) (a := .int .i64 W) (b := .int .i64 H) (c := .slice A1 xs.length c1) (by omega)
          have R2Fzss := R2Fzs.far3q (p := (w.heap.size + 1)) (a := .int .i64 W) (b := .int .i64 H) (c := .slice A1 xs.length c1) (by omega)
          have R3Fzss := R3Fzs.put3q (.int .i64 W) (.int .i64 H) (.slice A1 xs.length c1)
          clear cFzs gFzs BmFzs xFzs R2Fzs R3Fzs OFzs O6Fzs
          go_simp
          obtain ⟨ws3002, hws⟩ : ∃ v, ((ws3001.setCell ⟨(w.heap.size + 1), 0, none⟩ (.int .i64 W)).setCell ⟨(w.heap.size + 1), 1, none⟩ (.int .i64 H)).setCell ⟨(w.heap.size + 1), 2, none⟩ (.slice A1 xs.length c1) = v := ⟨_, rfl⟩
          rw [hws] at cFzss gFzss BmFzss xFzss R2Fzss R3Fzss F_OF F_O6F ⊢
          clear hws g0 g1 g2 z0 z1 z2
          have OFzss := F_OF.1
          have O6Fzss := F_O6F.1
          clear F_OF F_O6F
          refine hK.out _ _ (by exact ⟨BmFzss.cell 0, BmFzss.cell 1, BmFzss.cell 2, xFzss.cell 0, xFzss.cell 1, xFzss.cell 2⟩) (fun hHeld => ?_)
          clear hK K
          (try simp only [Act.put, List.getElem_toArray, List.getElem_cons_zero, List.getElem_cons_succ, List.setIfInBounds_toArray, List.set_cons_zero, List.set_cons_succ])
          refine wpAnyH_done (by kernel_rfl) ?_ _
          refine NoPanic.normal ?_
          have g0 := R2Fzss.cell 0
          have g1 := R2Fzss.cell 1
          have g2 := R2Fzss.cell 2
          have k0 := R3Fzss.cell 0
          have k1 := R3Fzss.cell 1
          have k2 := R3Fzss.cell 2
          go_wp2
          exact bodyPost_ret (v := .tuple #[chartV oW oH (.slice A6 zs.length c6), chartV W H (.slice A1 xs.length c1)]) (by simp [results, Try.results43, go_sem, g0, g1, g2, k0, k1, k2]) rfl ⟨oW, oH, A6, c6, zs, W, H, A1, c1, xs, rfl, hso, hsm, O6Fzss, OFzss, cFzss.more (by omega), gFzss⟩
        | true =>
          obtain ⟨g6, rfl, hg6a, hg6b⟩ := O6F.some_ (by omega)
          have hg6p : g6 ≠ p := hne6 g6 rfl
          have hz1000 : zs.length ≤ 1000 := hso.1
          have ex00 := xF.cell 0
          have ex01 := xF.cell 1
          have ex02 := xF.cell 2
          go_wp2
          refine wp_region_noPanic ?_
          refine wp_region_held_drew (S := (fun w' => w'.cell? ⟨q11, 0, none⟩ = some (.int .i64 oW) ∧ w'.cell? ⟨q11, 1, none⟩ = some (.int .i64 oH) ∧ w'.cell? ⟨q11, 2, none⟩ = some (.slice (some ⟨g6, 0, none⟩) zs.length c6))) (by kernel_rfl) (by go_keep) (fun hHeld => ?_)
          have cFz := cur_drew cF
          have BmFz : Blk wv.drew _ _ _ := BmF.all (low_drewN wv 1)
          have xFz : Blk wv.drew _ _ _ := xF.all (low_drewN wv 1)
          have R2Fz : Blk wv.drew _ _ _ := R2F.all (low_drewN wv 1)
          have R3Fz : Blk wv.drew _ _ _ := R3F.all (low_drewN wv 1)
          have OFz : Own wv.drew _ _ _ := OF.all (low_drewN wv 1)
          have O6Fz : Own wv.drew _ _ _ := O6F.all (low_drewN wv 1)
          have gFz := grown_trans gF (drew_grown _ _)
          obtain ⟨wdT4, hwd⟩ : ∃ v, wv.drew = v := ⟨_, rfl⟩
          rw [hwd] at hHeld cFz BmFz xFz R2Fz R3Fz OFz O6Fz gFz ⊢
          clear hwd
          refine wpAnyH_take (i := 0) (v := ?_) rfl (by kernel_rfl) (by kernel_rfl) (by kernel_rfl) (fun _ _ _ h => h) (Or.inl ⟨by rfl, ?_⟩) (by assumption) ?_
          rotate_left
          · intro w hSw; (try dsimp only at hSw); go_simp; (try with_reducible rfl)
          (try simp only [Act.put, List.getElem_toArray, List.getElem_cons_zero, List.setIfInBounds_toArray, List.set_cons_zero, List.set_cons_succ])
          refine wpAnyH_take (i := 1) (v := ?_) rfl (by kernel_rfl) (by kernel_rfl) (by kernel_rfl) (fun _ _ _ h => h) (Or.inl ⟨by rfl, ?_⟩) (by assumption) ?_
          rotate_left
          · intro w hSw; (try dsimp only at hSw); go_simp; (try with_reducible rfl)
          (try simp only [Act.put, List.getElem_toArray, List.getElem_cons_zero, List.getElem_cons_succ, List.setIfInBounds_toArray, List.set_cons_zero, List.set_cons_succ])
          refine wpAnyH_take (i := 2) (v := ?_) rfl (by kernel_rfl) (by kernel_rfl) (by kernel_rfl) (fun _ _ _ h => h) (Or.inl ⟨by rfl, ?_⟩) (by assumption) ?_
          rotate_left
          · intro w hSw; (try dsimp only at hSw); go_simp; (try with_reducible rfl)
          (try simp only [Act.put, List.getElem_toArray, List.getElem_cons_zero, List.getElem_cons_succ, List.setIfInBounds_toArray, List.set_cons_zero, List.set_cons_succ])
          refine wpAnyH_take (i := 3) (v := ?_) rfl (by kernel_rfl) (by kernel_rfl) (by kernel_rfl) (fun _ _ _ h => h) (Or.inl ⟨by rfl, ?_⟩) (by assumption) ?_
          rotate_left
          · intro w hSw; (try dsimp only at hSw); go_simp; (try with_reducible rfl)
          (try simp only [Act.put, List.getElem_toArray, List.getElem_cons_zero, List.getElem_cons_succ, List.setIfInBounds_toArray, List.set_cons_zero, List.set_cons_succ])
          refine wpAnyH_take (i := 4) (v := ?_) rfl (by kernel_rfl) (by kernel_rfl) (by kernel_rfl) (fun _ _ _ h => h) (Or.inl ⟨by rfl, ?_⟩) (by assumption) ?_
          rotate_left
          · intro w hSw; (try dsimp only at hSw); go_simp; (try with_reducible rfl)
          (try simp only [Act.put, List.getElem_toArray, List.getElem_cons_zero, List.getElem_cons_succ, List.setIfInBounds_toArray, List.set_cons_zero, List.set_cons_succ])
          refine wpAnyH_take (i := 7) (v := ?_) rfl (by kernel_rfl) (by kernel_rfl) (by kernel_rfl) (fun _ _ _ h => h) (Or.inl ⟨by rfl, ?_⟩) (by assumption) ?_
          rotate_left
          · intro w hSw; (try dsimp only at hSw); go_simp; (try with_reducible rfl)
          (try simp only [Act.put, List.getElem_toArray, List.getElem_cons_zero, List.getElem_cons_succ, List.setIfInBounds_toArray, List.set_cons_zero, List.set_cons_succ])
          clear hHeld
          refine wpAnyH_ready (rs := [5]) (by kernel_rfl) (by simp) ?_
          refine AllReadyH.cons rfl (fun K hK => ?_) AllReadyH.nil
          go_simp
          refine hK.out _ _ (by exact ⟨xFz.cell 0, xFz.cell 1, xFz.cell 2⟩) (fun hHeld => ?_)
          clear hK K
          (try simp only [Act.put, List.getElem_toArray, List.getElem_cons_zero, List.getElem_cons_succ, List.setIfInBounds_toArray, List.set_cons_zero, List.set_cons_succ])
          clear hHeld
          refine wpAnyH_ready (rs := [6]) (by kernel_rfl) (by simp) ?_
          refine AllReadyH.cons rfl (fun K hK => ?_) AllReadyH.nil
          go_simp
          refine (pick_any p (k + 3000 + 2 + 2 + 2 + 2) (zs.length : Int) _ cFz (by omega) (by omega) (by omega)).mono ?_
          rintro e wq4002 ⟨y6, rfl, hy6, hc, hg⟩
          obtain ⟨j6, rfl⟩ := Int.eq_ofNat_of_zero_le hy6.1
          have hj6 : j6 < zs.length := by omega
          have hj6i : (j6 : Int) < (zs.length : Int) := by omega
          have hj60 : (0 : Int) ≤ (j6 : Int) := by omega
          clear hy6
          clear cFz
          have cFz := hc
          replace BmFz := BmFz.mark hg (fun z hz => by cases hz; omega)
          replace xFz := xFz.mark hg (fun z hz => by cases hz; omega)
          replace R2Fz := R2Fz.mark hg (fun z hz => by cases hz; omega)
          replace R3Fz := R3Fz.mark hg (fun z hz => by cases hz; omega)
          replace OFz := OFz.mark hg (fun z z' hz hz' => by cases hz; exact fun e => hne1 z' hz' e.symm)
          replace O6Fz := O6Fz.mark hg (fun z z' hz hz' => by cases hz; exact fun e => hne6 z' hz' e.symm)
          replace gFz := grown_trans gFz hg
          clear hc hg
          refine hK.out _ _ (by exact ⟨xFz.cell 0, xFz.cell 1, xFz.cell 2⟩) (fun hHeld => ?_)
          clear hK K
          (try simp only [Act.put, List.getElem_toArray, List.getElem_cons_zero, List.getElem_cons_succ, List.setIfInBounds_toArray, List.set_cons_zero, List.set_cons_succ])
          clear hHeld
          refine wpAnyH_ready (rs := [8]) (by kernel_rfl) (by simp) ?_
          refine AllReadyH.cons rfl (fun K hK => ?_) AllReadyH.nil
          go_simp
          refine (pick_any p ((k + 3000 + 2 + 2 + 2 + 2) + 2) 3 _ cFz (by omega) (by omega) (by omega)).mono ?_
          rintro e wq4003 ⟨y8, rfl, hy8, hc, hg⟩
          have hy8i : I64 y8 := ⟨by omega, by omega⟩
          clear hy8
          clear cFz
          have cFz := hc
          replace BmFz := BmFz.mark hg (fun z hz => by cases hz; omega)
          replace xFz := xFz.mark hg (fun z hz => by cases hz; omega)
          replace R2Fz := R2Fz.mark hg (fun z hz => by cases hz; omega)
          replace R3Fz := R3Fz.mark hg (fun z hz => by cases hz; omega)
          replace OFz := OFz.mark hg (fun z z' hz hz' => by cases hz; exact fun e => hne1 z' hz' e.symm)
          replace O6Fz := O6Fz.mark hg (fun z z' hz hz' => by cases hz; exact fun e => hne6 z' hz' e.symm)
          replace gFz := grown_trans gFz hg
          clear hc hg
          refine hK.out _ _ (by exact ⟨xFz.cell 0, xFz.cell 1, xFz.cell 2⟩) (fun hHeld => ?_)
          clear hK K
          (try simp only [Act.put, List.getElem_toArray, List.getElem_cons_zero, List.getElem_cons_succ, List.setIfInBounds_toArray, List.set_cons_zero, List.set_cons_succ])
          refine wpAnyH_take (i := 9) (v := ?_) rfl (by kernel_rfl) (by kernel_rfl) (by kernel_rfl) (fun _ _ _ h => h) (Or.inl ⟨by rfl, ?_⟩) (by assumption) ?_
          rotate_left
          · intro w hSw; (try dsimp only at hSw); go_simp; (try with_reducible rfl)
          (try simp only [Act.put, List.getElem_toArray, List.getElem_cons_zero, List.getElem_cons_succ, List.setIfInBounds_toArray, List.set_cons_zero, List.set_cons_succ])
          clear hHeld
          refine wpAnyH_ready (rs := [10]) (by kernel_rfl) (by simp) ?_
          refine AllReadyH.cons rfl (fun K hK => ?_) AllReadyH.nil
          have KP := knot_put (g := g6) (j := j6) (x := y8) O6Fz hj6 hy8i
          obtain ⟨⟨v6, hv6⟩, hf6, O6N, hgN⟩ := KP
          have bel := (Below.refl w.heap.size wq4003).setCell (p := ⟨g6, j6, none⟩) hg6a (.int .i64 y8)
          have gN := grown_own gFz bel
          have cN := cFz.below bel hpw
          have oN := OFz.mark hgN (fun z z' hz hz' => by cases hz; exact fun e => hdis z' g6 hz' rfl e.symm)
          have bmN := BmFz.mark hgN (fun z hz => by cases hz; exact row_ne O6Fz.1 BmFz (by decide) g6 rfl)
          have xN := xFz.mark hgN (fun z hz => by cases hz; exact row_ne O6Fz.1 xFz (by decide) g6 rfl)
          have r2N := R2Fz.mark hgN (fun z hz => by cases hz; exact row_ne O6Fz.1 R2Fz (by decide) g6 rfl)
          have r3N := R3Fz.mark hgN (fun z hz => by cases hz; exact row_ne O6Fz.1 R3Fz (by decide) g6 rfl)
          clear bel hgN OFz O6Fz cFz gFz BmFz xFz R2Fz R3Fz
          go_simp
          obtain ⟨wn, hwn⟩ : ∃ v, (wq4003.setCell ⟨g6, j6, none⟩ (.int .i64 y8)) = v := ⟨_, rfl⟩
          rw [hwn] at gN cN oN O6N bmN xN r2N r3N ⊢
          clear hwn hv6 hf6
          refine hK.out _ _ (by exact ⟨xN.cell 0, xN.cell 1, xN.cell 2⟩) (fun hHeld => ?_)
          clear hK K
          (try simp only [Act.put, List.getElem_toArray, List.getElem_cons_zero, List.getElem_cons_succ, List.setIfInBounds_toArray, List.set_cons_zero, List.set_cons_succ])
          refine wpAnyH_done (by kernel_rfl) ?_ _
          refine NoPanic.normal ?_
          obtain ⟨ts, hts⟩ : ∃ t, zs.set j6 y8 = t := ⟨_, rfl⟩
          have hlt : zs.length = ts.length := by rw [← hts, List.length_set]
          rw [hts] at O6N
          rw [hlt] at xN
          have hso2 : Small oW oH ts := ⟨by omega, hso.2⟩
          have cF := cN
          have gF := gN
          have OF := oN
          have O6F := O6N
          have BmF := bmN
          have xF := xN
          have R2F := r2N
          have R3F := r3N
          clear hHeld cN gN oN O6N bmN xN r2N r3N hts hlt hj6i hj60
          have ex00 := BmF.cell 0
          have ex01 := BmF.cell 1
          have ex02 := BmF.cell 2
          have ex10 := xF.cell 0
          have ex11 := xF.cell 1
          have ex12 := xF.cell 2
          go_wp2
          refine wp_region_noPanic ?_
          refine wp_region_held_drew (S := (fun w' => w'.cell? ⟨Q4, 0, none⟩ = some (.int .i64 W) ∧ w'.cell? ⟨Q4, 1, none⟩ = some (.int .i64 H) ∧ w'.cell? ⟨Q4, 2, none⟩ = some (.slice A1 xs.length c1) ∧ w'.cell? ⟨q11, 0, none⟩ = some (.int .i64 oW) ∧ w'.cell? ⟨q11, 1, none⟩ = some (.int .i64 oH) ∧ w'.cell? ⟨q11, 2, none⟩ = some (.slice (some ⟨g6, 0, none⟩) ts.length c6))) (by kernel_rfl) (by go_keep) (fun hHeld => ?_)
          have cFz := cur_drew cF
          have BmFz : Blk wn.drew _ _ _ := BmF.all (low_drewN wn 1)
          have xFz : Blk wn.drew _ _ _ := xF.all (low_drewN wn 1)
          have R2Fz : Blk wn.drew _ _ _ := R2F.all (low_drewN wn 1)
          have R3Fz : Blk wn.drew _ _ _ := R3F.all (low_drewN wn 1)
          have OFz : Own wn.drew _ _ _ := OF.all (low_drewN wn 1)
          have O6Fz : Own wn.drew _ _ _ := O6F.all (low_drewN wn 1)
          have gFz := grown_trans gF (drew_grown _ _)
          obtain ⟨wdT5, hwd⟩ : ∃ v, wn.drew = v := ⟨_, rfl⟩
          rw [hwd] at hHeld cFz BmFz xFz R2Fz R3Fz OFz O6Fz gFz ⊢
          clear hwd
          refine wpAnyH_take (i := 0) (v := ?_) rfl (by kernel_rfl) (by kernel_rfl) (by kernel_rfl) (fun _ _ _ h => h) (Or.inl ⟨by rfl, ?_⟩) (by assumption) ?_
          rotate_left
          · intro w hSw; (try dsimp only at hSw); go_simp; (try with_reducible rfl)
          (try simp only [Act.put, List.getElem_toArray, List.getElem_cons_zero, List.setIfInBounds_toArray, List.set_cons_zero, List.set_cons_succ])
          refine wpAnyH_take (i := 1) (v := ?_) rfl (by kernel_rfl) (by kernel_rfl) (by kernel_rfl) (fun _ _ _ h => h) (Or.inl ⟨by rfl, ?_⟩) (by assumption) ?_
          rotate_left
          · intro w hSw; (try dsimp only at hSw); go_simp; (try with_reducible rfl)
          (try simp only [Act.put, List.getElem_toArray, List.getElem_cons_zero, List.getElem_cons_succ, List.setIfInBounds_toArray, List.set_cons_zero, List.set_cons_succ])
          clear hHeld
          refine wpAnyH_ready (rs := [2]) (by kernel_rfl) (by simp) ?_
          refine AllReadyH.cons rfl (fun K hK => ?_) AllReadyH.nil
          have g0 := R2Fz.cell 0
          have g1 := R2Fz.cell 1
          have g2 := R2Fz.cell 2
          have z0 := R2Fz.frozen 0
          have z1 := R2Fz.frozen 1
          have z2 := R2Fz.frozen 2
          have F_OF := fin3 (p := w.heap.size) (w0 := wdT5) (B := w.heap.size) (a := .int .i64 oW) (b := .int .i64 oH) (c := .slice (some ⟨g6, 0, none⟩) ts.length c6) OFz (row_ne' OFz.1 R2Fz (by decide)) (Below.refl _ _) (by omega)
          have F_O6F := fin3 (p := w.heap.size) (w0 := wdT5) (B := w.heap.size) (a := .int .i64 oW) (b := .int .i64 oH) (c := .slice (some ⟨g6, 0, none⟩) ts.length c6) O6Fz (row_ne' O6Fz.1 R2Fz (by decide)) (Below.refl _ _) (by omega)
          have cFzs := cFz.below F_OF.2 hpw
          have gFzs := grown_own gFz F_OF.2
          have BmFzs := BmFz.far3q (p := w.heap.size) (a := .int .i64 oW) (b := .int .i64 oH) (c := .slice (some ⟨g6, 0, none⟩) ts.length c6) (by omega)
          have xFzs := xFz.far3q (p := w.heap.size) (a := .int .i64 oW) (b := .int .i64 oH) (c := .slice (some ⟨g6, 0, none⟩) ts.length c6) (by omega)
          have R2Fzs := R2Fz.put3q (.int .i64 oW) (.int .i64 oH) (.slice (some ⟨g6, 0, none⟩) ts.length c6)
          have R3Fzs := R3Fz.far3q (p := w.heap.size) (a := .int .i64 oW) (b := .int .i64 oH) (c := .slice (some ⟨g6, 0, none⟩) ts.length c6) (by omega)
          clear cFz gFz BmFz xFz R2Fz R3Fz OFz O6Fz
          go_simp
          obtain ⟨ws5001, hws⟩ : ∃ v, ((wdT5.setCell ⟨w.heap.size, 0, none⟩ (.int .i64 oW)).setCell ⟨w.heap.size, 1, none⟩ (.int .i64 oH)).setCell ⟨w.heap.size, 2, none⟩ (.slice (some ⟨g6, 0, none⟩) ts.length c6) = v := ⟨_, rfl⟩
          rw [hws] at cFzs gFzs BmFzs xFzs R2Fzs R3Fzs F_OF F_O6F ⊢
          clear hws g0 g1 g2 z0 z1 z2
          have OFzs := F_OF.1
          have O6Fzs := F_O6F.1
          clear F_OF F_O6F
          refine hK.out _ _ (by exact ⟨BmFzs.cell 0, BmFzs.cell 1, BmFzs.cell 2, xFzs.cell 0, xFzs.cell 1, xFzs.cell 2⟩) (fun hHeld => ?_)
          clear hK K
          (try simp only [Act.put, List.getElem_toArray, List.getElem_cons_zero, List.getElem_cons_succ, List.setIfInBounds_toArray, List.set_cons_zero, List.set_cons_succ])
          clear hHeld
          refine wpAnyH_ready (rs := [3]) (by kernel_rfl) (by simp) ?_
          refine AllReadyH.cons rfl (fun K hK => ?_) AllReadyH.nil
          have g0 := R3Fzs.cell 0
          have g1 := R3Fzs.cell 1
          have g2 := R3Fzs.cell 2
          have z0 := R3Fzs.frozen 0
          have z1 := R3Fzs.frozen 1
          have z2 := R3Fzs.frozen 2
          have F_OF := fin3 (p := (w.heap.size + 1)) (w0 := ws5001) (B := w.heap.size) (a := .int .i64 W) (b := .int .i64 H) (c := .slice A1 xs.length c1) OFzs (row_ne' OFzs.1 R3Fzs (by decide)) (Below.refl _ _) (by omega)
          have F_O6F := fin3 (p := (w.heap.size + 1)) (w0 := ws5001) (B := w.heap.size) (a := .int .i64 W) (b := .int .i64 H) (c := .slice A1 xs.length c1) O6Fzs (row_ne' O6Fzs.1 R3Fzs (by decide)) (Below.refl _ _) (by omega)
          have cFzss := cFzs.below F_OF.2 hpw
          have gFzss := grown_own gFzs F_OF.2
          have BmFzss := BmFzs.far3q (p := (w.heap.size + 1)) (a := .int .i64 W) (b := .int .i64 H) (c := .slice A1 xs.length c1) (by omega)
          have xFzss := xFzs.far3q (p := (w.heap.size + 1)) (a := .int .i64 W) (b := .int .i64 H) (c := .slice A1 xs.length c1) (by omega)
          have R2Fzss := R2Fzs.far3q (p := (w.heap.size + 1)) (a := .int .i64 W) (b := .int .i64 H) (c := .slice A1 xs.length c1) (by omega)
          have R3Fzss := R3Fzs.put3q (.int .i64 W) (.int .i64 H) (.slice A1 xs.length c1)
          clear cFzs gFzs BmFzs xFzs R2Fzs R3Fzs OFzs O6Fzs
          go_simp
          obtain ⟨ws5002, hws⟩ : ∃ v, ((ws5001.setCell ⟨(w.heap.size + 1), 0, none⟩ (.int .i64 W)).setCell ⟨(w.heap.size + 1), 1, none⟩ (.int .i64 H)).setCell ⟨(w.heap.size + 1), 2, none⟩ (.slice A1 xs.length c1) = v := ⟨_, rfl⟩
          rw [hws] at cFzss gFzss BmFzss xFzss R2Fzss R3Fzss F_OF F_O6F ⊢
          clear hws g0 g1 g2 z0 z1 z2
          have OFzss := F_OF.1
          have O6Fzss := F_O6F.1
          clear F_OF F_O6F
          refine hK.out _ _ (by exact ⟨BmFzss.cell 0, BmFzss.cell 1, BmFzss.cell 2, xFzss.cell 0, xFzss.cell 1, xFzss.cell 2⟩) (fun hHeld => ?_)
          clear hK K
          (try simp only [Act.put, List.getElem_toArray, List.getElem_cons_zero, List.getElem_cons_succ, List.setIfInBounds_toArray, List.set_cons_zero, List.set_cons_succ])
          refine wpAnyH_done (by kernel_rfl) ?_ _
          refine NoPanic.normal ?_
          have g0 := R2Fzss.cell 0
          have g1 := R2Fzss.cell 1
          have g2 := R2Fzss.cell 2
          have k0 := R3Fzss.cell 0
          have k1 := R3Fzss.cell 1
          have k2 := R3Fzss.cell 2
          go_wp2
          exact bodyPost_ret (v := .tuple #[chartV oW oH (.slice (some ⟨g6, 0, none⟩) ts.length c6), chartV W H (.slice A1 xs.length c1)]) (by simp [results, Try.results43, go_sem, g0, g1, g2, k0, k1, k2]) rfl ⟨oW, oH, (some ⟨g6, 0, none⟩), c6, ts, W, H, A1, c1, xs, rfl, hso2, hsm, O6Fzss, OFzss, cFzss.more (by omega), gFzss⟩
end Go.Proofs.Ytpmhnklmhfadlaa
