/- The walk of the program's mostIn: the color that most knots of an orbit have. Condition: a valid chart, a symmetry that keeps its size. -/
import Derived.Test.YtihgobceahfpiaaOrbMath
import Derived.Test.YtihgobceahfpiaaCopy
import Derived.Deep.LoopGhost
namespace Go.Proofs.Ytihgobceahfpiaa
open Go.RowKit

/-- Six counts as cells. -/
def cA (f : Nat → Nat) : Array Value := #[.int .i64 (f 0 : Nat), .int .i64 (f 1 : Nat), .int .i64 (f 2 : Nat), .int .i64 (f 3 : Nat), .int .i64 (f 4 : Nat), .int .i64 (f 5 : Nat)]
theorem lt6 {q : Nat} (h : q < 6) : q = 0 ∨ q = 1 ∨ q = 2 ∨ q = 3 ∨ q = 4 ∨ q = 5 := by omega
theorem cA_at (f : Nat → Nat) {q : Nat} (h : q < 6) : (cA f)[q]? = some (.int .i64 (f q : Nat)) := by
  rcases lt6 h with rfl | rfl | rfl | rfl | rfl | rfl <;> rfl
theorem cA_set (f : Nat → Nat) {q : Nat} (h : q < 6) : (cA f).setIfInBounds q (.int .i64 ((f q : Nat) + 1 : Int)) = cA (fun j => f j + if j = q then 1 else 0) := by
  rcases lt6 h with rfl | rfl | rfl | rfl | rfl | rfl <;> simp [cA]
theorem cA_congr {f g : Nat → Nat} (h : ∀ j, j < 6 → f j = g j) : cA f = cA g := by
  simp [cA, h 0, h 1, h 2, h 3, h 4, h 5]
/-- The counts behind one more place. -/
theorem cnt_more {g : Nat → Nat} {xs : List Int} {p t q : Nat} (h : xs.getD (iter g t p) 0 = (q : Int)) :
    cA (fun j => cntTo g xs p t (j : Int) + if j = q then 1 else 0) = cA (fun j => cntTo g xs p (t + 1) (j : Int)) := by
  apply cA_congr
  intro j _
  show _ = cntTo g xs p t (j : Int) + cntE xs (j : Int) (iter g t p)
  congr 1
  unfold cntE
  rw [h]
  by_cases e : j = q
  · rw [if_pos e, if_pos (by rw [e])]
  · rw [if_neg e, if_neg (by omega)]
/-- The origins as numbers. -/
def orgL (g : Nat → Nat) (n : Nat) : List Int := (List.range n).map fun p => ((g p : Nat) : Int)
theorem orgL_len (g : Nat → Nat) (n : Nat) : (orgL g n).length = n := by simp [orgL]
theorem orgL_get {g : Nat → Nat} {n p : Nat} (h : p < n) : (orgL g n).getD p 0 = ((g p : Nat) : Int) := by
  rw [getD_at (by rw [orgL_len]; exact h)]; simp [orgL]
theorem color_nat {xs : List Int} (h : ∀ x ∈ xs, 0 ≤ x ∧ x < 6) {p : Nat} (hp : p < xs.length) : ∃ q : Nat, q < 6 ∧ xs.getD p 0 = (q : Int) := by
  have := h _ (show xs.getD p 0 ∈ xs by rw [getD_at hp]; exact List.getElem_mem hp)
  obtain ⟨q, hq⟩ := Int.eq_ofNat_of_zero_le this.1
  exact ⟨q, by omega, hq⟩
theorem best_step (f : Nat → Nat) (j : Nat) (h : f (bestTo f j) < f j) : bestTo f (j + 1) = j := by
  show (if f (bestTo f j) < f j then j else bestTo f j) = j
  rw [if_pos h]
theorem best_stay (f : Nat → Nat) (j : Nat) (h : ¬ f (bestTo f j) < f j) : bestTo f (j + 1) = bestTo f j := by
  show (if f (bestTo f j) < f j then j else bestTo f j) = _
  rw [if_neg h]

theorem index_run (F : Nat → Nat) {j : Nat} (h : j < 6) (w : World) :
    (Instr.index 85 (.agg #[.int .i64 (F 0 : Nat), .int .i64 (F 1 : Nat), .int .i64 (F 2 : Nat), .int .i64 (F 3 : Nat), .int .i64 (F 4 : Nat), .int .i64 (F 5 : Nat)]) (.int .i64 (j : Int))).run Try.prog w = .ok (.int .i64 ((F j : Nat) : Int)) w := by
  rcases lt6 h with rfl | rfl | rfl | rfl | rfl | rfl <;> rfl
set_option maxRecDepth 100000 in
set_option maxHeartbeats 8000000 in
theorem mostIn_any (m k b off cc B b2 o2 c2 B2 p : Nat) (xs : List Int) (g : Nat → Nat) (w : World) (hR : Rd w B (some ⟨b, off, none⟩) xs.length cc xs) (hO : Rd w B2 (some ⟨b2, o2, none⟩) xs.length c2 (orgL g xs.length)) (hB : B ≤ w.heap.size) (hB2 : B2 ≤ w.heap.size)
    (hg : Ring4 xs.length g) (hp : p < xs.length) (hx64 : xs.length ≤ 64) (hcol : Hid (∀ x ∈ xs, 0 ≤ x ∧ x < 6)) :
    Calls Try.prog 83 #[chartV m k (.slice (some ⟨b, off, none⟩) xs.length cc), .slice (some ⟨b2, o2, none⟩) xs.length c2, .int .i64 p] w (Out w (.int .i64 ((bestC g xs p : Nat) : Int))) := by
  obtain ⟨_, _, hbb, hbB, hcell⟩ := hR.cells (by omega)
  cases hbb
  obtain ⟨_, _, hbb2, hbB2, hcell2⟩ := hO.cells (by omega)
  cases hbb2
  obtain ⟨q, hq6, hq⟩ := color_nat hcol.out hp
  have hx := hcell p hp
  rw [hq] at hx
  have hgp := hg.lt p hp
  have hy := hcell2 p hp
  rw [orgL_get hp] at hy
  have HQ := Lib.hid hq
  have a0 : Blk ((w.alloc (.cells #[.int .i64 m, .int .i64 k, .slice (some ⟨b, off, none⟩) xs.length cc] 26)).alloc (.cells #[.int .i64 0, .int .i64 0, .int .i64 0, .int .i64 0, .int .i64 0, .int .i64 0] 85)) (w.heap.size + 1) 85 (cA fun _ => 0) := (Blk.new (w.alloc (.cells #[.int .i64 m, .int .i64 k, .slice (some ⟨b, off, none⟩) xs.length cc] 26)) #[.int .i64 0, .int .i64 0, .int .i64 0, .int .i64 0, .int .i64 0, .int .i64 0] 85).at_ (by simp)
  have hcq := a0.cell q
  rw [cA_at _ hq6] at hcq
  have hfq := a0.frozen q
  clear a0
  have hset : ([.int .i64 0, .int .i64 0, .int .i64 0, .int .i64 0, .int .i64 0, .int .i64 0].set q (.int .i64 1)).toArray = cA (fun j => cntTo g xs p 1 (j : Int)) := by
    have e2 := cnt_more (g := g) (xs := xs) (p := p) (t := 0) (q := q) hq
    rw [← e2]
    rcases lt6 hq6 with rfl | rfl | rfl | rfl | rfl | rfl <;> rfl
  have a1 : Blk ((w.alloc (.cells #[.int .i64 m, .int .i64 k, .slice (some ⟨b, off, none⟩) xs.length cc] 26)).alloc (.cells ([.int .i64 0, .int .i64 0, .int .i64 0, .int .i64 0, .int .i64 0, .int .i64 0].set q (.int .i64 1)).toArray 85)) (w.heap.size + 1) 85 (cA fun j => cntTo g xs p 1 (j : Int)) := by
    rw [← hset]
    exact (Blk.new (w.alloc (.cells #[.int .i64 m, .int .i64 k, .slice (some ⟨b, off, none⟩) xs.length cc] 26)) _ _).at_ (by simp)
  have hx1 := (Blk.new w #[.int .i64 m, .int .i64 k, .slice (some ⟨b, off, none⟩) xs.length cc] 26).alloc (.cells ([.int .i64 0, .int .i64 0, .int .i64 0, .int .i64 0, .int .i64 0, .int .i64 0].set q (.int .i64 1)).toArray 85)
  have H1 := (hR.alloc hB (.cells #[.int .i64 m, .int .i64 k, .slice (some ⟨b, off, none⟩) xs.length cc] 26)).alloc (by simp; omega) (.cells ([.int .i64 0, .int .i64 0, .int .i64 0, .int .i64 0, .int .i64 0, .int .i64 0].set q (.int .i64 1)).toArray 85)
  have H2 := (hO.alloc hB2 (.cells #[.int .i64 m, .int .i64 k, .slice (some ⟨b, off, none⟩) xs.length cc] 26)).alloc (by simp; omega) (.cells ([.int .i64 0, .int .i64 0, .int .i64 0, .int .i64 0, .int .i64 0, .int .i64 0].set q (.int .i64 1)).toArray 85)
  have HB1 := Lib.hid (((Below.refl w.heap.size w).alloc (Nat.le_refl _) (.cells #[.int .i64 m, .int .i64 k, .slice (some ⟨b, off, none⟩) xs.length cc] 26)).alloc (by simp) (.cells ([.int .i64 0, .int .i64 0, .int .i64 0, .int .i64 0, .int .i64 0, .int .i64 0].set q (.int .i64 1)).toArray 85))
  have hbw : b < w.heap.size := by omega
  have hbw2 : b2 < w.heap.size := by omega
  clear hR hO hcell hcell2 hset
  go_enter Try.func83, Try.ntmps83
  go_wp2
  generalize ((w.alloc (.cells #[.int .i64 m, .int .i64 k, .slice (some ⟨b, off, none⟩) xs.length cc] 26)).alloc (.cells ([.int .i64 0, .int .i64 0, .int .i64 0, .int .i64 0, .int .i64 0, .int .i64 0].set q (.int .i64 1)).toArray 85)) = wv at *
  have hzv := a1.lt
  have hBv : B ≤ wv.heap.size := by omega
  have hB2v : B2 ≤ wv.heap.size := by omega
  clear hx hy hq hcq hfq
  go_loopg [8] 4 (fun gh s8 wr => ∃ t : Nat, 1 ≤ t ∧ t ≤ per g p ∧ 4 - t ≤ gh ∧ s8 = .int .i64 ((iter g t p : Nat) : Int) ∧ Blk wr (w.heap.size + 1) 85 (cA fun j => cntTo g xs p t (j : Int)) ∧
      Blk wr w.heap.size 26 #[.int .i64 m, .int .i64 k, .slice (some ⟨b, off, none⟩) xs.length cc] ∧ Rd wr B (some ⟨b, off, none⟩) xs.length cc xs ∧ Rd wr B2 (some ⟨b2, o2, none⟩) xs.length c2 (orgL g xs.length) ∧ Below w.heap.size w wr)
  case atStart => exact ⟨1, Nat.le_refl _, (per_le g p).1, by omega, rfl, a1, hx1, H1, H2, HB1.out⟩
  case round =>
    obtain ⟨t, ht1, htp, hgh, rfl, a2, x2, R2, O2, hbl⟩ := hrel
    have HB2 := Lib.hid hbl
    have hp4 := (per_le g p).2
    have hzr := a2.lt
    clear hbl a1 hx1 H1 H2 HB1 hzv
    by_cases hlt : t < per g p
    · have hne : iter g t p ≠ p := hg.iter_ne hp ht1 hlt
      have hnei : (((iter g t p : Nat) : Int) != (p : Int)) = true := by simp; omega
      have hil := hg.iter_lt hp t
      obtain ⟨_, _, hbb, hbB, hcell⟩ := R2.cells (by omega)
      cases hbb
      obtain ⟨_, _, hbb2, hbB2, hcell2⟩ := O2.cells (by omega)
      cases hbb2
      obtain ⟨q', hq6', hq'⟩ := color_nat hcol.out hil
      have hx := hcell _ hil
      rw [hq'] at hx
      have hy := hcell2 _ hil
      rw [orgL_get hil] at hy
      have hcq := a2.cell q'
      rw [cA_at _ hq6'] at hcq
      have hfq := a2.frozen q'
      have hct := cntTo_le g xs p (q' : Int) t
      have a3 := a2.set_ q' (.int .i64 ((cntTo g xs p t (q' : Int) : Nat) + 1 : Int))
      rw [cA_set _ hq6', cnt_more hq'] at a3
      have x3 := x2.far (a := ⟨w.heap.size + 1, q', none⟩) (by simp) (.int .i64 ((cntTo g xs p t (q' : Int) : Nat) + 1 : Int))
      have R3 := R2.keep (w' := wr.setCell ⟨w.heap.size + 1, q', none⟩ (.int .i64 ((cntTo g xs p t (q' : Int) : Nat) + 1 : Int))) (fun b o hb => World.cell?_setCell_other _ _ _ _ (by first | (simp; done) | (simp; omega)))
      have O3 := O2.keep (w' := wr.setCell ⟨w.heap.size + 1, q', none⟩ (.int .i64 ((cntTo g xs p t (q' : Int) : Nat) + 1 : Int))) (fun b o hb => World.cell?_setCell_other _ _ _ _ (by first | (simp; done) | (simp; omega)))
      have HB3 := Lib.hid (HB2.out.setCell (p := ⟨w.heap.size + 1, q', none⟩) (by simp) (.int .i64 ((cntTo g xs p t (q' : Int) : Nat) + 1 : Int)))
      obtain ⟨I, hI⟩ : ∃ I, I = iter g t p := ⟨_, rfl⟩
      have HI := Lib.hid (show ((iter g (t + 1) p : Nat) : Int) = ((g I : Nat) : Int) by rw [hI]; rfl)
      obtain ⟨C, hC⟩ : ∃ C, C = cntTo g xs p t (q' : Int) := ⟨_, rfl⟩
      have x2c := x2.cell 2
      have hc64 : C ≤ 4 := by omega
      rw [← hI] at hnei hil hx hy hne ⊢
      rw [← hC] at hcq a3 x3 R3 O3 HB3
      clear hcell hcell2 hq' hI hC
      go_wp2
      go_roundg (4 - (t + 1))
      case measure => omega
      case rel => exact ⟨t + 1, by omega, by omega, Nat.le_refl _, by rw [HI.out], a3, x3, R3, O3, HB3.out⟩
    · obtain rfl : t = per g p := by omega
      have hIp := hg.iter_per hp
      rw [hIp]
      obtain ⟨F, hF⟩ : ∃ F : Nat → Nat, F = fun j : Nat => cntTo g xs p (per g p) (j : Int) := ⟨_, rfl⟩
      have HF := Lib.hid (show bestC g xs p = bestTo F 6 by rw [hF]; rfl)
      rw [← hF] at a2
      have c0 := a2.cell 0
      have c1 := a2.cell 1
      have c2' := a2.cell 2
      have c3 := a2.cell 3
      have c4 := a2.cell 4
      have c5 := a2.cell 5
      rw [cA_at F (by omega)] at c0 c1 c2' c3 c4 c5
      have A2 := Lib.hid a2
      clear hF a2
      go_wp2
      go_loopw [42, 10, 11, 9] (fun s42 _ _ s9 wx => ∃ j : Nat, j ≤ 6 ∧ s42 = .int .i64 j ∧ s9 = .int .i64 ((bestTo F j : Nat) : Int) ∧ wx = wr) (fun s42 _ _ _ _ => 6 - (intOf s42).toNat)
      case atStart => exact ⟨0, Nat.zero_le _, rfl, rfl, rfl⟩
      case round =>
        obtain ⟨j, hj, rfl, rfl, rfl⟩ := hrel
        by_cases hj6 : j < 6
        · have hbj : bestTo F j < 6 := by have := bestTo_le F j; omega
          have hcb := A2.out.cell (bestTo F j)
          rw [cA_at F hbj] at hcb
          by_cases hgt : F (bestTo F j) < F j
          · have HS := Lib.hid (best_step F j hgt)
            have hgt' : ((F (bestTo F j) : Nat) : Int) < ((F j : Nat) : Int) := by omega
            clear hgt
            generalize bestTo F j = bj at *
            go_wp2
            rw [index_run F hj6]
            go_wp2
            go_roundw
            case rel => exact ⟨j + 1, by omega, by go_num, by rw [HS.out], by first | rfl | trivial⟩
            case measure => simp [intOf]; omega
          · have HS := Lib.hid (best_stay F j hgt)
            have hgt' : ((F j : Nat) : Int) ≤ ((F (bestTo F j) : Nat) : Int) := by omega
            clear hgt
            go_wp2
            rw [index_run F hj6]
            go_wp2
            go_roundw
            case rel => exact ⟨j + 1, by omega, by go_num, by rw [HS.out], by first | rfl | trivial⟩
            case measure => simp [intOf]; omega
        · obtain rfl : j = 6 := by omega
          go_wp2
          go_ret
          exact ⟨ret_int (by rw [HF.out]), HB2.out⟩
end Go.Proofs.Ytihgobceahfpiaa
