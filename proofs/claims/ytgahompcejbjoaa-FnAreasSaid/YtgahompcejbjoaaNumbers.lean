/- The walk of the program's numbersIn: the numbers of all areas out of their places. Condition: the places are those of the areas. -/
import Derived.Test.YtgahompcejbjoaaAreasIn
namespace Go.Proofs.Ytgahompcejbjoaa
open Go.RowKit

/-- A row of rows: its header. -/
theorem Own2.row {w : World} {lo n c i : Nat} {A : Option Addr} {ass : List (List Nat)} (h : Own2 w lo (.slice A n c) (ass.map upI)) (hi : i < ass.length) :
    ∃ g l A1 c1, A = some ⟨g, 0, none⟩ ∧ g < w.heap.size ∧ ass[i]? = some l ∧ w.cell? ⟨g, i, none⟩ = some (.slice A1 l.length c1) ∧ Own w lo (.slice A1 l.length c1) (upI l) := by
  obtain ⟨g, hd, ys, e, _, hgl, _, hc, ho, hy⟩ := h.at (i := i) (by simpa using hi)
  have hl : ass[i]? = some ass[i] := List.getElem?_eq_getElem hi
  have hy' := hy
  unfold Hid at hy'
  rw [List.getElem?_map, hl] at hy'
  simp at hy'
  subst hy'
  obtain ⟨A1, c1, rfl, _⟩ := ho.form
  rw [upI_len] at hc ho
  exact ⟨g, ass[i], A1, c1, e, hgl, hl, hc, ho⟩
/-- The numbers once a areas are done with, and j places of the next one. -/
def NumOk (m : Nat) (xs : List Int) (a : Nat) (l : List Nat) (L : List Int) : Prop := L.length = xs.length ∧ ∀ x, x < xs.length → (x ∈ l → L.getD x 0 = (a : Int)) ∧ (x ∉ l → (labsOf m xs).getD x 0 < (a : Int) → L.getD x 0 = (labsOf m xs).getD x 0)
theorem NumOk.put {m a y j : Nat} {xs L : List Int} {l : List Nat} (h : NumOk m xs a (l.take j) L) (hy : l[j]? = some y) (hyN : y < xs.length) : NumOk m xs a (l.take (j + 1)) (L.set y a) := by
  have hjl := (List.getElem?_eq_some_iff.1 hy).1
  have e : l.take (j + 1) = l.take j ++ [y] := by rw [List.take_add_one, hy]; rfl
  refine ⟨by rw [List.length_set]; exact h.1, fun x hx => ?_⟩
  rw [e]
  by_cases exy : x = y
  · subst exy
    refine ⟨fun _ => ?_, fun g => absurd (by simp) g⟩
    rw [List.getD_eq_getElem?_getD, List.getElem?_set_self (by rw [h.1]; exact hx)]; rfl
  · rw [List.getD_eq_getElem?_getD, List.getElem?_set_ne (fun h => exy h.symm), ← List.getD_eq_getElem?_getD]
    obtain ⟨h1, h2⟩ := h.2 x hx
    refine ⟨fun g => h1 ?_, fun g => h2 fun g' => g (by simp [g'])⟩
    simpa [exy] using g
theorem NumOk.next {m a : Nat} {xs L : List Int} {l : List Nat} {ass : List (List Nat)} (h : NumOk m xs a l L) (hg : IsGrp m xs ass) (hl : ass[a]? = some l) : NumOk m xs (a + 1) [] L := by
  refine ⟨h.1, fun x hx => ⟨fun g => by simp at g, fun _ hlt => ?_⟩⟩
  obtain ⟨h1, h2⟩ := h.2 x hx
  have hm : x ∈ l ↔ x < xs.length ∧ (labsOf m xs).getD x 0 = (a : Int) := (hg.2.1 a l hl).2.1 x
  by_cases hxl : x ∈ l
  · rw [h1 hxl, (hm.1 hxl).2]
  · refine h2 hxl ?_
    have : (labsOf m xs).getD x 0 ≠ (a : Int) := fun e => hxl (hm.2 ⟨hx, e⟩)
    omega
theorem NumOk.end_ {m a : Nat} {xs L : List Int} {ass : List (List Nat)} (h : NumOk m xs a [] L) (hg : IsGrp m xs ass) (ha : ass.length ≤ a) : L = labsOf m xs := by
  have hl := hg.2.2.1
  refine List.ext_getElem (h.1.trans hl.symm) fun x hx hx' => ?_
  have h3 : (labsOf m xs).getD x 0 < ((cntOf m xs : Nat) : Int) := (hg.2.2.2.rng x (by rw [← h.1]; exact hx)).2
  have h4 := hg.1
  have h2 := (h.2 x (by rw [← h.1]; exact hx)).2 (by simp) (by omega)
  rw [getD_at hx, getD_at hx'] at h2
  exact h2
set_option maxRecDepth 100000 in
set_option maxHeartbeats 8000000 in
theorem numbersIn_any (m k b off c B lo2 c2 : Nat) (A2 : Option Addr) (xs : List Int) (ass : List (List Nat)) (w : World) (h : Rd w B (some ⟨b, off, none⟩) xs.length c xs) (hB : B ≤ w.heap.size) (h64 : xs.length ≤ 64) (hN : 1 ≤ xs.length) (ho2 : Own2 w lo2 (.slice A2 ass.length c2) (ass.map upI)) (HG : Hid (IsGrp m xs ass)) :
    Calls Try.prog 26 #[chartV m k (.slice (some ⟨b, off, none⟩) xs.length c), .slice A2 ass.length c2] w (fun e w' => ∃ A c, e = .returned (.slice A xs.length c) ∧ Own w' w.heap.size (.slice A xs.length c) (labsOf m xs) ∧ Below w.heap.size w w') := by
  obtain ⟨i0, hi, hz0, hz1, hz2⟩ := info_parts info_int
  have x0 := Cx.start (m := m) (k := k) h hB
  have e2 := x0.c2
  have hsz : (w.alloc (.cells #[.int .i64 m, .int .i64 k, .slice (some ⟨b, off, none⟩) xs.length c] 26)).heap.size = w.heap.size + 1 := by simp
  have hass : ass.length ≤ 64 := by
    have h1 := HG.out.1
    have h2 := HG.out.2.2.2
    rcases Nat.lt_or_ge 64 ass.length with g | g
    · exfalso
      have hx : ∀ a : Nat, ∃ x : Nat, a < ass.length → x < xs.length ∧ (labsOf m xs).getD x 0 = (a : Int) := fun a => by
        by_cases ha : a < ass.length
        · obtain ⟨x, g1, g2⟩ := h2.all a (by omega) (by omega)
          exact ⟨x, fun _ => ⟨g1, g2⟩⟩
        · exact ⟨0, fun g => absurd g ha⟩
      let f : Nat → Nat := fun a => Classical.choose (hx a)
      have hf : ∀ a, a < ass.length → f a < xs.length ∧ (labsOf m xs).getD (f a) 0 = (a : Int) := fun a => Classical.choose_spec (hx a)
      have hnd : ((List.range ass.length).map f).Nodup := by
        rw [List.nodup_iff_pairwise_ne, List.pairwise_map]
        refine List.Pairwise.imp_of_mem ?_ (List.nodup_iff_pairwise_ne.1 List.nodup_range)
        intro a b ha hb hne e
        have g1 := (hf a (List.mem_range.1 ha)).2
        have g2 := (hf b (List.mem_range.1 hb)).2
        rw [e, g2] at g1
        omega
      have := nodup_le xs.length _ hnd (fun x hx => by
        obtain ⟨a, ha, rfl⟩ := List.mem_map.1 hx
        exact (hf a (List.mem_range.1 ha)).1)
      simp at this
      omega
    · exact g
  clear h
  go_enter Try.func26, Try.ntmps26
  go_upto_region 1 with fail
  generalize w.alloc (.cells #[.int .i64 m, .int .i64 k, .slice (some ⟨b, off, none⟩) xs.length c] 26) = w1 at *
  go_wp2_with (at_make; refine wpList_make_full _ rfl _ _ 24 rfl (w.heap.size + 1) 3 i0 (.int .i64 0) 1 Try.underlying24 hi hz0 hz1 _ _ _ _ xs.length rfl rfl rfl rfl (by rw [hz2]; omega) (by unfold maxLen; omega) (by omega) ?_)
  intro w2 hown0 hg0
  have hO : Own w2 (w.heap.size + 1) (.slice (some ⟨w.heap.size + 1, 0, none⟩) xs.length xs.length) (List.replicate xs.length 0) := by
    refine ⟨?_, fun y hy => by rw [List.mem_replicate] at hy; rw [hy.2]; exact ⟨by omega, by omega⟩⟩
    have e : (madeCells #[Value.int .i64 0] xs.length).toList = (List.replicate xs.length (0 : Int)).map (Value.int .i64) := by rw [toList_madeCells_one, List.map_replicate]
    rw [← e, List.length_replicate]; exact hown0
  have x2 := x0.mark hg0 (fun q hq => by cases hq)
  have HNUM := Lib.hid (show NumOk m xs 0 [] (List.replicate xs.length 0) from ⟨by simp, fun x hx => ⟨fun g => by simp at g, fun _ g => by
    have : 0 ≤ (labsOf m xs).getD x 0 := (HG.out.2.2.2.rng x hx).1
    omega⟩⟩)
  clear hown0 hg0 x0 e2
  obtain ⟨g, hg⟩ : ∃ g, w.heap.size + 1 = g := ⟨_, rfl⟩
  obtain ⟨L0, hL0⟩ : ∃ L : List Int, List.replicate xs.length 0 = L := ⟨_, rfl⟩
  rw [hL0] at hO HNUM
  rw [hg] at hO ⊢
  have hgw : w.heap.size + 1 ≤ g := by omega
  clear hg hL0 hsz
  go_wp2
  go_loopw [16] (fun s16 wr => ∃ (a : Nat) (L : List Int), a ≤ ass.length ∧ s16 = .int .i64 a ∧ Hid (NumOk m xs a [] L) ∧ Own wr g (.slice (some ⟨g, 0, none⟩) xs.length xs.length) L ∧ Cx w m k b off c B xs wr) (fun s16 _ => ass.length - (intOf s16).toNat)
  case atStart => exact ⟨0, L0, Nat.zero_le _, rfl, HNUM, hO, x2⟩
  case round =>
    clear HNUM hO x2
    obtain ⟨a, L, ha, rfl, HNUM, ho, x1⟩ := hrel
    by_cases hlt : a < ass.length
    · obtain ⟨g2, l, A1, c1, rfl, hg2, hal, hc0, hrow0⟩ := ho2.row hlt
      have hc := cells_of x1.bel hc0 hg2
      have hrow := hrow0.all x1.bel
      have HAL := Lib.hid hal
      have hln : l.length ≤ xs.length := by
        have h1 := HG.out.2.1 a l hal
        exact nodup_le _ _ h1.1 (fun x hx => ((h1.2.1 x).1 hx).1)
      have HN0 := Lib.hid (show NumOk m xs a (l.take 0) L by rw [List.take_zero]; exact HNUM.out)
      have hc1 := hrow.rd.cap
      clear HNUM hal hc0
      go_wp2
      clear hrow hc
      go_loopw [23] (fun s23 wr => ∃ (j : Nat) (L : List Int), j ≤ l.length ∧ s23 = .int .i64 j ∧ Hid (NumOk m xs a (l.take j) L) ∧ Own wr g (.slice (some ⟨g, 0, none⟩) xs.length xs.length) L ∧ Cx w m k b off c B xs wr) (fun s23 _ => l.length - (intOf s23).toNat)
      case atStart => exact ⟨0, L, Nat.zero_le _, rfl, HN0, ho, x1⟩
      case round =>
        clear HN0 ho x1
        obtain ⟨j, L, hj, rfl, HNUM, ho, x1⟩ := hrel
        by_cases hjl : j < l.length
        · obtain ⟨y, HY⟩ : ∃ y, Hid (l[j]? = some y) := ⟨l[j], List.getElem?_eq_getElem hjl⟩
          have hyN : y < xs.length := ((HG.out.2.1 a l HAL.out).2.1 y).1 (List.mem_of_getElem? HY.out) |>.1
          have hrow := hrow0.all x1.bel
          obtain ⟨g3, rfl, _, _⟩ := hrow.some_ (by rw [upI_len]; omega)
          have e3 := own_at hrow (j := j) (by rw [upI_len]; exact hjl) (upI_get HY.out)
          have ev := own_at ho (j := y) (by rw [HNUM.out.1]; exact hyN) rfl
          obtain ⟨hfz, ho', hgr⟩ := own_put ho y (a : Int) ⟨by omega, by omega⟩
          have x2 := x1.mark hgr (fun q hq => by cases hq; exact hgw)
          have HN2 := Lib.hid (HNUM.out.put HY.out hyN)
          clear HNUM hrow ho x1 hgr
          go_wp2
          go_roundw
          case rel => exact ⟨j + 1, _, hjl, by go_num, HN2, ho', x2⟩
          case measure => simp [intOf]; omega
        · have HN2 := Lib.hid (show NumOk m xs (a + 1) [] L from NumOk.next (by have := HNUM.out; rwa [List.take_of_length_le (by omega)] at this) HG.out HAL.out)
          clear HNUM
          go_wp2
          go_roundw
          case rel => exact ⟨a + 1, L, hlt, by go_num, HN2, ho, x1⟩
          case measure => simp [intOf]; omega
    · have HF := Lib.hid (HNUM.out.end_ HG.out (by omega))
      go_wp2
      go_ret
      rw [← HF.out]
      exact ⟨_, _, rfl, ho.mono (by omega), x1.bel⟩
end Go.Proofs.Ytgahompcejbjoaa
