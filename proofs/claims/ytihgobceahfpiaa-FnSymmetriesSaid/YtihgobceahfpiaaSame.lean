/- The walks of what tells that a chart has a symmetry: the program's isSameAfter, the model's l4Same. Condition: a valid chart and symmetry. -/
import Derived.Test.YtihgobceahfpiaaMove
namespace Go.Proofs.Ytihgobceahfpiaa
open Go.RowKit

set_option maxRecDepth 100000 in
set_option maxHeartbeats 1000000 in
theorem keepsSize_eq (m k s : Nat) (v : Value) (w : World) (d : Bool) (hd : keepsB m k s = d) :
    Calls Try.prog 81 #[chartV m k v, .int .i64 s] w (Out w (.bool d)) := by
  subst hd
  have hb0 := Lib.hid (show Below w.heap.size w (w.alloc (.cells #[.int .i64 m, .int .i64 k, v] 26)) from (Below.refl _ _).alloc (Nat.le_refl _) _)
  have hr : Int.tmod (s : Int) 2 = ((s % 2 : Nat) : Int) := by rw [Int.tmod_eq_emod_of_nonneg (by omega)]; omega
  by_cases h1 : m = k
  · have H := Lib.hid (show keepsB m k s = true by simp [keepsB, h1])
    subst h1
    go_enter Try.func81, Try.ntmps81
    go_wp2
    go_ret
    exact ⟨ret_bool H.out.symm, hb0.out⟩
  · have h1' : ((m : Int) == (k : Int)) = false := by simp; omega
    by_cases h2 : s % 2 = 0
    · have H := Lib.hid (show keepsB m k s = true by simp [keepsB, h2])
      rw [h2] at hr
      go_enter Try.func81, Try.ntmps81
      go_wp2
      go_ret
      exact ⟨ret_bool (by rw [H.out]), hb0.out⟩
    · have H := Lib.hid (show keepsB m k s = false by simp [keepsB, h1, h2])
      have h3 : s % 2 = 1 := by omega
      rw [h3] at hr
      go_enter Try.func81, Try.ntmps81
      go_wp2
      go_ret
      exact ⟨ret_bool (by rw [H.out]), hb0.out⟩
theorem field_knots (a b : Int) (A : Option Addr) (n c : Nat) (w : World) : (Instr.field 26 (.agg #[.int .i64 a, .int .i64 b, .slice A n c]) 2).run Try.prog w = .ok (.slice A n c) w := rfl
theorem equal_eq (b o n c b' o' n' c' B B' : Nat) (xs ys : List Int) (w : World) (h : Rd w B (some ⟨b, o, none⟩) n c xs) (h' : Rd w B' (some ⟨b', o', none⟩) n' c' ys) (hn : 1 ≤ n) (hn' : 1 ≤ n') (d : Bool) (hd : decide (xs = ys) = d) :
    Calls Try.prog 94 #[.slice (some ⟨b, o, none⟩) n c, .slice (some ⟨b', o', none⟩) n' c'] w (Out w (.bool d)) := by
  subst hd
  obtain ⟨_, _, e, _, hc⟩ := h.cells (by omega)
  cases e
  obtain ⟨_, _, e, _, hc'⟩ := h'.cells (by omega)
  cases e
  obtain rfl := h.len
  obtain rfl := h'.len
  refine (Try.slices_Equal_int b o xs.length c b' o' ys.length c' xs ys w (Nat.le_refl _) (Nat.le_refl _) h.len_lt h'.len_lt hc hc').mono ?_
  rintro e w' ⟨rfl, q, rfl⟩
  refine ⟨ret_bool ?_, low_drewN _ _⟩
  rw [List.take_of_length_le (Nat.le_refl _), List.take_of_length_le (Nat.le_refl _), Bool.eq_iff_iff]
  simp
set_option maxRecDepth 100000 in
set_option maxHeartbeats 4000000 in
/-- Whether a chart has a symmetry. -/
theorem isSameAfter_eq (p : Pic) (b off c B s : Nat) (w : World) (hR : Rd w B (some ⟨b, off, none⟩) p.xs.length c p.xs) (hB : B ≤ w.heap.size) (hpok : p.Ok) (hs7 : s ≤ 7) :
    Calls Try.prog 72 #[chartV p.m p.k (.slice (some ⟨b, off, none⟩) p.xs.length c), .int .i64 s] w (Out w (.bool (p.same s))) := by
  have hl1 : 1 ≤ p.xs.length := hpok.len.2
  have hml : 1 ≤ (p.move s).xs.length := (hpok.move s).len.2
  have hb0 := Lib.hid ((Below.refl w.heap.size w).alloc (Nat.le_refl _) (.cells #[.int .i64 p.m, .int .i64 p.k, .slice (some ⟨b, off, none⟩) p.xs.length c] 26))
  have h' := Lib.hid (hR.alloc hB (.cells #[.int .i64 p.m, .int .i64 p.k, .slice (some ⟨b, off, none⟩) p.xs.length c] 26))
  have x0 := Blk.new w #[.int .i64 p.m, .int .i64 p.k, .slice (some ⟨b, off, none⟩) p.xs.length c] 26
  clear hR
  obtain ⟨m, hm⟩ : ∃ m, m = p.m := ⟨_, rfl⟩
  obtain ⟨k, hkk⟩ : ∃ k, k = p.k := ⟨_, rfl⟩
  obtain ⟨xs, hxs⟩ : ∃ xs, xs = p.xs := ⟨_, rfl⟩
  by_cases hk0 : keepsB p.m p.k s = true
  · have HSD := Lib.hid ((same_keeps hk0).symm)
    replace hpok : (⟨m, k, xs⟩ : Pic).Ok := by rw [hm, hkk, hxs]; exact hpok
    have hpe : p.move s = (⟨m, k, xs⟩ : Pic).move s := by rw [hm, hkk, hxs]
    have hk := hk0
    rw [← hm, ← hkk] at hk
    rw [← hm, ← hkk, ← hxs] at hb0 h' x0 ⊢
    rw [← hxs] at hl1 HSD
    rw [hpe] at hml HSD
    clear hk0 hm hkk hxs hpe
    go_enter Try.func72, Try.ntmps72
    go_wp2_with fail
    have e0 := x0.cell 0
    have e1 := x0.cell 1
    have e2 := x0.cell 2
    have hz := x0.lt
    have hz1 : w.heap.size ≤ (w.alloc (.cells #[.int .i64 m, .int .i64 k, .slice (some ⟨b, off, none⟩) xs.length c] 26)).heap.size := Nat.le_of_lt hz
    have hz3 : B ≤ (w.alloc (.cells #[.int .i64 m, .int .i64 k, .slice (some ⟨b, off, none⟩) xs.length c] 26)).heap.size := Nat.le_trans hB hz1
    clear x0
    generalize w.alloc (.cells #[.int .i64 m, .int .i64 k, .slice (some ⟨b, off, none⟩) xs.length c] 26) = wv at *
    refine wp_region_noPanic ?_
    refine wp_region_held_drew (S := (fun w' => w'.cell? ⟨w.heap.size, 0, none⟩ = some (.int .i64 m) ∧ w'.cell? ⟨w.heap.size, 1, none⟩ = some (.int .i64 k) ∧ w'.cell? ⟨w.heap.size, 2, none⟩ = some (.slice (some ⟨b, off, none⟩) xs.length c))) (by kernel_rfl) (by go_keep) (fun hHeld => ?_)
    refine wpAnyH_take (i := 0) (v := ?_) rfl (by kernel_rfl) (by kernel_rfl) (by kernel_rfl) (fun _ _ _ h => h) (Or.inl ⟨by rfl, ?_⟩) (by assumption) ?_
    rotate_left
    · intro w hSw; (try dsimp only at hSw); go_simp; (try with_reducible rfl)
    (try simp only [Act.put, List.getElem_toArray, List.getElem_cons_zero, List.setIfInBounds_toArray, List.set_cons_zero, List.set_cons_succ])
    refine wpAnyH_take (i := 1) (v := ?_) rfl (by kernel_rfl) (by kernel_rfl) (by kernel_rfl) (fun _ _ _ h => h) (Or.inl ⟨by rfl, ?_⟩) (by assumption) ?_
    rotate_left
    · intro w hSw; (try dsimp only at hSw); go_simp; (try with_reducible rfl)
    (try simp only [Act.put, List.getElem_toArray, List.getElem_cons_zero, List.getElem_cons_succ, List.setIfInBounds_toArray, List.set_cons_zero, List.set_cons_succ])
    refine wpAnyH_ready (rs := [2]) (by kernel_rfl) (by simp) ?_
    refine AllReadyH.cons rfl (fun K hK => ?_) AllReadyH.nil
    go_simp
    ((with_reducible refine (keepsSize_eq m k s _ _ true hk).mono ?_); rintro e w2 ⟨rfl, hb2⟩; (try replace hb2 := below_drew' hb2); have HB2 := Lib.hid (hb0.out.trans (hb2.mono hz1)); have R2 := h'.out.all hb2 hz3; have hz4 : B ≤ w2.heap.size := Nat.le_trans hz3 hb2.size; have hz5 : w.heap.size ≤ w2.heap.size := Nat.le_trans hz1 hb2.size; replace e0 := cells_of hb2 e0 hz; replace e1 := cells_of hb2 e1 hz; replace e2 := cells_of hb2 e2 hz; have hz6 : w.heap.size < w2.heap.size := Nat.lt_of_lt_of_le hz hb2.size; clear hb2; go_simp)
    refine hK.out _ _ (by exact ⟨e0, e1, e2⟩) (fun hHeld => ?_)
    clear hK K
    (try simp only [Act.put, List.getElem_toArray, List.getElem_cons_zero, List.getElem_cons_succ, List.setIfInBounds_toArray, List.set_cons_zero, List.set_cons_succ])
    refine wpAnyH_take (i := 3) (v := ?_) rfl (by kernel_rfl) (by kernel_rfl) (by kernel_rfl) (fun _ _ _ h => h) (Or.inl ⟨by rfl, ?_⟩) (by assumption) ?_
    rotate_left
    · intro w hSw; (try dsimp only at hSw); go_simp; (try with_reducible rfl)
    (try simp only [Act.put, List.getElem_toArray, List.getElem_cons_zero, List.getElem_cons_succ, List.setIfInBounds_toArray, List.set_cons_zero, List.set_cons_succ])
    refine wpAnyH_take (i := 4) (v := ?_) rfl (by kernel_rfl) (by kernel_rfl) (by kernel_rfl) (fun _ _ _ h => h) (Or.inl ⟨by rfl, ?_⟩) (by assumption) ?_
    rotate_left
    · intro w hSw; (try dsimp only at hSw); go_simp; (try with_reducible rfl)
    (try simp only [Act.put, List.getElem_toArray, List.getElem_cons_zero, List.getElem_cons_succ, List.setIfInBounds_toArray, List.set_cons_zero, List.set_cons_succ])
    refine wpAnyH_take (i := 5) (v := ?_) rfl (by kernel_rfl) (by kernel_rfl) (by kernel_rfl) (fun _ _ _ h => h) (Or.inl ⟨by rfl, ?_⟩) (by assumption) ?_
    rotate_left
    · intro w hSw; (try dsimp only at hSw); go_simp; (try with_reducible rfl)
    (try simp only [Act.put, List.getElem_toArray, List.getElem_cons_zero, List.getElem_cons_succ, List.setIfInBounds_toArray, List.set_cons_zero, List.set_cons_succ])
    refine wpAnyH_take (i := 8) (v := ?_) rfl (by kernel_rfl) (by kernel_rfl) (by kernel_rfl) (fun _ _ _ h => h) (Or.inl ⟨by rfl, ?_⟩) (by assumption) ?_
    rotate_left
    · intro w hSw; (try dsimp only at hSw); go_simp; (try with_reducible rfl)
    (try simp only [Act.put, List.getElem_toArray, List.getElem_cons_zero, List.getElem_cons_succ, List.setIfInBounds_toArray, List.set_cons_zero, List.set_cons_succ])
    refine wpAnyH_take (i := 9) (v := ?_) rfl (by kernel_rfl) (by kernel_rfl) (by kernel_rfl) (fun _ _ _ h => h) (Or.inl ⟨by rfl, ?_⟩) (by assumption) ?_
    rotate_left
    · intro w hSw; (try dsimp only at hSw); go_simp; (try with_reducible rfl)
    (try simp only [Act.put, List.getElem_toArray, List.getElem_cons_zero, List.getElem_cons_succ, List.setIfInBounds_toArray, List.set_cons_zero, List.set_cons_succ])
    refine wpAnyH_ready (rs := [6]) (by kernel_rfl) (by simp) ?_
    refine AllReadyH.cons rfl (fun K hK => ?_) AllReadyH.nil
    go_simp
    ((with_reducible refine (movedBy_any m k b off c B s xs _ R2 hz4 hpok hs7).mono ?_); rintro e w3 ⟨A3, c3, rfl, own3, hb3⟩; obtain ⟨g3, rfl, _, _⟩ := own3.some_ hml; have R3 := R2.all hb3 hz4; have HB3 := Lib.hid (HB2.out.trans (hb3.mono hz5)); have hz7 : w.heap.size ≤ w3.heap.size := Nat.le_trans hz5 hb3.size; replace e0 := cells_of hb3 e0 hz6; replace e1 := cells_of hb3 e1 hz6; replace e2 := cells_of hb3 e2 hz6; have hz8 : w.heap.size < w3.heap.size := Nat.lt_of_lt_of_le hz6 hb3.size; clear hb3; unfold chartV; go_simp)
    refine hK.out _ _ (by exact ⟨e0, e1, e2⟩) (fun hHeld => ?_)
    clear hK K
    (try simp only [Act.put, List.getElem_toArray, List.getElem_cons_zero, List.getElem_cons_succ, List.setIfInBounds_toArray, List.set_cons_zero, List.set_cons_succ])
    refine wpAnyH_take (i := 7) (v := ?_) rfl (by kernel_rfl) (by kernel_rfl) (by kernel_rfl) (fun _ _ _ h => h) (Or.inl ⟨by rfl, ?_⟩) (by assumption) ?_
    rotate_left
    · intro w hSw; (try dsimp only at hSw); go_simp; rw [field_knots]; rfl
    (try simp only [Act.put, List.getElem_toArray, List.getElem_cons_zero, List.getElem_cons_succ, List.setIfInBounds_toArray, List.set_cons_zero, List.set_cons_succ])
    refine wpAnyH_ready (rs := [10]) (by kernel_rfl) (by simp) ?_
    refine AllReadyH.cons rfl (fun K hK => ?_) AllReadyH.nil
    go_simp
    ((with_reducible refine (equal_eq g3 0 _ c3 b off _ c _ B _ xs _ own3.rd R3 hml hl1 (p.same s) HSD.out).mono ?_); rintro e w4 ⟨rfl, hb4⟩; have HB4 := Lib.hid (HB3.out.trans (hb4.mono hz7)); replace e0 := cells_of hb4 e0 hz8; replace e1 := cells_of hb4 e1 hz8; replace e2 := cells_of hb4 e2 hz8; clear hb4; go_simp)
    refine hK.out _ _ (by exact ⟨e0, e1, e2⟩) (fun hHeld => ?_)
    clear hK K
    (try simp only [Act.put, List.getElem_toArray, List.getElem_cons_zero, List.getElem_cons_succ, List.setIfInBounds_toArray, List.set_cons_zero, List.set_cons_succ])
    refine wpAnyH_take (i := 11) (v := ?_) rfl (by kernel_rfl) (by kernel_rfl) (by kernel_rfl) (fun _ _ _ h => h) (Or.inl ⟨by rfl, ?_⟩) (by assumption) ?_
    rotate_left
    · intro w hSw; (try dsimp only at hSw); go_simp; (try with_reducible rfl)
    (try simp only [Act.put, List.getElem_toArray, List.getElem_cons_zero, List.getElem_cons_succ, List.setIfInBounds_toArray, List.set_cons_zero, List.set_cons_succ])
    refine wpAnyH_take (i := 12) (v := ?_) rfl (by kernel_rfl) (by kernel_rfl) (by kernel_rfl) (fun _ _ _ h => h) (Or.inl ⟨by rfl, ?_⟩) (by assumption) ?_
    rotate_left
    · intro w hSw; (try dsimp only at hSw); go_simp; (try with_reducible rfl)
    (try simp only [Act.put, List.getElem_toArray, List.getElem_cons_zero, List.getElem_cons_succ, List.setIfInBounds_toArray, List.set_cons_zero, List.set_cons_succ])
    refine wpAnyH_done (by kernel_rfl) ?_ _
    refine NoPanic.normal ?_
    go_wp2
    go_ret
    exact ⟨rfl, HB4.out⟩
  · have hk0' := not_false hk0
    have HSD := Lib.hid (same_not hk0')
    have hk := hk0'
    rw [← hm, ← hkk] at hk
    rw [← hm, ← hkk, ← hxs] at hb0 h' x0 ⊢
    clear hk0 hm hkk hxs hk0' hml hl1
    go_enter Try.func72, Try.ntmps72
    go_wp2_with fail
    have e0 := x0.cell 0
    have e1 := x0.cell 1
    have e2 := x0.cell 2
    have hz := x0.lt
    have hz1 : w.heap.size ≤ (w.alloc (.cells #[.int .i64 m, .int .i64 k, .slice (some ⟨b, off, none⟩) xs.length c] 26)).heap.size := Nat.le_of_lt hz
    have hz3 : B ≤ (w.alloc (.cells #[.int .i64 m, .int .i64 k, .slice (some ⟨b, off, none⟩) xs.length c] 26)).heap.size := Nat.le_trans hB hz1
    clear x0
    generalize w.alloc (.cells #[.int .i64 m, .int .i64 k, .slice (some ⟨b, off, none⟩) xs.length c] 26) = wv at *
    refine wp_region_noPanic ?_
    refine wp_region_held_drew (S := (fun w' => w'.cell? ⟨w.heap.size, 0, none⟩ = some (.int .i64 m) ∧ w'.cell? ⟨w.heap.size, 1, none⟩ = some (.int .i64 k) ∧ w'.cell? ⟨w.heap.size, 2, none⟩ = some (.slice (some ⟨b, off, none⟩) xs.length c))) (by kernel_rfl) (by go_keep) (fun hHeld => ?_)
    refine wpAnyH_take (i := 0) (v := ?_) rfl (by kernel_rfl) (by kernel_rfl) (by kernel_rfl) (fun _ _ _ h => h) (Or.inl ⟨by rfl, ?_⟩) (by assumption) ?_
    rotate_left
    · intro w hSw; (try dsimp only at hSw); go_simp; (try with_reducible rfl)
    (try simp only [Act.put, List.getElem_toArray, List.getElem_cons_zero, List.setIfInBounds_toArray, List.set_cons_zero, List.set_cons_succ])
    refine wpAnyH_take (i := 1) (v := ?_) rfl (by kernel_rfl) (by kernel_rfl) (by kernel_rfl) (fun _ _ _ h => h) (Or.inl ⟨by rfl, ?_⟩) (by assumption) ?_
    rotate_left
    · intro w hSw; (try dsimp only at hSw); go_simp; (try with_reducible rfl)
    (try simp only [Act.put, List.getElem_toArray, List.getElem_cons_zero, List.getElem_cons_succ, List.setIfInBounds_toArray, List.set_cons_zero, List.set_cons_succ])
    refine wpAnyH_ready (rs := [2]) (by kernel_rfl) (by simp) ?_
    refine AllReadyH.cons rfl (fun K hK => ?_) AllReadyH.nil
    go_simp
    ((with_reducible refine (keepsSize_eq m k s _ _ false hk).mono ?_); rintro e w2 ⟨rfl, hb2⟩; (try replace hb2 := below_drew' hb2); have HB2 := Lib.hid (hb0.out.trans (hb2.mono hz1)); have R2 := h'.out.all hb2 hz3; have hz4 : B ≤ w2.heap.size := Nat.le_trans hz3 hb2.size; have hz5 : w.heap.size ≤ w2.heap.size := Nat.le_trans hz1 hb2.size; replace e0 := cells_of hb2 e0 hz; replace e1 := cells_of hb2 e1 hz; replace e2 := cells_of hb2 e2 hz; have hz6 : w.heap.size < w2.heap.size := Nat.lt_of_lt_of_le hz hb2.size; clear hb2; go_simp)
    refine hK.out _ _ (by exact ⟨e0, e1, e2⟩) (fun hHeld => ?_)
    clear hK K
    (try simp only [Act.put, List.getElem_toArray, List.getElem_cons_zero, List.getElem_cons_succ, List.setIfInBounds_toArray, List.set_cons_zero, List.set_cons_succ])
    refine wpAnyH_take (i := 3) (v := ?_) rfl (by kernel_rfl) (by kernel_rfl) (by kernel_rfl) (fun _ _ _ h => h) (Or.inl ⟨by rfl, ?_⟩) (by assumption) ?_
    rotate_left
    · intro w hSw; (try dsimp only at hSw); go_simp; (try with_reducible rfl)
    (try simp only [Act.put, List.getElem_toArray, List.getElem_cons_zero, List.getElem_cons_succ, List.setIfInBounds_toArray, List.set_cons_zero, List.set_cons_succ])
    refine wpAnyH_take (i := 4) (v := undef) rfl (by kernel_rfl) (by kernel_rfl) (by kernel_rfl) (fun _ _ _ h => h) (Or.inr ⟨by rfl, rfl⟩) (by assumption) ?_
    (try simp only [Act.put, List.getElem_toArray, List.getElem_cons_zero, List.getElem_cons_succ, List.setIfInBounds_toArray, List.set_cons_zero, List.set_cons_succ])
    refine wpAnyH_take (i := 5) (v := undef) rfl (by kernel_rfl) (by kernel_rfl) (by kernel_rfl) (fun _ _ _ h => h) (Or.inr ⟨by rfl, rfl⟩) (by assumption) ?_
    (try simp only [Act.put, List.getElem_toArray, List.getElem_cons_zero, List.getElem_cons_succ, List.setIfInBounds_toArray, List.set_cons_zero, List.set_cons_succ])
    refine wpAnyH_take (i := 6) (v := undef) rfl (by kernel_rfl) (by kernel_rfl) (by kernel_rfl) (fun _ _ _ h => h) (Or.inr ⟨by rfl, rfl⟩) (by assumption) ?_
    (try simp only [Act.put, List.getElem_toArray, List.getElem_cons_zero, List.getElem_cons_succ, List.setIfInBounds_toArray, List.set_cons_zero, List.set_cons_succ])
    refine wpAnyH_take (i := 7) (v := undef) rfl (by kernel_rfl) (by kernel_rfl) (by kernel_rfl) (fun _ _ _ h => h) (Or.inr ⟨by rfl, rfl⟩) (by assumption) ?_
    (try simp only [Act.put, List.getElem_toArray, List.getElem_cons_zero, List.getElem_cons_succ, List.setIfInBounds_toArray, List.set_cons_zero, List.set_cons_succ])
    refine wpAnyH_take (i := 8) (v := undef) rfl (by kernel_rfl) (by kernel_rfl) (by kernel_rfl) (fun _ _ _ h => h) (Or.inr ⟨by rfl, rfl⟩) (by assumption) ?_
    (try simp only [Act.put, List.getElem_toArray, List.getElem_cons_zero, List.getElem_cons_succ, List.setIfInBounds_toArray, List.set_cons_zero, List.set_cons_succ])
    refine wpAnyH_take (i := 9) (v := undef) rfl (by kernel_rfl) (by kernel_rfl) (by kernel_rfl) (fun _ _ _ h => h) (Or.inr ⟨by rfl, rfl⟩) (by assumption) ?_
    (try simp only [Act.put, List.getElem_toArray, List.getElem_cons_zero, List.getElem_cons_succ, List.setIfInBounds_toArray, List.set_cons_zero, List.set_cons_succ])
    refine wpAnyH_take (i := 10) (v := undef) rfl (by kernel_rfl) (by kernel_rfl) (by kernel_rfl) (fun _ _ _ h => h) (Or.inr ⟨by rfl, rfl⟩) (by assumption) ?_
    (try simp only [Act.put, List.getElem_toArray, List.getElem_cons_zero, List.getElem_cons_succ, List.setIfInBounds_toArray, List.set_cons_zero, List.set_cons_succ])
    refine wpAnyH_take (i := 11) (v := ?_) rfl (by kernel_rfl) (by kernel_rfl) (by kernel_rfl) (fun _ _ _ h => h) (Or.inl ⟨by rfl, ?_⟩) (by assumption) ?_
    rotate_left
    · intro w hSw; (try dsimp only at hSw); go_simp; (try with_reducible rfl)
    (try simp only [Act.put, List.getElem_toArray, List.getElem_cons_zero, List.getElem_cons_succ, List.setIfInBounds_toArray, List.set_cons_zero, List.set_cons_succ])
    refine wpAnyH_take (i := 12) (v := ?_) rfl (by kernel_rfl) (by kernel_rfl) (by kernel_rfl) (fun _ _ _ h => h) (Or.inl ⟨by rfl, ?_⟩) (by assumption) ?_
    rotate_left
    · intro w hSw; (try dsimp only at hSw); go_simp; (try with_reducible rfl)
    (try simp only [Act.put, List.getElem_toArray, List.getElem_cons_zero, List.getElem_cons_succ, List.setIfInBounds_toArray, List.set_cons_zero, List.set_cons_succ])
    refine wpAnyH_done (by kernel_rfl) ?_ _
    refine NoPanic.normal ?_
    go_wp2
    go_ret
    exact ⟨ret_bool HSD.out.symm, HB2.out⟩

set_option maxRecDepth 100000 in
set_option maxHeartbeats 1000000 in
theorem l4Same_eq (m k m' k' n c n' c' B B' : Nat) (A A' : Option Addr) (xs ys : List Int) (w : World) (h : Rd w B A n c xs) (h' : Rd w B' A' n' c' ys) (hB : B ≤ w.heap.size) (hB' : B' ≤ w.heap.size) (hl : m' = m → k' = k → ys.length = xs.length) (d : Bool) (hd : decide (m' = m ∧ k' = k ∧ ys = xs) = d) :
    Calls Try.prog 73 #[chartV m k (.slice A n c), chartV m' k' (.slice A' n' c')] w (Out w (.bool d)) := by
  have hb0 := Lib.hid (((Below.refl w.heap.size w).alloc (Nat.le_refl _) (.cells #[.int .i64 m, .int .i64 k, .slice A n c] 26)).alloc (by simp) (.cells #[.int .i64 m', .int .i64 k', .slice A' n' c'] 26))
  have h1 := (h.alloc hB (.cells #[.int .i64 m, .int .i64 k, .slice A n c] 26)).alloc (by simp; omega) (.cells #[.int .i64 m', .int .i64 k', .slice A' n' c'] 26)
  have h2 := (h'.alloc hB' (.cells #[.int .i64 m, .int .i64 k, .slice A n c] 26)).alloc (by simp; omega) (.cells #[.int .i64 m', .int .i64 k', .slice A' n' c'] 26)
  have hn := h.len_lt
  have HD := Lib.hid hd
  clear hd
  by_cases hm : m' = m
  · subst hm
    by_cases hk : k' = k
    · subst hk
      have hle := hl rfl rfl
      obtain rfl := h.len
      obtain rfl := h'.len
      have HLE := Lib.hid hle
      clear h h' hl hle
      have hzz : w.heap.size ≤ ((w.alloc (.cells #[.int .i64 m', .int .i64 k', .slice A xs.length c] 26)).alloc (.cells #[.int .i64 m', .int .i64 k', .slice A' ys.length c'] 26)).heap.size := by simp; omega
      go_enter Try.func73, Try.ntmps73
      go_wp2
      go_loopw [5] (fun i wr => ∃ j q : Nat, j ≤ xs.length ∧ i = .int .i64 j ∧ (∀ t, t < j → ys.getD t 0 = xs.getD t 0) ∧ wr = ((w.alloc (.cells #[.int .i64 m', .int .i64 k', .slice A xs.length c] 26)).alloc (.cells #[.int .i64 m', .int .i64 k', .slice A' ys.length c'] 26)).drewN q) (fun i _ => xs.length - (intOf i).toNat)
      case atStart => exact ⟨0, 0, Nat.zero_le _, rfl, fun t ht => absurd ht (Nat.not_lt_zero _), rfl⟩
      case round =>
        obtain ⟨j, q, hj, rfl, hsame, rfl⟩ := hrel
        have HS := Lib.hid hsame
        clear hsame
        by_cases hlt : j < xs.length
        · have hlt2 : j < ys.length := by rw [HLE.out]; exact hlt
          obtain ⟨b1, o1, x, rfl, _, hx, _, _, HX⟩ := h1.at hlt
          obtain ⟨b2, o2, y, rfl, _, hy, _, _, HY⟩ := h2.at hlt2
          by_cases hxy : x = y
          · subst hxy
            have H := Lib.hid (show ∀ t, t < j + 1 → ys.getD t 0 = xs.getD t 0 from fun t ht => by
              rcases Nat.lt_or_ge t j with e | e
              · exact HS.out t e
              · obtain rfl : t = j := by omega
                rw [HX.out, HY.out])
            go_wp2
            go_quiet (fail)
            go_wp2
            go_roundw
            case rel => exact ⟨j + 1, _, by omega, by go_num, H.out, rfl⟩
            case measure => simp [intOf]; omega
          · have hne : (x != y) = true := by simpa using hxy
            have H := Lib.hid (show d = false by
              rw [← HD.out]
              simp only [true_and, decide_eq_false_iff_not]
              intro e
              have := HX.out
              rw [← e, HY.out] at this
              exact hxy this.symm)
            go_wp2
            go_quiet (fail)
            go_wp2
            go_ret
            exact ⟨ret_bool H.out.symm, by first | exact belowN hb0.out _ | exact belowN (belowN hb0.out _) _⟩
        · have H := Lib.hid (show d = true by
            rw [← HD.out]
            simp only [true_and, decide_eq_true_eq]
            exact list_ext0 HLE.out fun t ht => HS.out t (by rw [HLE.out] at ht; omega))
          go_wp2
          go_ret
          exact ⟨ret_bool H.out.symm, hb0.out.trans ((low_drewN _ _).mono hzz)⟩
    · have H := Lib.hid (show d = false by rw [← HD.out]; simp [hk])
      have hk' : ((k : Int) != (k' : Int)) = true := by simp; omega
      clear h h' h1 h2 hl
      go_enter Try.func73, Try.ntmps73
      go_wp2
      go_ret
      exact ⟨ret_bool H.out.symm, hb0.out⟩
  · have H := Lib.hid (show d = false by rw [← HD.out]; simp [hm])
    have hm' : ((m : Int) != (m' : Int)) = true := by simp; omega
    clear h h' h1 h2 hl
    go_enter Try.func73, Try.ntmps73
    go_wp2
    go_ret
    exact ⟨ret_bool H.out.symm, hb0.out⟩
end Go.Proofs.Ytihgobceahfpiaa
