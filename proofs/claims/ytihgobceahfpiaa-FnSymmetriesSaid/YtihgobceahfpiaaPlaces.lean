/- The walks of the model's l1Has and l4Places: where a symmetry brings each knot. Condition: a valid chart and symmetry. -/
import Derived.Test.YtihgobceahfpiaaCompImpl
import Derived.Deep.DeepCutAuto
namespace Go.Proofs.Ytihgobceahfpiaa
open Go.RowKit

theorem l1Has_eq (A : Option Addr) (n c B : Nat) (xs : List Int) (x : Int) (w : World) (h : Rd w B A n c xs) (d : Bool) (hd : decide (x ∈ xs) = d) :
    Calls Try.prog 97 #[.slice A n c, .int .i64 x] w fun e w' => e = .returned (.bool d) ∧ w = w' := by
  have hn := h.len_lt
  obtain rfl := h.len
  have HD := Lib.hid hd
  clear hd
  go_enter Try.func97, Try.ntmps97
  go_wp2
  go_loopw [5] (fun i wr => ∃ j : Nat, j ≤ xs.length ∧ i = .int .i64 j ∧ Hid (∀ q, q < j → ¬ xs.getD q 0 = x) ∧ wr = w) (fun i _ => xs.length - (intOf i).toNat)
  case atStart => exact ⟨0, Nat.zero_le _, rfl, Lib.hid fun q hq => absurd hq (Nat.not_lt_zero _), rfl⟩
  case round =>
    obtain ⟨j, hj, rfl, HN, rfl⟩ := hrel
    by_cases hlt : j < xs.length
    · obtain ⟨b, off, y, rfl, _, hy, _, _, HY⟩ := h.at hlt
      by_cases hyx : y = x
      · subst hyx
        have H := Lib.hid (show d = true by
          rw [← HD.out, decide_eq_true_eq, ← HY.out, getD_at hlt]
          exact List.getElem_mem hlt)
        go_wp2
        go_ret
        exact ⟨ret_bool H.out.symm, by first | rfl | trivial⟩
      · have hne : (y == x) = false := by simpa using hyx
        have H := Lib.hid (show ∀ q, q < j + 1 → ¬ xs.getD q 0 = x from fun q hq => by
          by_cases e : q = j
          · subst e; rw [HY.out]; exact hyx
          · exact HN.out q (by omega))
        go_wp2
        go_roundw
        case rel => exact ⟨j + 1, by omega, by go_num, H, by first | rfl | trivial⟩
        case measure => simp [intOf]; omega
    · have H := Lib.hid (show d = false by
        rw [← HD.out, decide_eq_false_iff_not]
        intro hm
        obtain ⟨q, hq, e⟩ := List.getElem_of_mem hm
        exact HN.out q (by omega) (by rw [getD_at hq]; exact e))
      go_wp2
      go_ret
      exact ⟨ret_bool H.out.symm, by first | rfl | trivial⟩

/-- make of a slice of zeros, as one step of a region that draws its order. -/
theorem own_made {w : World} {lo n : Nat} {v : Value} (h : w.ownsRow lo 3 1 v n (madeCells #[.int .i64 0] (n * 1)).toList) : Own w lo v (List.replicate n 0) := by
  rw [toList_madeCells_one] at h
  refine ⟨?_, fun x hx => ?_⟩
  · rw [List.length_replicate, List.map_replicate]
    simpa using h
  · rw [List.mem_replicate] at hx
    rw [hx.2]; exact ⟨by omega, by omega⟩
theorem own_made1 {w : World} {lo n : Nat} {v : Value} (h : w.ownsRow lo 3 1 v n (madeCells #[.int .i64 0] n).toList) : Own w lo v (List.replicate n 0) := own_made (by rw [Nat.mul_one]; exact h)
theorem step_make {P : Program} {ops : Array Oper} {o : Oper} {a : Act} {w : World} {K : Act → World → Prop} {Q : Exit → Act → World → Prop} {E : Prop} (hgd : o.guard = none) (l c : Operand) (t : TypeId) (hop : o.op = Op.makeSlice t l c)
    (ht : P.underlying t = some (.slice 3)) (hinfo : (P.info? 3).map (fun i => (i.zero, i.size, i.bytes)) = some (some (.int .i64 0), 1, 8)) (lo n : Nat) (hl : a.eval l = .int .i64 n) (hc : a.eval c = .int .i64 n) (hn : n ≤ 1048576) (hlo : lo ≤ w.heap.size)
    (h : ∀ w', Own w' lo (.slice (some ⟨w.heap.size, 0, none⟩) n n) (List.replicate n 0) → w.grownBy w' none → K (a.put o.dst (.slice (some ⟨w.heap.size, 0, none⟩) n n)) w') :
    if Region.wanted o (yielded ops a.tmps) = true then Oper.wp P o a w K Q else E := by
  rw [if_pos (show Region.wanted o (yielded ops a.tmps) = true by simp [Region.wanted, hgd])]
  obtain ⟨i0, hi, hz0, hz1, hz2⟩ := info_parts hinfo
  obtain ⟨w', hrun, r1, r2⟩ := run_make_full (P := P) w lo t 3 i0 (.int .i64 0) 1 ht hi hz0 hz1 .i64 .i64 n (by rw [hz2]; omega) (by unfold maxLen; omega) hlo
  unfold Oper.wp
  simp [execOp, hop, hl, hc, hrun, Result.andThen]
  exact h w' (own_made r1) r2

/-- A chart with a mark. -/
def markL (n i : Nat) : List Int := (List.replicate n 0).set i 1
theorem markL_len (n i : Nat) : (markL n i).length = n := by simp [markL]
theorem markL_get {n i q : Nat} (hq : q < n) : (markL n i).getD q 0 = if q = i then 1 else 0 := by
  unfold markL
  by_cases e : i = q
  · subst e
    rw [List.getD_eq_getElem?_getD, List.getElem?_set_self (by simpa using hq), if_pos rfl]; rfl
  · rw [List.getD_eq_getElem?_getD, List.getElem?_set_ne e, if_neg (fun h => e h.symm), List.getElem?_replicate, if_pos hq]; rfl
/-- The first i places are found. -/
def FoundTo (f : Nat → Nat) (n i t : Nat) (zs : List Int) : Prop := zs.length = n ∧ (∀ q, q < i → zs.getD q 0 = ((f q : Nat) : Int)) ∧ (f i < t → zs.getD i 0 = ((f i : Nat) : Int))
theorem found_next {f : Nat → Nat} {n i : Nat} {zs : List Int} (h : FoundTo f n i n zs) (hf : f i < n) : FoundTo f n (i + 1) 0 zs :=
  ⟨h.1, fun q hq => by
    by_cases e : q = i
    · subst e; exact h.2.2 hf
    · exact h.2.1 q (by omega), fun h0 => absurd h0 (Nat.not_lt_zero _)⟩
theorem found_hit {f : Nat → Nat} {n i t : Nat} {zs : List Int} (h : FoundTo f n i t zs) (hi : i < n) (e : f i = t) : FoundTo f n i (t + 1) (zs.set i (t : Int)) := by
  refine ⟨by rw [List.length_set]; exact h.1, fun q hq => ?_, fun _ => ?_⟩
  · rw [List.getD_eq_getElem?_getD, List.getElem?_set_ne (by omega), ← List.getD_eq_getElem?_getD]
    exact h.2.1 q hq
  · rw [List.getD_eq_getElem?_getD, List.getElem?_set_self (by rw [h.1]; exact hi), e]; rfl
theorem found_miss {f : Nat → Nat} {n i t : Nat} {zs : List Int} (h : FoundTo f n i t zs) (e : f i ≠ t) : FoundTo f n i (t + 1) zs :=
  ⟨h.1, h.2.1, fun h0 => h.2.2 (by omega)⟩
theorem found_end {f : Nat → Nat} {n : Nat} {zs : List Int} (h : FoundTo f n n 0 zs) : zs = orgL f n :=
  list_ext0 (by rw [orgL_len, h.1]) fun q hq => by rw [h.1] at hq; rw [orgL_get hq, h.2.1 q hq]
/-- Where a symmetry brings a knot. -/
def dest (m k s p : Nat) : Nat := org m k s (org m k s (org m k s p))
theorem dest_iff {m k s n p t : Nat} (h : Ring4 n (org m k s)) (hp : p < n) (ht : t < n) : org m k s t = p ↔ dest m k s p = t := by
  constructor
  · intro e; unfold dest; rw [← e]; exact h.four t ht
  · intro e; rw [← e]; exact h.four p hp
theorem ringn {n : Nat} {g : Nat → Nat} (h : Ring4 n g) : Ring4 n fun p => g (g (g p)) := h.inv fun _ _ => rfl
set_option maxRecDepth 100000 in
set_option maxHeartbeats 8000000 in
theorem l4Places_any (m k b off cc s : Nat) (xs : List Int) (w : World) (hok : (⟨m, k, xs⟩ : Pic).Ok) (hs7 : s ≤ 7) (hg : Ring4 xs.length (org m k s)) :
    Calls Try.prog 96 #[chartV m k (.slice (some ⟨b, off, none⟩) xs.length cc), .int .i64 s] w (OwnCopy w (orgL (dest m k s) xs.length)) := by
  obtain ⟨i0, hi, hz0, hz1, hz2⟩ := info_parts info_int
  have hb0 := Lib.hid ((Below.refl w.heap.size w).alloc (Nat.le_refl _) (.cells #[.int .i64 m, .int .i64 k, .slice (some ⟨b, off, none⟩) xs.length cc] 26))
  have x0 := Blk.new w #[.int .i64 m, .int .i64 k, .slice (some ⟨b, off, none⟩) xs.length cc] 26
  obtain ⟨hx64, hl1⟩ : xs.length ≤ 64 ∧ 1 ≤ xs.length := hok.len
  have hlen := Lib.hid (show xs.length = m * k from hok.2.2.2.2)
  have hfl := Lib.hid (show ∀ p, p < xs.length → dest m k s p < xs.length from fun p hp => hg.lt _ (hg.lt _ (hg.lt p hp)))
  go_enter Try.func96, Try.ntmps96
  go_wp2_with (at_make; refine wpList_make_full _ rfl _ _ 24 rfl w.heap.size 3 i0 (.int .i64 0) 1 Try.underlying24 hi hz0 hz1 _ _ _ _ xs.length rfl rfl rfl rfl (by rw [hz2]; omega) (by unfold maxLen; omega) (by simp) ?_)
  intro w1 hown0 hg0
  have own0 := own_made1 hown0
  have x1 := x0.mark hg0 (fun z hz => by cases hz)
  have HB1 := Lib.hid (hb0.out.grown hg0 (by simp) (fun z hz => by cases hz))
  have hsz := x1.lt
  have hgo := (own0.bd _ rfl).2
  clear hown0 hg0 x0 hb0
  go_wp2
  go_loopw [6, 7, 8, 9] (fun s6 _ _ _ wr => ∃ (i : Nat) (zs : List Int), i ≤ xs.length ∧ s6 = .int .i64 i ∧ Hid (FoundTo (dest m k s) xs.length i 0 zs) ∧ Own wr w.heap.size (.slice (some ⟨w.heap.size + 1, 0, none⟩) xs.length xs.length) zs ∧
      Blk wr w.heap.size 26 #[.int .i64 m, .int .i64 k, .slice (some ⟨b, off, none⟩) xs.length cc] ∧ Below w.heap.size w wr)
    (fun s6 _ _ _ _ => xs.length - (intOf s6).toNat)
  case atStart => exact ⟨0, _, Nat.zero_le _, rfl, Lib.hid ⟨List.length_replicate, fun q hq => absurd hq (Nat.not_lt_zero _), fun h0 => absurd h0 (Nat.not_lt_zero _)⟩, own0, x1, HB1.out⟩
  case round =>
    obtain ⟨i, zs, hi', rfl, hfd, ho, x2, hbl⟩ := hrel
    have HB2 := Lib.hid hbl
    have hbz := hbl.size
    have hxw := x2.lt
    have hgo2 := (ho.bd _ rfl).2
    have e0 := x2.cell 0
    have e1 := x2.cell 1
    have e2 := x2.cell 2
    clear hbl own0 x1 HB1 hsz hgo
    by_cases hlt : i < xs.length
    · go_wp2
      go_cut [7] (fun s7 wx => ∃ (q g : Nat), s7 = .pointer (some ⟨q, 0, none⟩) ∧ wr.heap.size ≤ q ∧ wr.heap.size ≤ g ∧ Blk wx q 26 #[.int .i64 m, .int .i64 k, .slice (some ⟨g, 0, none⟩) xs.length xs.length] ∧ Own wx wr.heap.size (.slice (some ⟨g, 0, none⟩) xs.length xs.length) (List.replicate xs.length 0) ∧ Below wr.heap.size wr wx)
      case first =>
        refine wp_region_noPanic ?_
        refine wp_region_held_drew (S := (fun w' => w'.cell? ⟨w.heap.size, 0, none⟩ = some (.int .i64 m) ∧ w'.cell? ⟨w.heap.size, 1, none⟩ = some (.int .i64 k) ∧ w'.cell? ⟨w.heap.size, 2, none⟩ = some (.slice (some ⟨b, off, none⟩) xs.length cc))) (by kernel_rfl) (by go_keep) (fun hHeld => ?_)
        refine wpAnyH_take (i := 0) (v := ?_) rfl (by kernel_rfl) (by kernel_rfl) (by kernel_rfl) (fun _ _ _ h => h) (Or.inl ⟨by rfl, ?_⟩) (by assumption) ?_
        rotate_left
        · intro w hSw; (try dsimp only at hSw); go_simp; (try with_reducible rfl)
        (try simp only [Act.put, List.getElem_toArray, List.getElem_cons_zero, List.setIfInBounds_toArray, List.set_cons_zero, List.set_cons_succ])
        refine wpAnyH_take (i := 1) (v := ?_) rfl (by kernel_rfl) (by kernel_rfl) (by kernel_rfl) (fun _ _ _ h => h) (Or.inl ⟨by rfl, ?_⟩) (by assumption) ?_
        rotate_left
        · intro w hSw; (try dsimp only at hSw); go_simp; (try with_reducible rfl)
        (try simp only [Act.put, List.getElem_toArray, List.getElem_cons_zero, List.getElem_cons_succ, List.setIfInBounds_toArray, List.set_cons_zero, List.set_cons_succ])
        refine wpAnyH_take (i := 2) (v := ?_) rfl (by kernel_rfl) (by kernel_rfl) (by kernel_rfl) (fun _ _ _ h => h) (Or.inl ⟨by rfl, ?_⟩) (by assumption) ?_
        rotate_left
        · intro w hSw; (try dsimp only at hSw); go_simp; (try with_reducible rfl)
        (try simp only [Act.put, List.getElem_toArray, List.getElem_cons_zero, List.getElem_cons_succ, List.setIfInBounds_toArray, List.set_cons_zero, List.set_cons_succ])
        refine wpAnyH_take (i := 3) (v := ?_) rfl (by kernel_rfl) (by kernel_rfl) (by kernel_rfl) (fun _ _ _ h => h) (Or.inl ⟨by rfl, ?_⟩) (by assumption) ?_
        rotate_left
        · intro w hSw; (try dsimp only at hSw); go_simp; (try with_reducible rfl)
        (try simp only [Act.put, List.getElem_toArray, List.getElem_cons_zero, List.getElem_cons_succ, List.setIfInBounds_toArray, List.set_cons_zero, List.set_cons_succ])
        refine wpAnyH_take (i := 4) (v := ?_) rfl (by kernel_rfl) (by kernel_rfl) (by kernel_rfl) (fun _ _ _ h => h) (Or.inl ⟨by rfl, ?_⟩) (by assumption) ?_
        rotate_left
        · intro w hSw; (try dsimp only at hSw); go_simp; (try with_reducible rfl)
        (try simp only [Act.put, List.getElem_toArray, List.getElem_cons_zero, List.getElem_cons_succ, List.setIfInBounds_toArray, List.set_cons_zero, List.set_cons_succ])
        refine wpAnyH_take (i := 5) (v := ?_) rfl (by kernel_rfl) (by kernel_rfl) (by kernel_rfl) (fun _ _ _ h => h) (Or.inl ⟨by rfl, ?_⟩) (by assumption) ?_
        rotate_left
        · intro w hSw; (try dsimp only at hSw); go_simp; (try with_reducible rfl)
        (try simp only [Act.put, List.getElem_toArray, List.getElem_cons_zero, List.getElem_cons_succ, List.setIfInBounds_toArray, List.set_cons_zero, List.set_cons_succ])
        refine wpAnyH_take (i := 6) (v := ?_) rfl (by kernel_rfl) (by kernel_rfl) (by kernel_rfl) (fun _ _ _ h => h) (Or.inl ⟨by rfl, ?_⟩) (by assumption) ?_
        rotate_left
        · intro w hSw; (try dsimp only at hSw); go_simp; (try with_reducible rfl)
        (try simp only [Act.put, List.getElem_toArray, List.getElem_cons_zero, List.getElem_cons_succ, List.setIfInBounds_toArray, List.set_cons_zero, List.set_cons_succ])
        have HB0 := belowD (Below.refl wr.heap.size wr)
        clear hHeld
        refine wpAnyH_ready (rs := [7, 9]) (by kernel_rfl) (by simp) ?_
        refine AllReadyH.cons rfl (fun K hK => ?_) ?_
        · refine step_make rfl (.tmp 27) (.tmp 27) 24 rfl Try.underlying24 info_int wr.heap.size xs.length rfl rfl (by omega) HB0.size ?_
          intro wa oa hga
          have HB1 := HB0.grown hga HB0.size (fun z hz => by cases hz)
          refine hK.out _ _ (by exact ⟨cells_of HB1 e0 hxw, cells_of HB1 e1 hxw, cells_of HB1 e2 hxw⟩) (fun hHeld => ?_)
          clear hK K
          (try simp only [Act.put, List.getElem_toArray, List.getElem_cons_zero, List.getElem_cons_succ, List.setIfInBounds_toArray, List.set_cons_zero, List.set_cons_succ])
          refine wpAnyH_take (i := 8) (v := ?_) rfl (by kernel_rfl) (by kernel_rfl) (by kernel_rfl) (fun _ _ _ h => h) (Or.inl ⟨by rfl, ?_⟩) (by assumption) ?_
          rotate_left
          · intro w hSw; (try dsimp only at hSw); go_simp; (try with_reducible rfl)
          (try simp only [Act.put, List.getElem_toArray, List.getElem_cons_zero, List.getElem_cons_succ, List.setIfInBounds_toArray, List.set_cons_zero, List.set_cons_succ])
          clear hHeld
          refine wpAnyH_ready (rs := [9]) (by kernel_rfl) (by simp) ?_
          refine AllReadyH.cons rfl (fun K hK => ?_) AllReadyH.nil
          go_simp
          have HB2 := HB1.alloc HB1.size (.cells #[.int .i64 0, .int .i64 0, .slice none 0 0] 26)
          refine hK.out _ _ (by exact ⟨cells_of HB2 e0 hxw, cells_of HB2 e1 hxw, cells_of HB2 e2 hxw⟩) (fun hHeld => ?_)
          clear hK K hHeld
          (try simp only [Act.put, List.getElem_toArray, List.getElem_cons_zero, List.getElem_cons_succ, List.setIfInBounds_toArray, List.set_cons_zero, List.set_cons_succ])
          refine wpAnyH_ready (rs := [10]) (by kernel_rfl) (by simp) ?_
          refine AllReadyH.cons rfl (fun K hK => ?_) AllReadyH.nil
          go_simp
          have HB3 := HB1.alloc HB1.size (.cells #[.int .i64 m, .int .i64 k, .slice (some ⟨wr.heap.size, 0, none⟩) xs.length xs.length] 26)
          have oa3 := oa.alloc (.cells #[.int .i64 m, .int .i64 k, .slice (some ⟨wr.heap.size, 0, none⟩) xs.length xs.length] 26)
          have q3 := Blk.new wa #[.int .i64 m, .int .i64 k, .slice (some ⟨wr.heap.size, 0, none⟩) xs.length xs.length] 26
          refine hK.out _ _ (by exact ⟨cells_of HB3 e0 hxw, cells_of HB3 e1 hxw, cells_of HB3 e2 hxw⟩) (fun hHeld => ?_)
          clear hK K hHeld
          (try simp only [Act.put, List.getElem_toArray, List.getElem_cons_zero, List.getElem_cons_succ, List.setIfInBounds_toArray, List.set_cons_zero, List.set_cons_succ])
          refine wpAnyH_done (by kernel_rfl) ?_ _
          refine NoPanic.normal ?_
          go_wp2_with fail
          go_meet
          exact ⟨_, _, rfl, HB1.size, Nat.le_refl _, q3, oa3, HB3⟩
        refine AllReadyH.cons rfl (fun K hK => ?_) AllReadyH.nil
        go_simp
        have HB1 := HB0.alloc HB0.size (.cells #[.int .i64 0, .int .i64 0, .slice none 0 0] 26)
        have q1 : Blk _ wr.heap.size _ _ := Blk.new wr.drew #[.int .i64 0, .int .i64 0, .slice none 0 0] 26
        refine hK.out _ _ (by exact ⟨cells_of HB1 e0 hxw, cells_of HB1 e1 hxw, cells_of HB1 e2 hxw⟩) (fun hHeld => ?_)
        clear hK K hHeld
        (try simp only [Act.put, List.getElem_toArray, List.getElem_cons_zero, List.getElem_cons_succ, List.setIfInBounds_toArray, List.set_cons_zero, List.set_cons_succ])
        refine wpAnyH_ready (rs := [7]) (by kernel_rfl) (by simp) ?_
        refine AllReadyH.cons rfl (fun K hK => ?_) AllReadyH.nil
        refine step_make rfl (.tmp 27) (.tmp 27) 24 rfl Try.underlying24 info_int wr.heap.size xs.length rfl rfl (by omega) HB1.size ?_
        intro wa oa hga
        have HB2 := HB1.grown hga HB1.size (fun z hz => by cases hz)
        have q2 := q1.mark hga (fun z hz => by cases hz)
        refine hK.out _ _ (by exact ⟨cells_of HB2 e0 hxw, cells_of HB2 e1 hxw, cells_of HB2 e2 hxw⟩) (fun hHeld => ?_)
        clear hK K
        (try simp only [Act.put, List.getElem_toArray, List.getElem_cons_zero, List.getElem_cons_succ, List.setIfInBounds_toArray, List.set_cons_zero, List.set_cons_succ])
        refine wpAnyH_take (i := 8) (v := ?_) rfl (by kernel_rfl) (by kernel_rfl) (by kernel_rfl) (fun _ _ _ h => h) (Or.inl ⟨by rfl, ?_⟩) (by assumption) ?_
        rotate_left
        · intro w hSw; (try dsimp only at hSw); go_simp; (try with_reducible rfl)
        (try simp only [Act.put, List.getElem_toArray, List.getElem_cons_zero, List.getElem_cons_succ, List.setIfInBounds_toArray, List.set_cons_zero, List.set_cons_succ])
        clear hHeld
        have zz0 := q2.cell 0
        have zz1 := q2.cell 1
        have zz2 := q2.cell 2
        have zf0 := q2.frozen 0
        have zf1 := q2.frozen 1
        have zf2 := q2.frozen 2
        refine wpAnyH_ready (rs := [10]) (by kernel_rfl) (by simp) ?_
        refine AllReadyH.cons rfl (fun K hK => ?_) AllReadyH.nil
        go_simp
        replace oa : Own wa wr.heap.size (.slice (some ⟨wr.heap.size + 1, 0, none⟩) xs.length xs.length) (List.replicate xs.length 0) := by simpa using oa
        have hne := row_ne' oa.1 q2 (by decide)
        have HB3 := ((HB2.setCell (p := ⟨wr.heap.size, 0, none⟩) (Nat.le_refl _) (.int .i64 m)).setCell (p := ⟨wr.heap.size, 1, none⟩) (Nat.le_refl _) (.int .i64 k)).setCell (p := ⟨wr.heap.size, 2, none⟩) (Nat.le_refl _) (.slice (some ⟨wr.heap.size + 1, 0, none⟩) xs.length xs.length)
        have oa3 := ((oa.far (a := ⟨wr.heap.size, 0, none⟩) hne (.int .i64 m)).far (a := ⟨wr.heap.size, 1, none⟩) hne (.int .i64 k)).far (a := ⟨wr.heap.size, 2, none⟩) hne (.slice (some ⟨wr.heap.size + 1, 0, none⟩) xs.length xs.length)
        have q3 : Blk _ _ _ #[.int .i64 m, .int .i64 k, .slice (some ⟨wr.heap.size + 1, 0, none⟩) xs.length xs.length] := q2.put3
        refine hK.out _ _ (by exact ⟨cells_of HB3 e0 hxw, cells_of HB3 e1 hxw, cells_of HB3 e2 hxw⟩) (fun hHeld => ?_)
        clear hK K hHeld
        (try simp only [Act.put, List.getElem_toArray, List.getElem_cons_zero, List.getElem_cons_succ, List.setIfInBounds_toArray, List.set_cons_zero, List.set_cons_succ])
        refine wpAnyH_done (by kernel_rfl) ?_ _
        refine NoPanic.normal ?_
        go_wp2_with fail
        go_meet
        exact ⟨_, _, rfl, Nat.le_refl _, Nat.le_succ _, q3, oa3, HB3⟩
      case rest =>
        obtain ⟨q, g, rfl, hq, hgw, Q, M, hb⟩ := hcut
        obtain ⟨wd, hwd⟩ : ∃ wd, wd = wc := ⟨_, rfl⟩
        subst hwd
        have ho3 := ho.all hb
        have x3 := x2.all hb
        have HB3 := Lib.hid (HB2.out.trans (hb.mono hbz))
        have hz3 : wr.heap.size ≤ wd.heap.size := hb.size
        clear hb ho x2 HB2 e0 e1 e2
        have hold := own_at M (j := i) (x := 0) (by rw [List.length_replicate]; exact hlt) (by rw [List.getD_eq_getElem?_getD, List.getElem?_replicate, if_pos hlt]; rfl)
        obtain ⟨hfz, M4, hg4⟩ := own_put M i 1 ⟨by omega, by omega⟩
        have q2 := Q.cell 2
        have Q4 := Q.mark hg4 (row_ne M.1 Q (by decide))
        have ho4 := ho3.mark hg4 (fun z z' hz hz' => by cases hz; simp [Value.ownBlock] at hz'; omega)
        have x4 := x3.mark hg4 (fun z hz => by cases hz; omega)
        have HB4 := Lib.hid (HB3.out.setCell (p := ⟨g, i, none⟩) (show w.heap.size ≤ g by omega) (.int .i64 1))
        have hz4 : wd.heap.size ≤ (wd.setCell ⟨g, i, none⟩ (.int .i64 1)).heap.size := hg4.size
        change Own _ _ _ (markL xs.length i) at M4
        have HML := Lib.hid (markL_len xs.length i)
        have hmok : (⟨m, k, markL xs.length i⟩ : Pic).Ok := ⟨hok.1, hok.2.1, hok.2.2.1, hok.2.2.2.1, (markL_len _ _).trans hok.2.2.2.2⟩
        have ord : Rd (wd.setCell ⟨g, i, none⟩ (.int .i64 1)) (wd.setCell ⟨g, i, none⟩ (.int .i64 1)).heap.size (some ⟨g, 0, none⟩) (markL xs.length i).length xs.length (markL xs.length i) := by rw [HML.out]; exact M4.rd
        have q40 := Q4.cell 0
        have q41 := Q4.cell 1
        have q42 := Q4.cell 2
        have e40 := x4.cell 0
        have e41 := x4.cell 1
        have e42 := x4.cell 2
        have hqz := Q4.lt
        clear Q M ho3 x3 HB3
        go_wp2_with fail
        rw [show (Value.slice (some ⟨g, 0, none⟩) xs.length xs.length) = .slice (some ⟨g, 0, none⟩) (markL xs.length i).length xs.length by rw [HML.out]]
        refine (l4Move_any m k g 0 xs.length _ s (markL xs.length i) _ ord (Nat.le_refl _) hmok hs7).mono ?_
        rintro e w5 ⟨A5, c5, rfl, own5, hb⟩
        have hyl : ((⟨m, k, markL xs.length i⟩ : Pic).move s).xs.length = xs.length := (move_len hmok).trans hlen.out.symm
        have hyv : ∀ t, t < xs.length → ((⟨m, k, markL xs.length i⟩ : Pic).move s).xs.getD t 0 = if org m k s t = i then 1 else 0 := fun t ht => by
          rw [move_get (by rw [← hlen.out]; exact ht), markL_get (hg.lt t ht)]
        generalize ((⟨m, k, markL xs.length i⟩ : Pic).move s).xs = ys at *
        generalize ((⟨m, k, markL xs.length i⟩ : Pic).move s).m = ym at *
        generalize ((⟨m, k, markL xs.length i⟩ : Pic).move s).k = yk at *
        obtain ⟨g5, rfl, hg51, hg52⟩ := own5.some_ (by omega)
        have HYL := Lib.hid hyl
        have HYV := Lib.hid hyv
        have ho5 := ho4.all hb
        have x5 := x4.all hb
        have HB5 := Lib.hid (HB4.out.trans (hb.mono (by omega)))
        have hz5 : wd.heap.size ≤ w5.heap.size := Nat.le_trans hz4 hb.size
        have Y5 := own5.rd
        have hgo5 : w.heap.size + 1 < w5.heap.size := by omega
        clear hb ho4 x4 HB4 Q4 M4 ord hyl hyv q40 q41 q42 e40 e41 e42
        have y6 := Blk.new w5 #[.int .i64 ym, .int .i64 yk, .slice (some ⟨g5, 0, none⟩) ys.length c5] 26
        have ho6 := ho5.alloc (.cells #[.int .i64 ym, .int .i64 yk, .slice (some ⟨g5, 0, none⟩) ys.length c5] 26)
        have x6 := x5.alloc (.cells #[.int .i64 ym, .int .i64 yk, .slice (some ⟨g5, 0, none⟩) ys.length c5] 26)
        have Y6 := Y5.alloc (Nat.le_refl _) (.cells #[.int .i64 ym, .int .i64 yk, .slice (some ⟨g5, 0, none⟩) ys.length c5] 26)
        have HB6 := Lib.hid (HB5.out.alloc (by omega) (.cells #[.int .i64 ym, .int .i64 yk, .slice (some ⟨g5, 0, none⟩) ys.length c5] 26))
        clear ho5 x5 HB5 Y5 own5
        go_wp2
        go_loopw [9] (fun s9 wx => ∃ (t : Nat) (zs : List Int), t ≤ xs.length ∧ s9 = .int .i64 t ∧ Hid (FoundTo (dest m k s) xs.length i t zs) ∧ Own wx w.heap.size (.slice (some ⟨w.heap.size + 1, 0, none⟩) xs.length xs.length) zs ∧
            Blk wx w.heap.size 26 #[.int .i64 m, .int .i64 k, .slice (some ⟨b, off, none⟩) xs.length cc] ∧ Blk wx w5.heap.size 26 #[.int .i64 ym, .int .i64 yk, .slice (some ⟨g5, 0, none⟩) ys.length c5] ∧ (∀ j, j < ys.length → wx.cell? ⟨g5, 0 + j, none⟩ = some (.int .i64 (ys.getD j 0))) ∧ Below w.heap.size w wx)
          (fun s9 _ => xs.length - (intOf s9).toNat)
        case atStart =>
          refine ⟨0, zs, Nat.zero_le _, rfl, hfd, ho6, x6, y6, ?_, HB6.out⟩
          obtain ⟨_, _, e, _, hc⟩ := Y6.cells (by rw [HYL.out]; omega)
          cases e
          exact hc
        case round =>
          obtain ⟨t, zs3, ht, rfl, hfd3, ho7, x7, y7, hy7, hbl⟩ := hrel
          have HB7 := Lib.hid hbl
          have hz7 := hbl.size
          have y72 := y7.cell 2
          have HY7 := Lib.hid hy7
          clear hbl hy7 ho6 x6 y6 Y6 HB6
          by_cases htl : t < xs.length
          · have htl2 : t < ys.length := by rw [HYL.out]; exact htl
            have hyt := HY7.out t htl2
            rw [HYV.out t htl, Nat.zero_add] at hyt
            by_cases hot : org m k s t = i
            · rw [if_pos hot] at hyt
              have hdt : dest m k s i = t := (dest_iff hg hlt htl).1 hot
              have HF := Lib.hid (found_hit hfd3.out hlt hdt)
              have hz3l : zs3.length = xs.length := hfd3.out.1
              obtain ⟨old, HO⟩ : ∃ y, Hid (zs3.getD i 0 = y) := ⟨_, rfl⟩
              have hold7 := own_at ho7 (by rw [hz3l]; exact hlt) HO.out
              obtain ⟨hfz7, ho8, hg8⟩ := own_put ho7 i (t : Int) ⟨by omega, by omega⟩
              have x8 := x7.mark hg8 (fun z hz => by cases hz; omega)
              have y8 := y7.mark hg8 (row_ne ho7.1 y7 (by decide))
              have HY8 : ∀ j, j < ys.length → (wr.setCell ⟨w.heap.size + 1, i, none⟩ (.int .i64 t)).cell? ⟨g5, 0 + j, none⟩ = some (.int .i64 (ys.getD j 0)) := fun j hj => (World.cell?_setCell_other _ _ _ _ (by first | (simp; done) | (simp; omega))).trans (HY7.out j hj)
              have HH8 := Lib.hid HY8
              have HB8 := Lib.hid (HB7.out.setCell (p := ⟨w.heap.size + 1, i, none⟩) (by simp) (.int .i64 t))
              clear hot hz3l HY8
              go_wp2
              go_roundw
              case rel => exact ⟨t + 1, _, by omega, by go_num, HF, ho8, x8, y8, HH8.out, HB8.out⟩
              case measure => simp [intOf]; omega
            · rw [if_neg hot] at hyt
              have hdt : dest m k s i ≠ t := fun e => hot ((dest_iff hg hlt htl).2 e)
              have HF := Lib.hid (found_miss hfd3.out hdt)
              go_wp2
              go_roundw
              case rel => exact ⟨t + 1, _, by omega, by go_num, HF, ho7, x7, y7, HY7.out, HB7.out⟩
              case measure => simp [intOf]; omega
          · obtain rfl : t = xs.length := by omega
            have hend : ¬ xs.length < ys.length := by rw [HYL.out]; omega
            have HF := Lib.hid (found_next hfd3.out (hfl.out i hlt))
            go_wp2
            go_roundw
            case rel => exact ⟨i + 1, zs3, by omega, by go_num, HF, ho7, x7, HB7.out⟩
            case measure => simp [intOf]; omega
    · obtain rfl : i = xs.length := by omega
      have hfe := found_end hfd.out
      subst hfe
      go_wp2
      go_ret
      exact ⟨some ⟨w.heap.size + 1, 0, none⟩, xs.length, by rw [orgL_len]; rfl, by rw [orgL_len]; exact ho, HB2.out⟩
end Go.Proofs.Ytihgobceahfpiaa
