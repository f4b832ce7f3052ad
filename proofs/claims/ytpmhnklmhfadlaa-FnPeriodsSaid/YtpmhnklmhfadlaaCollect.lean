/- The walk of slices.Collect over slices.Chunk: the rows of a chart as a list. Condition: whole rows. -/
import Derived.Test.YtpmhnklmhfadlaaChunk
import Derived.Test.YtpmhnklmhfadlaaMgSeq
namespace Go.Proofs.Ytpmhnklmhfadlaa
open Go.RowKit Go.Shelf
attribute [local go_sem] Oper.semAt_some

theorem info_Sli : (Try.prog.info? 24).map (fun i => (i.zero, i.size, i.bytes)) = some (some (.slice none 0 0), 1, 24) := by kernel_rfl
theorem sli_flat (xs : List SlR) : xs.flatMap sliF.enc = xs.map fun x : SlR => Value.slice x.A x.n x.c := by
  rw [List.map_eq_flatMap]; rfl
theorem keeps_below {W W' : World} (h : Below W.heap.size W W') : KeepsOthers W W' := ⟨h.size, fun k _ hk _ => (h.block k (Array.getElem?_eq_some_iff.1 hk).1).trans hk⟩
theorem row_low {w : World} {base lo e size n : Nat} {v : Value} {xs : List Value} (h : w.ownsRow base e size v n xs) (hl : lo ≤ base) : w.ownsRow lo e size v n xs := by
  refine ⟨h.1, ?_⟩
  rcases h.2 with h0 | ⟨g, cap, cur, hv, hb, r⟩
  · exact .inl h0
  · exact .inr ⟨g, cap, cur, hv, Nat.le_trans hl hb, r⟩
/-- What the store of the longer list leaves: the variable's box p, the row beyond it. -/
theorem app1 {w1 w2 : World} {p k m : Nat} {v v' : Value} {xs ys : List Value} {tmp : Obj} (hv1 : Boxed w1 p 70 v) (hrow1 : w1.ownsRow (p + 1) 24 1 v k xs) (hz : p + 1 ≤ w1.heap.size)
    (hown' : w2.ownsRow (p + 1) 24 1 v' m ys) (hgrow : (w1.alloc tmp).grownBy w2 v.ownBlock) :
    Boxed w2 p 70 v ∧ Boxed (w2.setCell ⟨p, 0, none⟩ v') p 70 v' ∧ (w2.setCell ⟨p, 0, none⟩ v').ownsRow (p + 1) 24 1 v' m ys ∧ KeepsOthers w1 (w2.setCell ⟨p, 0, none⟩ v') ∧ Below p w1 (w2.setCell ⟨p, 0, none⟩ v') := by
  obtain ⟨a1, a2, _, a4, a5⟩ := hv1.appended (by decide) (row_low hrow1 (show p ≤ p + 1 by omega)) (by omega) (Nat.le_refl _) (row_low hown' (show p ≤ p + 1 by omega)) hgrow
  exact ⟨a1, a2, hown'.kept (grownBy_setCell' w2 p v') (.inr (a1.not_row (by decide) hown').symm), a4, a5⟩
theorem ownsRow_form {w : World} {lo e size n : Nat} {v : Value} {xs : List Value} (h : w.ownsRow lo e size v n xs) : ∃ A c, v = .slice A n c := by
  rcases h.2 with ⟨rfl, h0⟩ | ⟨g, cap, cur, rfl, _⟩
  · have := h0
    exact ⟨none, 0, by simp_all⟩
  · exact ⟨_, _, rfl⟩
set_option maxRecDepth 100000 in
set_option maxHeartbeats 4000000 in
theorem appendSeq_any (p b off N c m k : Nat) (m1 : 1 ≤ m) (m8 : m ≤ 8) (k8 : k ≤ 8) (hN : Hid (N = k * m)) (hc : N ≤ c) (w : World) (hp : p + 1 < w.heap.size) (h1 : Blk w p 24 #[.slice (some ⟨b, off, none⟩) N c]) (h2 : Blk w (p + 1) 3 #[.int .i64 m]) :
    Calls Try.prog 84 #[.slice none 0 0, .func (.func 85) #[] #[.pointer (some ⟨p, 0, none⟩), .pointer (some ⟨p + 1, 0, none⟩)]] w fun e w' => ∃ A c', e = .returned (.slice A k c') ∧ OwnF sliF w' w.heap.size (.slice A k c') (chunkL b off m k) ∧ Below w.heap.size w w' := by
  refine (callsIn_wide (n := 3)).1 ?_
  refine callsIn_of_wp_marks Try.func84 rfl trivial ?_ rfl
  simp only [Try.ntmps84, List.size_toArray, List.length_cons, List.length_nil, Nat.reduceAdd, Nat.reduceSub, Array.replicate_succ, Array.replicate_zero, List.push_toArray, List.append_toArray, List.nil_append, List.cons_append]
  gi_wp2
  obtain ⟨i0, hi, hz0, hz1, hz2⟩ := info_parts info_Sli
  have bO := Boxed.new w 70 (.slice none 0 0)
  have hB0 := (Below.refl w.heap.size w).alloc (Nat.le_refl _) (.cells #[.slice none 0 0] 70)
  have h1' := Blk.alloc h1 (.cells #[.slice none 0 0] 70)
  have h2' := Blk.alloc h2 (.cells #[.slice none 0 0] 70)
  refine wpIn_rangeFunc_ownG rfl (by omega) (gf := 85) (lb := #[.pointer (some ⟨p, 0, none⟩), .pointer (some ⟨p + 1, 0, none⟩)]) rfl trivial (enters_of Try.func85 (by kernel_rfl) rfl)
    (chunk_stops 2 (by omega) p b off N c m k m1 m8 k8 hN hc _ h1' h2') kp2_t (kp2_b (by simp; omega)) (Below.refl _ _) (fun _ => rfl)
    (fun pre W => (∃ v, Boxed W w.heap.size 70 v ∧ W.ownsRow (w.heap.size + 1) 24 1 v pre.length (pre.map fun x : SlR => Value.slice x.A x.n x.c) ∧ True) ∧ Below w.heap.size w W ∧ w.heap.size + 1 ≤ W.heap.size)
    (fun _ _ _ => False)
    (OwnFrom.and (Go.Own.from (holdsRow_own (w.heap.size + 1) w.heap.size 70 24 1 (fun pre : List SlR => pre.length) (fun pre => pre.map fun x : SlR => Value.slice x.A x.n x.c) (fun _ _ => True)) _) (OwnFrom.and (ownFrom_below (Nat.le_refl _) (by simp)) (fun _ _ _ _ hs hg _ => Nat.le_trans hs hg.size)))
    (fun _ _ _ _ _ hs _ _ => hs)
    ⟨⟨_, bO, World.ownsRow_nil _ _ _ _, trivial⟩, hB0, by simp⟩
    (fun x : SlR => { tmps := #[.slice none 0 0, .func (.func 85) #[] #[.pointer (some ⟨p, 0, none⟩), .pointer (some ⟨p + 1, 0, none⟩)], .pointer (some ⟨w.heap.size, 0, none⟩), undef, .slice none 0 0, .slice x.A x.n x.c, .func (.func 85) #[] #[.pointer (some ⟨p, 0, none⟩), .pointer (some ⟨p + 1, 0, none⟩)], .slice x.A x.n x.c, undef, undef, undef, undef, undef], defers := [] }) ?assign ?body ?done ?stop
  case assign =>
    intro l x W K hK
    gi_wp2
    exact hK
  case body =>
    rintro l pre x W ⟨⟨v, hv, hrow, _⟩, hB, hb5⟩ hlt
    obtain ⟨A1, c1, rfl⟩ := ownsRow_form hrow
    have hcv := hv.cell
    have hfv := hv.frozen
    have hbz := hB.size
    gi_wp2_with (gi_at_builtin; refine wpListIn_append_own _ rfl (.tmp 8) (.tmp 10) 70 rfl (w.heap.size + 1) 24 i0 (.slice none 0 0) 1 24 Try.underlying70 hi hz0 hz1 hz2 rfl (by decide) _ _ _ rfl (hrow.alloc _) ⟨W.heap.size, 0, none⟩ 1 1 [.slice x.A x.n x.c] rfl rfl (cell_one_new _ _ _) (by simp [Value.oneCell']) (by unfold maxLen; omega) (by omega) (by simp; omega) ?_)
    intro v' w2 hown' hgrow _
    obtain ⟨A2, c2, rfl⟩ := ownsRow_form hown'
    obtain ⟨hv2, hv3, hr3, hk3, hb3⟩ := app1 hv hrow hb5 hown' hgrow
    have hc2 := hv2.cell
    have hf2 := hv2.frozen
    gi_wp2
    exact ⟨hk3.from _, ⟨hb3.block _ (by omega), hb3.block _ (by omega)⟩, ⟨_, hv3, by simpa using hr3, trivial⟩, hB.trans hb3, Nat.le_trans hb5 hk3.size⟩
  case done =>
    rintro D ys W hD rfl ⟨⟨v, hv, hrow, _⟩, hB, _⟩ hK
    obtain ⟨A', c', rfl⟩ := ownsRow_form hrow
    have hrow' := ownsRow_putObj hrow (.deferred none) hK rfl
    have hcv := hv.cell
    rw [chunkL_len] at hrow' hcv
    gi_wp2
    refine ⟨by simp, .inl ⟨_, _, rfl, run_takeDeferred hK, ?_⟩⟩
    refine ⟨.slice A' k c', (by simp [results, Try.results84, go_sem]), A', c', rfl, ⟨by rw [chunkL_len, sli_flat]; exact row_low hrow' (by omega), fun _ _ => trivial⟩, hB.trans (belowK_b (w := w) (Nat.le_refl _) W D _ _ (by simp at hD; omega) hK rfl rfl)⟩
  case stop =>
    rintro D c pre W _ _ h _
    exact h.elim
set_option maxRecDepth 100000 in
set_option maxHeartbeats 1000000 in
theorem collect_any (p b off N c m k : Nat) (m1 : 1 ≤ m) (m8 : m ≤ 8) (k8 : k ≤ 8) (hN : Hid (N = k * m)) (hc : N ≤ c) (w : World) (hp : p + 1 < w.heap.size) (h1 : Blk w p 24 #[.slice (some ⟨b, off, none⟩) N c]) (h2 : Blk w (p + 1) 3 #[.int .i64 m]) :
    Calls Try.prog 58 #[.func (.func 85) #[] #[.pointer (some ⟨p, 0, none⟩), .pointer (some ⟨p + 1, 0, none⟩)]] w fun e w' => ∃ A c', e = .returned (.slice A k c') ∧ OwnF sliF w' w.heap.size (.slice A k c') (chunkL b off m k) ∧ Below w.heap.size w w' := by
  go_enter Try.func58, Try.ntmps58
  go_wp2_with fail
  refine (appendSeq_any p b off N c m k m1 m8 k8 hN hc w hp h1 h2).mono ?_
  rintro e w1 ⟨A', c', rfl, ho, hb⟩
  go_wp2
  go_ret
  exact ⟨_, _, rfl, ho, hb⟩
end Go.Proofs.Ytpmhnklmhfadlaa
