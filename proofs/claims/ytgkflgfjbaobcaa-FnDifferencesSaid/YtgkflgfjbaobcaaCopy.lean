/- The walks of what copies a chart: the program's copyChart, the model's l1Own and l2Own. Condition: at most 1048576 knots. -/
import Derived.Test.YtgkflgfjbaobcaaHelpChart
namespace Go.Proofs.Ytgkflgfjbaobcaa
open Go.RowKit

/-- What a copy of a slice leaves. -/
def OwnCopy (w : World) (xs : List Int) (e : Ending) (w' : World) : Prop :=
  ∃ A c, e = .returned (.slice A xs.length c) ∧ Own w' w.heap.size (.slice A xs.length c) xs ∧ Below w.heap.size w w'
/-- What a copy of a chart leaves. -/
def OwnChart (w : World) (W H : Int) (xs : List Int) (e : Ending) (w' : World) : Prop :=
  ∃ A c, e = .returned (chartV W H (.slice A xs.length c)) ∧ Own w' w.heap.size (.slice A xs.length c) xs ∧ Below w.heap.size w w'

set_option maxRecDepth 100000 in
set_option maxHeartbeats 400000 in
theorem l1Own_any (A : Option Addr) (n c B : Nat) (xs : List Int) (w : World) (h : Rd w B A n c xs) (hB : B ≤ w.heap.size) (hn : n ≤ 1048576) :
    Calls Try.prog 43 #[.slice A n c] w (OwnCopy w xs) := by
  obtain ⟨i0, hi, hz0, hz1, hz2⟩ := info_parts info_int
  obtain rfl := h.len
  have h' := h.alloc hB (.cells #[] 3)
  have ho : Own (w.alloc (.cells #[] 3)) w.heap.size (.slice (some ⟨w.heap.size, 0, none⟩) 0 0) [] := Own.empty (Nat.le_refl _)
  have hb0 := Lib.hid ((Below.refl w.heap.size w).alloc (Nat.le_refl _) (.cells #[] 3))
  cases A with
  | none =>
    obtain ⟨hl0, rfl⟩ := h.nil rfl
    obtain rfl := List.eq_nil_of_length_eq_zero hl0
    clear h h'
    go_enter Try.func43, Try.ntmps43
    go_wp2
    go_ret
    exact ⟨some ⟨w.heap.size, 0, none⟩, 0, rfl, ho, hb0.out⟩
  | some ad =>
    have hcells : ∀ j u, (xs.map (Value.int .i64))[j]? = some u → (w.alloc (.cells #[] 3)).cell? (ad.add j) = some u := by
      intro j u hu
      have hj : j < xs.length := by have := (List.getElem?_eq_some_iff.1 hu).1; simpa using this
      obtain ⟨b, off, e, _, hc⟩ := h'.cells (by omega)
      cases e
      have e : (⟨b, off, none⟩ : Addr).add j = ⟨b, off + j, none⟩ := by unfold Addr.add; split <;> simp_all
      rw [e, hc j hj, getD_at hj]
      rw [List.getElem?_map, List.getElem?_eq_getElem hj] at hu
      exact hu
    have HC := Lib.hid hcells
    have HF := h.fits
    clear hcells h h'
    go_enter Try.func43, Try.ntmps43
    go_wp2_with (at_builtin; refine wpList_append_own _ rfl (.tmp 3) (.tmp 4) 24 rfl w.heap.size 3 i0 (.int .i64 0) 1 8 Try.underlying24 hi hz0 hz1 hz2 rfl (by decide) _ 0 _ rfl ho.1 ad xs.length c (xs.map (Value.int .i64)) rfl (by simp) HC.out (ints_oneCell _ _) (by unfold maxLen; omega) (by omega) (by simp) ?_)
    intro v' w1 hown hg _
    have HO : Own w1 w.heap.size v' xs := ⟨by simpa using hown, HF⟩
    have HB := Lib.hid (hb0.out.grown hg (by simp) (fun k hk => by simp [Value.ownBlock] at hk; omega))
    obtain ⟨A', c', rfl, _, _⟩ := HO.form
    go_wp2
    go_ret
    exact ⟨A', c', rfl, HO, HB.out⟩

/-- What a cell holds, whatever it is. -/
def cv (w : World) (p j : Nat) : Value := (w.cell? ⟨p, j, none⟩).getD undef
theorem cv_of {w : World} {p j : Nat} (h : (w.cell? ⟨p, j, none⟩).isSome = true) : w.cell? ⟨p, j, none⟩ = some (cv w p j) := by
  obtain ⟨u, hu⟩ := Option.isSome_iff_exists.1 h
  rw [cv, hu]; rfl
theorem Blk.cvAt {w : World} {p j : Nat} {t : TypeId} {cs : Array Value} (h : Blk w p t cs) (hj : j < cs.size) : w.cell? ⟨p, j, none⟩ = some (cv w p j) := cv_of (by rw [h.cell]; simp [hj])

set_option maxRecDepth 100000 in
set_option maxHeartbeats 1000000 in
theorem l2Own_any (W H : Int) (A : Option Addr) (n c B : Nat) (xs : List Int) (w : World) (h : Rd w B A n c xs) (hB : B ≤ w.heap.size) (hn : n ≤ 1048576) :
    Calls Try.prog 29 #[chartV W H (.slice A n c)] w (OwnChart w W H xs) := by
  obtain rfl := h.len
  have hb0 := Lib.hid (((Below.refl w.heap.size w).alloc (Nat.le_refl _) (.cells #[.int .i64 W, .int .i64 H, .slice A xs.length c] 26)).alloc (by simp) (.cells #[.int .i64 0, .int .i64 0, .slice none 0 0] 26))
  have h' := (h.alloc hB (.cells #[.int .i64 W, .int .i64 H, .slice A xs.length c] 26)).alloc (by simp; omega) (.cells #[.int .i64 0, .int .i64 0, .slice none 0 0] 26)
  have x0 := (Blk.new w #[.int .i64 W, .int .i64 H, .slice A xs.length c] 26).alloc (.cells #[.int .i64 0, .int .i64 0, .slice none 0 0] 26)
  have r0 := (Blk.new (w.alloc (.cells #[.int .i64 W, .int .i64 H, .slice A xs.length c] 26)) #[.int .i64 0, .int .i64 0, .slice none 0 0] 26).at_ (q := w.heap.size + 1) (by simp)
  clear h
  go_enter Try.func29, Try.ntmps29
  go_wp2_with fail
  obtain ⟨v, hv⟩ : ∃ v : World, v = (w.alloc (.cells #[.int .i64 W, .int .i64 H, .slice A xs.length c] 26)).alloc (.cells #[.int .i64 0, .int .i64 0, .slice none 0 0] 26) := ⟨_, rfl⟩
  have hs : v.heap.size = w.heap.size + 2 := by rw [hv]; simp
  rw [← hv] at hb0 h' x0 r0 ⊢
  clear hv
  have hs' : w.heap.size + 1 < v.heap.size := by omega
  have HS := Lib.hid hs
  clear hs
  have e0 := x0.cell 0
  have e1 := x0.cell 1
  have e2 := x0.cell 2
  have g0 := r0.cvAt (j := 0) (by decide)
  have g1 := r0.cvAt (j := 1) (by decide)
  have g2 := r0.cvAt (j := 2) (by decide)
  have z0 := r0.frozen 0
  have z1 := r0.frozen 1
  have z2 := r0.frozen 2
  go_region_held3 (fun w' => w'.cell? ⟨w.heap.size, 0, none⟩ = some (.int .i64 W) ∧ w'.cell? ⟨w.heap.size, 1, none⟩ = some (.int .i64 H) ∧ w'.cell? ⟨w.heap.size, 2, none⟩ = some (.slice A xs.length c) ∧ w'.cell? ⟨w.heap.size + 1, 0, none⟩ = some (cv w' (w.heap.size + 1) 0) ∧ w'.cell? ⟨w.heap.size + 1, 1, none⟩ = some (cv w' (w.heap.size + 1) 1) ∧ w'.cell? ⟨w.heap.size + 1, 2, none⟩ = some (cv w' (w.heap.size + 1) 2) ∧ w'.frozen? ⟨w.heap.size + 1, 0, none⟩ = false ∧ w'.frozen? ⟨w.heap.size + 1, 1, none⟩ = false ∧ w'.frozen? ⟨w.heap.size + 1, 2, none⟩ = false)
    (first | exact ⟨e0, e1, e2, g0, g1, g2, z0, z1, z2⟩ | exact ⟨(hbc _ _ (by omega)).trans e0, (hbc _ _ (by omega)).trans e1, (hbc _ _ (by omega)).trans e2, cv_of (by rw [hbc _ _ (by omega), g0]; rfl), cv_of (by rw [hbc _ _ (by omega), g1]; rfl), cv_of (by rw [hbc _ _ (by omega), g2]; rfl), (hbf _ _ (by omega)).trans z0, (hbf _ _ (by omega)).trans z1, (hbf _ _ (by omega)).trans z2⟩ | exact ⟨X1.cell 0, X1.cell 1, X1.cell 2, R1.cvAt (by simp), R1.cvAt (by simp), R1.cvAt (by simp), R1.frozen 0, R1.frozen 1, R1.frozen 2⟩)
    (first | (go_at_call 43; refine (l1Own_any A _ c B xs _ h'.drew (by simp; omega) hn).mono ?_; rintro e w1 ⟨A', c', rfl, hown, hb⟩; have hb1 : Below v.heap.size v w1 := below_drew hb; have hbc : ∀ b o, b < v.heap.size → w1.cell? ⟨b, o, none⟩ = v.cell? ⟨b, o, none⟩ := (bcell hb1).1; have hbf : ∀ b o, b < v.heap.size → w1.frozen? ⟨b, o, none⟩ = v.frozen? ⟨b, o, none⟩ := (bcell hb1).2; have X1 := (((x0.below hb1 (by omega)).far (a := ⟨w.heap.size + 1, 0, none⟩) (by simp) (.int .i64 W)).far (a := ⟨w.heap.size + 1, 1, none⟩) (by simp) (.int .i64 H)).far (a := ⟨w.heap.size + 1, 2, none⟩) (by simp) (.slice A' xs.length c'); have R1 := (((r0.below hb1 (by omega)).set_ 0 (.int .i64 W)).set_ 1 (.int .i64 H)).set_ 2 (.slice A' xs.length c')))
  have HO : Own w1 v.heap.size (.slice A' xs.length c') xs := hown
  have F := fin3 (p := w.heap.size + 1) (a := .int .i64 W) (b := .int .i64 H) (c := .slice A' xs.length c') HO (fun e => by have := (HO.bd _ e).1; omega) (hb0.out.trans (hb1.mono (by omega))) (show w.heap.size ≤ w.heap.size + 1 by omega)
  have g0' := R1.cell 0
  have g1' := R1.cell 1
  have g2' := R1.cell 2
  clear hbc hbf X1 hb hb1
  go_wp2
  exact bodyPost_ret (v := chartV W H (.slice A' xs.length c')) (by simp [results, Try.results29, go_sem, g0', g1', g2']) rfl ⟨_, _, rfl, F.1.mono (by omega), F.2⟩
end Go.Proofs.Ytgkflgfjbaobcaa
