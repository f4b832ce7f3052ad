/- The walk of the program's TeachSkill. Condition: the skill fits into an int. -/
import Derived.Test.YtanfblpibomfaaaCopy11
namespace Go.Proofs.Ytanfblpibomfaaa
open Go.RowKit

noncomputable def teach11 (xs : List WeaverR) (t p s : Int) : List WeaverR × Bool := match find11 xs t, find11 xs p with
  | some (i, f), some (k, a) => if i ≠ k ∧ oneSk s = true ∧ hasB f.f2 s = true then (xs.set k ⟨a.f0, a.f1, orI a.f2 s, a.f3, a.f4⟩, true) else ([], false)
  | _, _ => ([], false)
theorem teach11_len (xs : List WeaverR) (t p s : Int) : (teach11 xs t p s).1.length ≤ 100000 := by
  unfold teach11
  split
  · next h _ =>
    have := (weaversB_of (find11_of h).1).1
    split
    · simp; omega
    · simp
  · simp
/-- A weaver who knows more stands where he stood. -/
theorem seatsN_set {xs : List WeaverR} {k : Nat} {a y : WeaverR} (ha : xs[k]? = some a) (h4 : y.f4 = a.f4) (l : Int) : seatsN (xs.set k y) l = seatsN xs l := by
  have e : ∀ zs : List WeaverR, seatsN zs l = ((zs.map fun b => b.f4).filter fun b => decide (b = l)).length := fun zs => by
    unfold seatsN atL
    rw [List.filter_map, List.length_map]
    rfl
  rw [e, e, List.map_set]
  congr 2
  obtain ⟨hk, rfl⟩ := List.getElem?_eq_some_iff.1 ha
  rw [h4]
  apply List.ext_getElem?
  intro j
  rw [List.getElem?_set]
  split
  · next hj => subst hj; simp [hk]
  · rfl
theorem weavers_set {xs : List WeaverR} (h : weaversB xs = true) {k : Nat} {a y : WeaverR} (ha : xs[k]? = some a) (h0 : y.f0 = a.f0) (h4 : y.f4 = a.f4) (hy : weaverB y = true) : weaversB (xs.set k y) = true := by
  have H := weaversB_of h
  have hk := (List.getElem?_eq_some_iff.1 ha).1
  have hid : ∀ (j : Nat) (b : WeaverR), (xs.set k y)[j]? = some b → ∃ b', xs[j]? = some b' ∧ b.f0 = b'.f0 ∧ b.f4 = b'.f4 ∧ weaverB b = true := by
    intro j b hb
    rw [List.getElem?_set] at hb
    by_cases hj : k = j
    · subst hj
      rw [if_pos rfl, if_pos hk] at hb
      cases hb
      exact ⟨a, ha, h0, h4, hy⟩
    · rw [if_neg hj] at hb
      exact ⟨b, hb, rfl, rfl, weavers_at h hb⟩
  refine weaversB_yes ⟨by rw [List.length_set]; exact H.1, fun j b hj hb => ?_, fun j b c hj hb hc => ?_⟩
  · obtain ⟨b', hb', _, e4, hw⟩ := hid j b hb
    refine ⟨hw, fun hn => ?_⟩
    rw [seatsN_set ha h4, e4]
    exact (H.2.1 j b' (List.getElem?_eq_some_iff.1 hb').1 hb').2 (by rwa [← e4])
  · obtain ⟨b', hb', e1, _⟩ := hid j b hb
    obtain ⟨c', hc', e2, _⟩ := hid _ c hc
    rw [e1, e2]
    exact H.2.2 j b' c' (List.getElem?_eq_some_iff.1 hc').1 hb' hc'
theorem taught_ok {xs : List WeaverR} (h : weaversB xs = true) {k : Nat} {a : WeaverR} (ha : xs[k]? = some a) {s : Int} (hs : oneSk s = true) : weaverB ⟨a.f0, a.f1, orI a.f2 s, a.f3, a.f4⟩ = true := by
  obtain ⟨h0, h1, h2, h3, h4⟩ := weaver_of (weavers_at h ha)
  have hb : In15 s := by simp only [oneSk, Bool.or_eq_true, decide_eq_true_eq] at hs; constructor <;> omega
  have ha15 : In15 a.f2 := ⟨by omega, h2.2⟩
  exact weaver_mk h0 h1 ⟨orI_pos ha15 hb h2.1, (orI_in ha15 hb).2⟩ h3 h4
set_option maxRecDepth 100000 in
set_option maxHeartbeats 4000000 in
theorem implTeachSkill_any (A : Option Addr) (n c B : Nat) (xs : List WeaverR) (t p s : Int) (w : World) (h : RdF weaverF w B A n c xs) (hB : B ≤ w.heap.size) :
    Calls Try.prog 29 #[.slice A n c, .int .i64 t, .int .i64 p, .int .i64 s] w (OutF weaverF w (teach11 xs t p s).1 (teach11 xs t p s).2) := by
  rcases hf : find11 xs t with _ | ⟨i, f⟩
  · have hv := Lib.hid (show placeI (find11 xs t) = -1 by rw [hf]; rfl)
    obtain ⟨v2, hv2⟩ : ∃ v, Hid (placeI (find11 xs p) = v) := ⟨_, Lib.hid rfl⟩
    rw [show teach11 xs t p s = ([], false) by unfold teach11; rw [hf]]
    clear hf
    go_enter Try.func29, Try.ntmps29
    go_wp2_with fail
    refine (weaverWith_eq A n c B xs t _ _ h hB hv.out).mono ?_
    rintro e w1 ⟨rfl, hb⟩
    have h1 := h.all hb hB
    have hB1 : B ≤ w1.heap.size := Nat.le_trans hB hb.size
    go_wp2_with fail
    refine (weaverWith_eq A n c B xs p _ _ h1 hB1 hv2.out).mono ?_
    rintro e w2 ⟨rfl, hb2⟩
    replace hb := hb.trans (hb2.mono hb.size)
    replace h1 := h1.all hb2 hB1
    replace hB1 : B ≤ w2.heap.size := Nat.le_trans hB hb.size
    clear hb2
    go_wp2
    go_ret2
    exact ⟨none, 0, rfl, OwnF.nil _ _ _, hb⟩
  have hv := Lib.hid (show placeI (find11 xs t) = (i : Int) by rw [hf]; rfl)
  obtain ⟨hg, haf, _⟩ := find11_of hf
  have hi := (List.getElem?_eq_some_iff.1 haf).1
  have hl := h.len
  have hi0 : ¬ (i : Int) < 0 := by omega
  have hi1 : (i : Int) < (n : Int) := by omega
  rcases hf2 : find11 xs p with _ | ⟨k, a⟩
  · have hv2 := Lib.hid (show placeI (find11 xs p) = -1 by rw [hf2]; rfl)
    rw [show teach11 xs t p s = ([], false) by unfold teach11; rw [hf, hf2]]
    clear hf hf2 haf
    go_enter Try.func29, Try.ntmps29
    go_wp2_with fail
    refine (weaverWith_eq A n c B xs t _ _ h hB hv.out).mono ?_
    rintro e w1 ⟨rfl, hb⟩
    have h1 := h.all hb hB
    have hB1 : B ≤ w1.heap.size := Nat.le_trans hB hb.size
    go_wp2_with fail
    refine (weaverWith_eq A n c B xs p _ _ h1 hB1 hv2.out).mono ?_
    rintro e w2 ⟨rfl, hb2⟩
    replace hb := hb.trans (hb2.mono hb.size)
    replace h1 := h1.all hb2 hB1
    replace hB1 : B ≤ w2.heap.size := Nat.le_trans hB hb.size
    clear hb2
    go_wp2
    go_ret2
    exact ⟨none, 0, rfl, OwnF.nil _ _ _, hb⟩
  have hv2 := Lib.hid (show placeI (find11 xs p) = (k : Int) by rw [hf2]; rfl)
  obtain ⟨_, hak, _⟩ := find11_of hf2
  have hk := (List.getElem?_eq_some_iff.1 hak).1
  have hk0 : ¬ (k : Int) < 0 := by omega
  have hk1 : (k : Int) < (n : Int) := by omega
  have HT := Lib.hid (show teach11 xs t p s = if i ≠ k ∧ oneSk s = true ∧ hasB f.f2 s = true then (xs.set k ⟨a.f0, a.f1, orI a.f2 s, a.f3, a.f4⟩, true) else ([], false) by unfold teach11; rw [hf, hf2])
  have HAF := Lib.hid haf
  have HAK := Lib.hid hak
  clear hf hf2 haf hak
  by_cases hik : i = k
  · subst hik
    rw [show teach11 xs t p s = ([], false) from HT.out.trans (if_neg fun hh => hh.1 rfl)]
    go_enter Try.func29, Try.ntmps29
    go_wp2_with fail
    refine (weaverWith_eq A n c B xs t _ _ h hB hv.out).mono ?_
    rintro e w1 ⟨rfl, hb⟩
    have h1 := h.all hb hB
    have hB1 : B ≤ w1.heap.size := Nat.le_trans hB hb.size
    go_wp2_with fail
    refine (weaverWith_eq A n c B xs p _ _ h1 hB1 hv2.out).mono ?_
    rintro e w2 ⟨rfl, hb2⟩
    replace hb := hb.trans (hb2.mono hb.size)
    replace h1 := h1.all hb2 hB1
    replace hB1 : B ≤ w2.heap.size := Nat.le_trans hB hb.size
    clear hb2
    go_wp2
    go_ret2
    exact ⟨none, 0, rfl, OwnF.nil _ _ _, hb⟩
  have hike : ((i : Int) == (k : Int)) = false := by simp; omega
  have hikd : decide ((i : Int) = (k : Int)) = false := by simp; omega
  by_cases hos : oneSk s = true
  rotate_left
  · have hos' := not_false hos
    rw [show teach11 xs t p s = ([], false) from HT.out.trans (if_neg fun hh => hos hh.2.1)]
    have HI := Lib.hid hik
    clear hik hos
    go_enter Try.func29, Try.ntmps29
    go_wp2_with fail
    refine (weaverWith_eq A n c B xs t _ _ h hB hv.out).mono ?_
    rintro e w1 ⟨rfl, hb⟩
    have h1 := h.all hb hB
    have hB1 : B ≤ w1.heap.size := Nat.le_trans hB hb.size
    go_wp2_with fail
    refine (weaverWith_eq A n c B xs p _ _ h1 hB1 hv2.out).mono ?_
    rintro e w2 ⟨rfl, hb2⟩
    replace hb := hb.trans (hb2.mono hb.size)
    replace h1 := h1.all hb2 hB1
    replace hB1 : B ≤ w2.heap.size := Nat.le_trans hB hb.size
    clear hb2
    go_wp2_with (first | (go_at_call 62; (with_reducible refine (isSkill_any _ _).mono ?_); rintro e w' ⟨rfl, rfl⟩) | (go_at_call 46; (with_reducible refine (hasSkills_any _ _ _).mono ?_); rintro e w' ⟨rfl, rfl⟩))
    go_ret2
    exact ⟨none, 0, rfl, OwnF.nil _ _ _, hb⟩
  obtain ⟨b, off, _, rfl, _⟩ := WeaverR_at (F := weaverF) rfl (fun _ => rfl) (fun _ => rfl) h (show k < n by omega)
  by_cases hhs : hasB f.f2 s = true
  rotate_left
  · have hhs' := not_false hhs
    rw [show teach11 xs t p s = ([], false) from HT.out.trans (if_neg fun hh => hhs hh.2.2)]
    have HI := Lib.hid hik
    clear hik hhs
    go_enter Try.func29, Try.ntmps29
    go_wp2_with fail
    refine (weaverWith_eq _ n c B xs t _ _ h hB hv.out).mono ?_
    rintro e w1 ⟨rfl, hb⟩
    have h1 := h.all hb hB
    have hB1 : B ≤ w1.heap.size := Nat.le_trans hB hb.size
    go_wp2_with fail
    refine (weaverWith_eq _ n c B xs p _ _ h1 hB1 hv2.out).mono ?_
    rintro e w2 ⟨rfl, hb2⟩
    replace hb := hb.trans (hb2.mono hb.size)
    replace h1 := h1.all hb2 hB1
    replace hB1 : B ≤ w2.heap.size := Nat.le_trans hB hb.size
    clear hb2
    obtain ⟨_, _, f', he, _, _, HX, _, _, hd2, _, _⟩ := WeaverR_at (F := weaverF) rfl (fun _ => rfl) (fun _ => rfl) h1 (show i < n by omega)
    cases he
    obtain rfl : f' = f := Option.some.inj (HX.out.symm.trans HAF.out)
    go_wp2_with (first | (go_at_call 62; (with_reducible refine (isSkill_any _ _).mono ?_); rintro e w' ⟨rfl, rfl⟩) | (go_at_call 46; (with_reducible refine (hasSkills_any _ _ _).mono ?_); rintro e w' ⟨rfl, rfl⟩))
    go_ret2
    exact ⟨none, 0, rfl, OwnF.nil _ _ _, hb⟩
  have HE := Lib.hid (show teach11 xs t p s = (xs.set k ⟨a.f0, a.f1, orI a.f2 s, a.f3, a.f4⟩, true) from HT.out.trans (if_pos ⟨hik, hos, hhs⟩))
  have hyok := Lib.hid (taught_ok hg HAK.out hos)
  have h8 := (weaversB_of hg).1
  have HI := Lib.hid hik
  clear hik HT
  go_enter Try.func29, Try.ntmps29
  go_wp2_with fail
  refine (weaverWith_eq _ n c B xs t _ _ h hB hv.out).mono ?_
  rintro e w1 ⟨rfl, hb⟩
  have h1 := h.all hb hB
  have hB1 : B ≤ w1.heap.size := Nat.le_trans hB hb.size
  go_wp2_with fail
  refine (weaverWith_eq _ n c B xs p _ _ h1 hB1 hv2.out).mono ?_
  rintro e w2 ⟨rfl, hb2⟩
  replace hb := hb.trans (hb2.mono hb.size)
  replace h1 := h1.all hb2 hB1
  replace hB1 : B ≤ w2.heap.size := Nat.le_trans hB hb.size
  clear hb2
  obtain ⟨_, _, f', he, _, _, HX, _, _, hd2, _, _⟩ := WeaverR_at (F := weaverF) rfl (fun _ => rfl) (fun _ => rfl) h1 (show i < n by omega)
  cases he
  obtain rfl : f' = f := Option.some.inj (HX.out.symm.trans HAF.out)
  go_wp2_with (first | (go_at_call 62; (with_reducible refine (isSkill_any _ _).mono ?_); rintro e w' ⟨rfl, rfl⟩) | (go_at_call 46; (with_reducible refine (hasSkills_any _ _ _).mono ?_); rintro e w' ⟨rfl, rfl⟩))
  refine (copyWeavers_any b off n c B xs _ h1 hB1 (by omega) (by omega) (Lib.hid (weavers_short hg))).mono ?_
  rintro e w3 ⟨g, c3, rfl, own, hb3⟩
  have hz1 := hb.size
  replace own := own.mono hz1
  replace hb := hb.trans (hb3.mono hz1)
  have hgl := (own.bd g rfl).1
  have ok := h.fits a (List.mem_of_getElem? HAK.out)
  have e2 : w3.cell? ⟨g, k * 5 + 2, none⟩ = some (.int .i64 a.f2) := own.cell (F := weaverF) (i := 2) HAK.out rfl
  have hf2 : w3.frozen? ⟨g, k * 5 + 2, none⟩ = false := own.frozen _
  clear hb3 h h1 hd2
  subst hl
  have hor := orI_in (a := a.f2) (b := s) (by have := (fun hq => (weaver_of (weavers_at hg hq)).2.2.1) HAK.out; constructor <;> omega) (by simp only [oneSk, Bool.or_eq_true, decide_eq_true_eq] at hos; constructor <;> omega)
  have HP := own.put1 (i := 2) (y := ⟨a.f0, a.f1, orI a.f2 s, a.f3, a.f4⟩) HAK.out (by decide) (.int .i64 (bits .or .i64 a.f2 s)) rfl ⟨ok.1, ok.2.1, ⟨by have := hor.1; show _ ≤ orI a.f2 s; omega, by have := hor.2; show orI a.f2 s ≤ _; omega⟩, ok.2.2.2.1, ok.2.2.2.2⟩
  have HB := hb.grown HP.2 hb.size (fun j hj => by cases hj; exact hgl)
  have HO := HP.1
  have hls : (xs.set k ⟨a.f0, a.f1, orI a.f2 s, a.f3, a.f4⟩).length = xs.length := List.length_set
  clear hor
  go_wp2
  go_ret2
  rw [HE.out]
  refine ⟨some ⟨g, 0, none⟩, c3, ?_, ?_, HB⟩
  · show _ = Ending.returned (.tuple #[.slice (some ⟨g, 0, none⟩) (xs.set k ⟨a.f0, a.f1, orI a.f2 s, a.f3, a.f4⟩).length c3, .bool true])
    rw [hls]; rfl
  · show OwnF weaverF _ _ (.slice (some ⟨g, 0, none⟩) (xs.set k ⟨a.f0, a.f1, orI a.f2 s, a.f3, a.f4⟩).length c3) _
    rw [hls]; exact HO
end Go.Proofs.Ytanfblpibomfaaa
