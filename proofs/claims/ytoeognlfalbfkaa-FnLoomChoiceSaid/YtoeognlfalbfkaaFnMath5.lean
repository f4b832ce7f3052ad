/- What chapter 5's laws over a code say of looms, as data. No condition. -/
import Derived.Test.YtoeognlfalbfkaaActs5b
import Derived.Test.YtoeognlfalbfkaaBestMath
namespace Go.Proofs.Ytoeognlfalbfkaa
open Go.RowKit

theorem put_true {xs : List LoomR} {k : Nat} {y : LoomR} (h : (put5 xs k y).2 = true) : loomB y = true ∧ (put5 xs k y).1 = xs.set k y := by
  unfold put5 at h ⊢
  split at h
  · next hy => rw [if_pos hy]; exact ⟨hy, rfl⟩
  · cases h
theorem weave_true {xs : List LoomR} {id d : Int} (h : (weave5 xs id d).2.2 = true) :
    (left5 xs id).2 = true ∧ (weave5 xs id d).2.1 ≤ (left5 xs id).1 ∧ (weave5 xs id d).2.1 ≤ d ∧ ((weave5 xs id d).2.1 < d → (weave5 xs id d).2.1 = (left5 xs id).1) ∧ loomsB (weave5 xs id d).1 = true := by
  unfold weave5 left5 at *
  cases hl : look xs id [2] with
  | none => rw [hl] at h; cases h
  | some p =>
    obtain ⟨k, a⟩ := p
    obtain ⟨hg, ha, _, _⟩ := look_of hl
    rw [hl] at h
    simp only at h ⊢
    split at h
    · next hd =>
      simp only at h
      rw [if_pos hd]
      obtain ⟨h1, h2⟩ := put_true h
      refine ⟨trivial, ?_, ?_, ?_, ?_⟩
      · simp only; unfold wovenI; omega
      · simp only; unfold wovenI; omega
      · simp only; unfold wovenI; omega
      · simp only
        rw [h2, looms_set (y := wovenR a d) hg ha rfl]
        exact h1
    · cases h
theorem left_pos (xs : List LoomR) (id : Int) : 0 ≤ (left5 xs id).1 := by
  unfold left5
  cases hl : look xs id [2] with
  | none => exact Int.le_refl _
  | some p =>
    obtain ⟨k, a⟩ := p
    obtain ⟨hg, ha, _, hst⟩ := look_of hl
    have hb : LoomOk a := loomB_of ((loomsB_of hg).2.1 k a (List.getElem?_eq_some_iff.1 ha).1 ha)
    have hf : a.f4 = 2 := by simpa using hst
    obtain ⟨_, _, _, h3, h4⟩ := hb
    unfold LoomSt at h4
    simp only
    omega
theorem left_bd (xs : List LoomR) (id : Int) : (left5 xs id).1 ≤ 1000 := by
  unfold left5
  cases hl : look xs id [2] with
  | none => simp
  | some p =>
    obtain ⟨k, a⟩ := p
    obtain ⟨hg, ha, _, _⟩ := look_of hl
    have hb : LoomOk a := loomB_of ((loomsB_of hg).2.1 k a (List.getElem?_eq_some_iff.1 ha).1 ha)
    obtain ⟨_, _, _, h3, _⟩ := hb
    simp only
    omega
theorem cut_back {xs : List LoomR} {id : Int} (h : (cut5 xs id).2.2 = true) {i : Nat} {a : LoomR} (ha : xs[i]? = some a) (hid : a.f0 = id) (hs : a.f4 = 1) :
    warp5 (cut5 xs id).1 id (cut5 xs id).2.1 a.f3 = (xs, true) := by
  unfold cut5 at *
  cases hl : look xs id [1, 2, 3] with
  | none => rw [hl] at h; cases h
  | some p =>
    obtain ⟨k, b⟩ := p
    obtain ⟨hg, hb, hbid, _⟩ := look_of hl
    obtain rfl := looms_inj (loomsB_of hg) ha hb (by rw [hid, hbid])
    obtain rfl : a = b := Option.some.inj (ha.symm.trans hb)
    rw [hl] at h
    simp only at h ⊢
    obtain ⟨h1, h2⟩ := put_true h
    rw [h2]
    have hi := (List.getElem?_eq_some_iff.1 ha).1
    have hset : (xs.set i ⟨a.f0, a.f1, 0, 0, 0⟩)[i]? = some ⟨a.f0, a.f1, 0, 0, 0⟩ := by rw [List.getElem?_set, if_pos rfl, if_pos hi]
    have hg2 : loomsB (xs.set i ⟨a.f0, a.f1, 0, 0, 0⟩) = true := by rw [looms_set (y := ⟨a.f0, a.f1, 0, 0, 0⟩) hg ha rfl]; exact h1
    have hl2 : look (xs.set i ⟨a.f0, a.f1, 0, 0, 0⟩) id [0] = some (i, ⟨a.f0, a.f1, 0, 0, 0⟩) := look_in hg2 hset hid (by simp)
    unfold warp5
    rw [hl2]
    simp only
    have hae : (⟨a.f0, a.f1, a.f2, a.f3, 1⟩ : LoomR) = a := by rw [← hs]
    unfold put5
    rw [hae, if_pos ((loomsB_of hg).2.1 i a hi ha), List.set_set]
    congr 1
    apply List.ext_getElem?
    intro j
    rw [List.getElem?_set]
    by_cases hj : i = j
    · subst hj; rw [if_pos rfl, if_pos hi, ha]
    · rw [if_neg hj]
theorem best_max : ∀ (xs : List LoomR) (o : Option LoomR) (m : LoomR), xs.foldl (stepBest true) o = some m → (∀ a ∈ xs, a.f1 ≤ m.f1) ∧ ∀ p, o = some p → p.f1 ≤ m.f1 := by
  intro xs
  induction xs with
  | nil => intro o m h; exact ⟨fun a ha => by simp at ha, fun p hp => by rw [List.foldl_nil, hp] at h; cases h; exact Int.le_refl _⟩
  | cons x xs ih =>
    intro o m h
    obtain ⟨h1, h2⟩ := ih _ _ h
    have hx : x.f1 ≤ m.f1 ∧ ∀ p, o = some p → p.f1 ≤ m.f1 := by
      cases o with
      | none => exact ⟨h2 x rfl, fun p hp => by cases hp⟩
      | some p =>
        by_cases hb : better true x p = true
        · have := h2 x (by unfold stepBest; simp only; rw [if_pos hb])
          unfold better at hb
          simp at hb
          exact ⟨this, fun q hq => by cases hq; omega⟩
        · have := h2 p (by unfold stepBest; simp only; rw [if_neg hb])
          unfold better at hb
          simp at hb
          exact ⟨by omega, fun q hq => by cases hq; exact this⟩
    exact ⟨fun a ha => by
      rcases List.mem_cons.1 ha with rfl | ha
      · exact hx.1
      · exact h1 a ha, hx.2⟩
theorem choose_true {wd : Bool} {wide : Int} {xs : List LoomR} (h : (choose5 wd wide xs).2 = true) : loomsB xs = true ∧ inB wide 30 600 = true ∧ ∃ m, bestO wd (freeL wide xs) = some m ∧ (choose5 wd wide xs).1 = m.f0 := by
  unfold choose5 at *
  split at h
  · next hh =>
    refine ⟨hh.1, hh.2, ?_⟩
    rw [if_pos hh]
    simp only at h ⊢
    unfold pickB at h
    obtain ⟨m, hm⟩ := Option.isSome_iff_exists.1 h
    exact ⟨m, hm, (pick_some hm).1⟩
  · cases h
theorem choice {wide : Int} {xs : List LoomR} (h : (choose5 false wide xs).2 = true) : (choose5 true 30 xs).2 = true ∧ ∀ (i : Nat) (a : LoomR), xs[i]? = some a → a.f0 = (choose5 false wide xs).1 →
    wide ≤ a.f1 ∧ a.f4 = 0 ∧ ∀ (k : Nat) (b : LoomR), xs[k]? = some b → b.f0 = (choose5 true 30 xs).1 → ¬ b.f1 < a.f1 := by
  obtain ⟨hg, hw, m, hm, hid⟩ := choose_true h
  have hw2 := inB_yes hw
  have hmf : m ∈ freeL wide xs := by
    rcases best_in _ _ _ hm with h1 | h1
    · exact h1
    · cases h1
  have hmx : m ∈ xs := (List.mem_filter.1 hmf).1
  have hmp : isFree wide m = true := (List.mem_filter.1 hmf).2
  unfold isFree at hmp
  rw [Bool.and_eq_true, decide_eq_true_eq, decide_eq_true_eq] at hmp
  have hmf2 : m ∈ freeL 30 xs := List.mem_filter.2 ⟨hmx, by unfold isFree; rw [Bool.and_eq_true, decide_eq_true_eq, decide_eq_true_eq]; omega⟩
  obtain ⟨q, hq⟩ := best_some (wd := true) (freeL 30 xs) none (Or.inl (List.ne_nil_of_mem hmf2))
  have hq' : bestO true (freeL 30 xs) = some q := hq
  have hc : choose5 true 30 xs = (q.f0, true) := by
    unfold choose5
    rw [if_pos ⟨hg, by decide⟩, (pick_some hq').1, (pick_some hq').2]
  rw [hc, hid]
  refine ⟨rfl, fun i a ha hai => ?_⟩
  obtain ⟨j, hj, hjm⟩ := List.getElem_of_mem hmx
  have hjm' : xs[j]? = some m := by rw [List.getElem?_eq_getElem hj, hjm]
  obtain rfl := looms_inj (loomsB_of hg) ha hjm' hai
  obtain rfl : a = m := Option.some.inj (ha.symm.trans hjm')
  refine ⟨hmp.2, hmp.1, fun k b hb hbi => ?_⟩
  have hqx := best_mem hq'
  obtain ⟨l, hl, hlq⟩ := List.getElem_of_mem hqx
  have hlq' : xs[l]? = some q := by rw [List.getElem?_eq_getElem hl, hlq]
  obtain rfl := looms_inj (loomsB_of hg) hb hlq' hbi
  obtain rfl : b = q := Option.some.inj (hb.symm.trans hlq')
  have := (best_max _ _ _ hq).1 a hmf2
  omega
theorem tight_le {xs : List LoomR} {id pu : Int} {i : Nat} {b : LoomR} (hb : (tight5 xs id pu).1[i]? = some b) : ∃ a, xs[i]? = some a ∧ ¬ b.f3 < a.f3 := by
  unfold tight5 at hb
  cases hl : look xs id [1, 2] with
  | none => rw [hl] at hb; simp at hb
  | some p =>
    obtain ⟨k, a⟩ := p
    obtain ⟨hg, ha, _, _⟩ := look_of hl
    rw [hl] at hb
    simp only at hb
    split at hb
    · simp at hb
    · next hp =>
      unfold put5 at hb
      split at hb
      · simp only at hb
        rw [List.getElem?_set] at hb
        by_cases hk : k = i
        · subst hk
          rw [if_pos rfl, if_pos (List.getElem?_eq_some_iff.1 ha).1] at hb
          cases hb
          exact ⟨a, ha, hp⟩
        · rw [if_neg hk] at hb
          exact ⟨b, hb, by omega⟩
      · simp at hb
end Go.Proofs.Ytoeognlfalbfkaa
