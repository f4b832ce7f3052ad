/- What the law of skills says, as data. No condition. -/
import Derived.Test.YtanfblpibomfaaaFew11
import Derived.Test.YtanfblpibomfaaaWith11
import Derived.Test.YtanfblpibomfaaaTeach11
namespace Go.Proofs.Ytanfblpibomfaaa
open Go.RowKit

/-- The skills of those of a list whose ids are as wanted. -/
def orP (P : Int → Bool) : List WeaverR → Int → Int
  | [], t => t
  | x :: xs, t => orP P xs (if P x.f0 = true then orI t x.f2 else t)
def leftP (P : Int → Bool) : List WeaverR → Int → Int
  | [], need => need
  | x :: xs, need => leftP P xs (if P x.f0 = true then leaveI need x.f2 else need)
theorem orP_drop {P : Int → Bool} {xs : List WeaverR} {k : Nat} {a : WeaverR} (ha : xs[k]? = some a) (t : Int) : orP P (xs.drop k) t = orP P (xs.drop (k + 1)) (if P a.f0 = true then orI t a.f2 else t) := by
  obtain ⟨hlt, e⟩ := List.getElem?_eq_some_iff.1 ha
  rw [List.drop_eq_getElem_cons hlt, e]
  rfl
theorem orP_left {P : Int → Bool} {xs : List WeaverR} : ∀ {t need : Int}, Sk xs → In15 t → In15 need → hasB (orP P xs t) need = decide (leftP P xs (leaveI need t) = 0) := by
  induction xs with
  | nil => intro t need _ ht hn; exact cov_base ht hn
  | cons x xs ih =>
    intro t need hs ht hn
    have hx := hs x (List.mem_cons_self ..)
    have hs' : Sk xs := fun a ha => hs a (List.mem_cons_of_mem _ ha)
    unfold orP leftP
    split
    · rw [ih hs' (orI_in ht hx) hn, leave_or hn ht hx]
    · rw [ih hs' ht hn]
theorem leftP_cov {P : Int → Bool} {xs : List WeaverR} : ∀ {need : Int}, leftP P xs need = 0 → Cov xs need ((xs.filter fun a => P a.f0).map fun a => a.f0) := by
  induction xs with
  | nil => intro need h; exact ⟨h, rfl⟩
  | cons x xs ih =>
    intro need h
    unfold leftP at h
    by_cases hb : P x.f0 = true
    · rw [if_pos hb] at h
      rw [List.filter_cons_of_pos (p := fun a : WeaverR => P a.f0) hb]
      exact .inr ⟨_, rfl, ih h⟩
    · rw [if_neg hb] at h
      rw [List.filter_cons_of_neg (p := fun a : WeaverR => P a.f0) hb]
      exact .inl (ih h)
theorem leftP_congr {P Q : Int → Bool} {xs : List WeaverR} : ∀ {need : Int}, (∀ a ∈ xs, P a.f0 = Q a.f0) → leftP P xs need = leftP Q xs need := by
  induction xs with
  | nil => intro need _; rfl
  | cons x xs ih =>
    intro need h
    unfold leftP
    rw [h x (List.mem_cons_self ..)]
    exact ih fun a ha => h a (List.mem_cons_of_mem _ ha)
theorem cov_leftP {xs : List WeaverR} : ∀ {need : Int} {g : List Int}, Asc xs → Cov xs need g → leftP (fun y => decide (y ∈ g)) xs need = 0 := by
  induction xs with
  | nil => intro need g _ h; exact h.1
  | cons x xs ih =>
    intro need g ha h
    obtain ⟨hx, ha'⟩ := List.pairwise_cons.1 ha
    rcases h with h | ⟨g', rfl, h⟩
    · have hn : ¬ x.f0 ∈ g := fun hm => by
        obtain ⟨a, ham, e⟩ := cov_ids h _ hm
        have := hx a ham
        omega
      unfold leftP
      rw [if_neg (by simp [hn])]
      exact ih ha' h
    · unfold leftP
      rw [if_pos (by simp)]
      rw [leftP_congr (Q := fun y => decide (y ∈ g')) fun a ha => by
        have := hx a ha
        have hne : ¬ a.f0 = x.f0 := by omega
        simp [hne]]
      exact ih ha' h
theorem cov_filter {xs : List WeaverR} : ∀ {need : Int} {g : List Int}, Asc xs → Cov xs need g → ((xs.filter fun a => decide (a.f0 ∈ g)).map fun a => a.f0) = g := by
  induction xs with
  | nil => intro need g _ h; rw [h.2]; rfl
  | cons x xs ih =>
    intro need g ha h
    obtain ⟨hx, ha'⟩ := List.pairwise_cons.1 ha
    rcases h with h | ⟨g', rfl, h⟩
    · have hn : ¬ x.f0 ∈ g := fun hm => by
        obtain ⟨a, ham, e⟩ := cov_ids h _ hm
        have := hx a ham
        omega
      rw [List.filter_cons_of_neg (by simp [hn])]
      exact ih ha' h
    · rw [List.filter_cons_of_pos (by simp), List.map_cons]
      congr 1
      have e : xs.filter (fun a => decide (a.f0 ∈ x.f0 :: g')) = xs.filter (fun a => decide (a.f0 ∈ g')) := List.filter_congr fun a ha => by
        have := hx a ha
        have hne : ¬ a.f0 = x.f0 := by omega
        simp [hne]
      rw [e]
      exact ih ha' h
theorem few_min {xs : List WeaverR} {need : Int} {F : List Int} (hn : 1 ≤ need) (h : few11 xs need = (F, true)) : Cov xs need F ∧ ∀ g, Cov xs need g → F.length ≤ g.length := by
  have pos : ∀ g, Cov xs need g → 1 ≤ g.length := fun g hg => by
    cases g with
    | nil => have := cov_nil hg; omega
    | cons _ _ => simp
  unfold few11 at h
  split at h
  · next r hr =>
    cases h
    exact ⟨(least_cov hr).1, fun g hg => by have := (least_cov hr).2; have := pos g hg; omega⟩
  · next h1 =>
    split at h
    · next r hr =>
      cases h
      exact ⟨(least_cov hr).1, fun g hg => by have := (least_cov hr).2; have := pos g hg; have := least_none h1 g hg; omega⟩
    · next h2 =>
      split at h
      · next r hr =>
        cases h
        exact ⟨(least_cov hr).1, fun g hg => by have := (least_cov hr).2; have := pos g hg; have := least_none h1 g hg; have := least_none h2 g hg; omega⟩
      · next h3 =>
        split at h
        · next r hr =>
          cases h
          exact ⟨(least_cov hr).1, fun g hg => by have := (least_cov hr).2; have := pos g hg; have := least_none h1 g hg; have := least_none h2 g hg; have := least_none h3 g hg; omega⟩
        · cases h
theorem cov_one {xs : List WeaverR} {need : Int} {a : WeaverR} (ha : a ∈ xs) (h : leaveI need a.f2 = 0) : Cov xs need [a.f0] := by
  induction xs with
  | nil => cases ha
  | cons x xs ih =>
    rcases List.mem_cons.1 ha with rfl | ha
    · exact .inr ⟨[], rfl, by rw [h]; exact cov_zero xs⟩
    · exact .inl (ih ha)
/-- All of a group but one. -/
def butP (F : List Int) (y : Int) (z : Int) : Bool := decide (z ∈ F) && !decide (z = y)
def inP (F : List Int) (z : Int) : Bool := decide (z ∈ F)
theorem fewest_all {xs : List WeaverR} {need : Int} {F : List Int} (h : fewest11 xs need = (F, true)) :
    hasB (orP (inP F) xs 0) need = true ∧ (∀ (k : Nat) (y : Int), F[k]? = some y → hasB (orP (butP F y) xs 0) need = false) ∧ with11 xs need = (withIds xs need, true) ∧ (withIds xs need ≠ [] → F.length = 1) ∧ Fast xs ∧ In15 need ∧ F.length ≤ 11 := by
  unfold fewest11 at h
  split at h
  · next hh =>
    obtain ⟨hg, hl⟩ := hh
    obtain ⟨n0, n1⟩ := inB_yes hl
    have hn15 : In15 need := ⟨by omega, n1⟩
    have hs := weavers_sk hg
    have ha := weavers_asc hg
    obtain ⟨hc, hmin⟩ := few_min n0 h
    have hlen := cov_len hc
    have h8 := (weaversB_of hg).1
    refine ⟨?_, fun k y hy => ?_, if_pos ⟨hg, hl⟩, fun hw => ?_, weavers_fast hg, hn15, by omega⟩
    · rw [orP_left hs ⟨by omega, by omega⟩ hn15, leave_zero hn15]
      exact decide_eq_true (cov_leftP ha hc)
    · cases hb : hasB (orP (butP F y) xs 0) need with
      | false => rfl
      | true =>
        rw [orP_left hs ⟨by omega, by omega⟩ hn15, leave_zero hn15] at hb
        have h1 := leftP_cov (of_decide_eq_true hb)
        have e : ((xs.filter fun a => butP F y a.f0).map fun a => a.f0) = F.filter fun z => !decide (z = y) := by
          have e1 := cov_filter ha hc
          calc ((xs.filter fun a => butP F y a.f0).map fun a => a.f0)
              = (((xs.filter fun a => decide (a.f0 ∈ F)).filter fun a => !decide (a.f0 = y)).map fun a => a.f0) := by
                rw [List.filter_filter]
                congr 1
                apply List.filter_congr
                intro a _
                unfold butP
                exact Bool.and_comm _ _
            _ = (((xs.filter fun a => decide (a.f0 ∈ F)).map fun a => a.f0).filter fun z => !decide (z = y)) := by
                rw [List.filter_map]
                rfl
            _ = F.filter fun z => !decide (z = y) := by rw [e1]
        rw [e] at h1
        have h2 := hmin _ h1
        have h3 : (F.filter fun z => !decide (z = y)).length < F.length := List.length_filter_lt_length_iff_exists.2 ⟨y, List.mem_of_getElem? hy, by simp⟩
        omega
    · obtain ⟨i, hi⟩ := List.exists_mem_of_ne_nil _ hw
      unfold withIds at hi
      obtain ⟨a, ham, rfl⟩ := List.mem_map.1 hi
      obtain ⟨ham, hb⟩ := List.mem_filter.1 ham
      rw [cov_base (hs a ham) hn15] at hb
      have h1 := hmin _ (cov_one ham (of_decide_eq_true hb))
      have h2 : F ≠ [] := fun e => by rw [e] at hc; have := cov_nil hc; omega
      have h3 := List.length_pos_iff.2 h2
      simp only [List.length_cons, List.length_nil] at h1
      omega
  · cases h
theorem or_has {a s : Int} (ha : In15 a) (hs : In15 s) : hasB (orI a s) s = true :=
  of_decide_eq_true (p := hasB (orI a s) s = true) (sk16_of (P := fun a s => decide (hasB (orI a s) s = true)) (by kernel_rfl) ha hs)
theorem teach_has {xs : List WeaverR} {t p s : Int} {zs : List WeaverR} (h : teach11 xs t p s = (zs, true)) : with11 zs s = (withIds zs s, true) ∧ p ∈ withIds zs s ∧ t ∈ withIds zs s := by
  unfold teach11 at h
  split at h
  · next i f k a hf ha =>
    split at h
    · next hh =>
      obtain ⟨hik, hos, hhs⟩ := hh
      simp only [Prod.mk.injEq, and_true] at h
      obtain ⟨hg, haf, hft⟩ := find11_of hf
      obtain ⟨_, hak, hap⟩ := find11_of ha
      have hv := weavers_set (y := ⟨a.f0, a.f1, orI a.f2 s, a.f3, a.f4⟩) hg hak rfl rfl (taught_ok hg hak hos)
      rw [h] at hv
      have hs15 : In15 s := by simp only [oneSk, Bool.or_eq_true, decide_eq_true_eq] at hos; constructor <;> omega
      have hs1 : inB s 1 15 = true := decide_eq_true (by simp only [oneSk, Bool.or_eq_true, decide_eq_true_eq] at hos; omega)
      have ha15 : In15 a.f2 := by have := (weaver_of (weavers_at hg hak)).2.2.1; constructor <;> omega
      have hk := (List.getElem?_eq_some_iff.1 hak).1
      refine ⟨if_pos ⟨hv, hs1⟩, ?_, ?_⟩
      · unfold withIds
        refine List.mem_map.2 ⟨⟨a.f0, a.f1, orI a.f2 s, a.f3, a.f4⟩, List.mem_filter.2 ⟨?_, or_has ha15 hs15⟩, hap⟩
        rw [← h]
        exact List.mem_of_getElem? (i := k) (by rw [List.getElem?_set, if_pos rfl, if_pos hk])
      · unfold withIds
        refine List.mem_map.2 ⟨f, List.mem_filter.2 ⟨?_, hhs⟩, hft⟩
        rw [← h]
        exact List.mem_of_getElem? (i := i) (by rw [List.getElem?_set, if_neg (fun e => hik e.symm)]; exact haf)
    · cases h
  · cases h
end Go.Proofs.Ytanfblpibomfaaa
