/- What chapter 7's law on baths asks beyond that both texts answer the same. No condition. -/
import Derived.Test.YtjlidgeeehlkcaaDye
import Derived.Test.YtjlidgeeehlkcaaReady2
import Derived.Test.YtjlidgeeehlkcaaAddStuff
namespace Go.Proofs.Ytjlidgeeehlkcaa
open Go.RowKit

theorem bath_yarn {xs : List DyePartR} {L T Y y : Int} {ys : List Int} (h : bathB xs L T Y ys = true) (hy : gramB y = true) : bathB xs L T y ys = true := by
  simp only [bathB, Bool.and_eq_true] at h ⊢
  exact ⟨h.1, hy⟩
theorem gram_yes {y : Int} (h0 : 0 ≤ y) (h1 : y ≤ 50000) : gramB y = true := by
  unfold gramB inB
  simp [h0, h1]
theorem most_facts {xs : List DyePartR} {L T Y : Int} {ys : List Int} (h : mostB xs L T Y ys = true) :
    (0 ≤ mostV xs L T Y ys ∧ mostV xs L T Y ys ≤ 50000) ∧ bathB xs L T (mostV xs L T Y ys) ys = true ∧ isReady1 xs L T (mostV xs L T Y ys) ys = true ∧ isReady1 xs L T (mostV xs L T Y ys + 1) ys = false := by
  rw [mostV_yes h]
  have h0 := h
  unfold mostB at h0
  rw [Bool.and_eq_true] at h0
  obtain ⟨hb, hT⟩ := h0
  obtain ⟨m0, m1⟩ := most_bd hb
  have hbm := bath_yarn hb (gram_yes m0 m1)
  refine ⟨⟨m0, m1⟩, hbm, ?_, ?_⟩
  · rw [isReady1_yes hbm]
    exact (most_iff hb hT m1).2 (Int.le_refl _)
  · cases hc : bathB xs L T (mostY xs L ys + 1) ys with
    | false => exact isReady1_no hc
    | true =>
      rw [isReady1_yes hc]
      obtain ⟨_, _, _, _, _, _, hy⟩ := bath_of hc
      cases hr : readyB xs L T ys (mostY xs L ys + 1) with
      | false => rfl
      | true => have := (most_iff hb hT hy).1 hr; omega
theorem dye_most {xs : List DyePartR} {L T Y : Int} {ys : List Int} (h : dyeB xs L T Y ys = true) : mostB xs L T Y ys = true ∧ Y ≤ mostV xs L T Y ys := by
  unfold dyeB at h
  rw [Bool.and_eq_true] at h
  obtain ⟨hb, hr⟩ := h
  have hT : inB T 60 95 = true := by unfold readyB at hr; rw [Bool.and_eq_true] at hr; exact hr.2
  have hm : mostB xs L T Y ys = true := by unfold mostB; rw [hb, hT]; rfl
  obtain ⟨_, _, _, _, _, _, hy⟩ := bath_of hb
  rw [mostV_yes hm]
  exact ⟨hm, (most_iff hb hT hy).1 hr⟩
theorem pos_at {xs : List DyePartR} (h : Rec xs) {k : Nat} {a : DyePartR} (ha : xs[k]? = some a) : posS xs a.f0 = some k := by
  cases hp : posS xs a.f0 with
  | none => have := posS_off hp k a ha; simp [nameB] at this
  | some j =>
    obtain ⟨b, hb, hn, _⟩ := posS_of hp
    rw [rec_inj h ha hb (by have := hn; simp only [nameB, beq_iff_eq] at this; exact this.symm)]
theorem add_back {xs : List DyePartR} {L T Y : Int} {ys : List Int} (h : dyeB xs L T Y ys = true) {k : Nat} {a : DyePartR} {y : Int} (ha : xs[k]? = some a) (hy : ys[k]? = some y) :
    addB xs L T 0 (leftL xs Y ys) a.f0 (needI a Y) = true ∧ (addL xs L T 0 (leftL xs Y ys) a.f0 (needI a Y)).length = xs.length ∧ (addL xs L T 0 (leftL xs Y ys) a.f0 (needI a Y))[k]? = some y := by
  have h0 := h
  unfold dyeB at h0
  rw [Bool.and_eq_true] at h0
  obtain ⟨hb, hr⟩ := h0
  obtain ⟨hrec, hle, hgr, hL, hT, hY⟩ := bath_of hb
  have hen : EnoughTo xs ys Y xs.length := by
    unfold readyB at hr
    simp only [Bool.and_eq_true] at hr
    exact enoughB_of hr.1.1
  have hll : (leftL xs Y ys).length = ys.length := leftL_len hle
  have hgl : gramsB (leftL xs Y ys) = true := gramsB_yes fun i z hi hz => by
    rw [hll, hle] at hi
    obtain ⟨p, hp⟩ : ∃ p, xs[i]? = some p := ⟨_, List.getElem?_eq_getElem hi⟩
    obtain ⟨s, hs⟩ : ∃ s, ys[i]? = some s := ⟨_, List.getElem?_eq_getElem (by omega)⟩
    have h1 := leftL_at (y := Y) hp hs
    rw [hz] at h1
    have h2 := hen i p s hi hp hs
    obtain ⟨_, q1, q2⟩ := part_at hrec hp
    obtain ⟨n0, n1⟩ := needI_bd q1 q2 hY.1 hY.2
    obtain ⟨s0, s1⟩ := grams_at hgr hs
    cases h1
    exact gram_yes (by omega) (by omega)
  have hbl : bathB xs L T 0 (leftL xs Y ys) = true := by
    have h1 := hb
    simp only [bathB, Bool.and_eq_true, decide_eq_true_eq] at h1 ⊢
    exact ⟨⟨⟨⟨⟨h1.1.1.1.1.1, by rw [hll, hle]⟩, hgl⟩, h1.1.1.2⟩, h1.1.2⟩, by decide⟩
  obtain ⟨_, q1, q2⟩ := part_at hrec ha
  obtain ⟨n0, n1⟩ := needI_bd q1 q2 hY.1 hY.2
  have hp := pos_at (recB_of hrec) ha
  have hx := leftL_at (y := Y) ha hy
  have hsum : (leftL xs Y ys).getD k 0 + needI a Y = y := by rw [List.getD_eq_getElem?_getD, hx]; show y - needI a Y + needI a Y = y; omega
  have hkl : k < (leftL xs Y ys).length := (List.getElem?_eq_some_iff.1 hx).1
  have hA : addB xs L T 0 (leftL xs Y ys) a.f0 (needI a Y) = true := by
    unfold addB
    rw [hbl, gram_yes n0 n1, hp]
    show gramB ((leftL xs Y ys).getD k 0 + needI a Y) = true
    rw [hsum]
    obtain ⟨s0, s1⟩ := grams_at hgr hy
    exact gram_yes s0 s1
  refine ⟨hA, ?_, ?_⟩
  · rw [(add_yes hA).2]
    unfold addV
    rw [hp]
    show ((leftL xs Y ys).set k _).length = _
    rw [List.length_set, hll, hle]
  · rw [(add_yes hA).2]
    unfold addV
    rw [hp]
    show ((leftL xs Y ys).set k _)[k]? = _
    rw [hsum, List.getElem?_set_self hkl]
/-- All that the law asks of a bath that could be dyed. -/
theorem dye_add {xs : List DyePartR} {L T Y : Int} {ys out nd : List Int} {oL oT : Int} (h : dyeB xs L T Y ys = true) (e1 : dyeN xs L T Y ys L = oL) (e2 : dyeN xs L T Y ys T = oT) (e3 : dyeL xs L T Y ys = out) (e4 : needsForL xs Y = nd) :
    nd.length = xs.length ∧ ys.length = xs.length ∧ ∀ (k : Nat) (a : DyePartR) (y z : Int), xs[k]? = some a → ys[k]? = some y → nd.getD k 0 = z → ∃ (zs : List Int) (l t yy : Int), zs.length = xs.length ∧ zs.getD k 0 = y ∧
      ∀ (w : World) (A : Option Addr) (c : Nat) (A' : Option Addr) (c' : Nat), RdF dyePartF w w.heap.size A xs.length c xs → Rd w w.heap.size A' out.length c' out → Calls Try.prog 17 #[.slice A xs.length c, bathV oL oT 0 (.slice A' out.length c'), .string a.f0, .int .i64 z] w (OutBath w l t yy zs true) := by
  have hb : bathB xs L T Y ys = true := by unfold dyeB at h; rw [Bool.and_eq_true] at h; exact h.1
  obtain ⟨hrec, hle, hgr, hL, hT, hY⟩ := bath_of hb
  have hnb : needsForB xs Y = true := by unfold needsForB; rw [hrec, gram_yes hY.1 hY.2]; rfl
  have hnd : nd = needs xs Y := by rw [← e4]; unfold needsForL; rw [if_pos hnb]
  rw [(dye_yes h).1] at e1 e2
  rw [(dye_yes h).2] at e3
  subst e1 e2 e3 hnd
  refine ⟨needs_len _ _, hle, fun k a y z ha hy hz => ?_⟩
  obtain ⟨h1, h2, h3⟩ := add_back h ha hy
  have hz' : z = needI a Y := by rw [← hz, List.getD_eq_getElem?_getD, needs_at ha]; rfl
  subst hz'
  refine ⟨addL xs L T 0 (leftL xs Y ys) a.f0 (needI a Y), addN xs L T 0 (leftL xs Y ys) a.f0 (needI a Y) L, addN xs L T 0 (leftL xs Y ys) a.f0 (needI a Y) T, addN xs L T 0 (leftL xs Y ys) a.f0 (needI a Y) 0, h2, by rw [List.getD_eq_getElem?_getD, h3]; rfl, fun w A c A' c' hx hl => ?_⟩
  have := implAddStuff_any A _ c _ xs L T 0 A' _ c' _ (leftL xs Y ys) a.f0 (needI a Y) w hx (Nat.le_refl _) hl (Nat.le_refl _)
  rw [h1] at this
  exact this
end Go.Proofs.Ytjlidgeeehlkcaa
