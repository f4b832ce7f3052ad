/- A sealed text in which any single byte is changed is no sealed text. No condition. -/
import Derived.Test.YtojfjadmgaogcaaDoorSealMathT
namespace Go.Proofs.YtojfjadmgaogcaaDoor
open Go.Lib

theorem chkStep_inj {h1 h2 : Int} (a1 : 0 ≤ h1 ∧ h1 < 999979) (a2 : 0 ≤ h2 ∧ h2 < 999979) (c : UInt8) (h : chkStep h1 c = chkStep h2 c) : h1 = h2 := by
  unfold chkStep at h
  omega
theorem chkStep_byte {h : Int} {a b : UInt8} (e : chkStep h a = chkStep h b) : a = b := by
  unfold chkStep at e
  have h1 := a.toNat_lt
  have h2 := b.toNat_lt
  exact UInt8.toNat.inj (by omega)
theorem chkFold_inj (l : List UInt8) : ∀ h1 h2 : Int, 0 ≤ h1 ∧ h1 < 999979 → 0 ≤ h2 ∧ h2 < 999979 → l.foldl chkStep h1 = l.foldl chkStep h2 → h1 = h2 := by
  induction l with
  | nil => intro h1 h2 _ _ h; exact h
  | cons c l ih => intro h1 h2 a1 a2 h; exact chkStep_inj a1 a2 c (ih _ _ (chkStep_bd h1 c) (chkStep_bd h2 c) h)
theorem chk_change (pre post : List UInt8) (a b : UInt8) (h : chk (pre ++ a :: post) = chk (pre ++ b :: post)) : a = b := by
  unfold chk at h
  rw [List.foldl_append, List.foldl_append, List.foldl_cons, List.foldl_cons] at h
  exact chkStep_byte (chkFold_inj post _ _ (chkStep_bd _ a) (chkStep_bd _ b) h)
theorem chk_set {S : List UInt8} {i : Nat} {b : UInt8} (hi : i < S.length) (h : chk (S.set i b) = chk S) : S[i] = b := by
  have e : S.take i ++ S[i] :: S.drop (i + 1) = S := by rw [List.getElem_cons_drop, List.take_append_drop]
  have e2 : S.set i b = S.take i ++ b :: S.drop (i + 1) := List.set_eq_take_append_cons_drop.trans (if_pos hi)
  rw [e2] at h
  exact (chk_change (S.take i) (S.drop (i + 1)) b S[i] (h.trans (congrArg chk e.symm))).symm
theorem itoa_no (n : Int) (h : 0 ≤ n) : ∀ x ∈ itoa n, x ≠ 35 := by
  intro x hx
  unfold itoa at hx
  rw [if_neg (by omega)] at hx
  have := (dec_facts n.toNat).1 x hx
  intro e
  subst e
  simp at this
theorem itoa_inj {a b : Int} (ha : 0 ≤ a ∧ a < 999979) (hb : 0 ≤ b ∧ b < 999979) (h : itoa a = itoa b) : a = b := by
  have x := atoi_itoa a (by omega) (by omega)
  rw [h, atoi_itoa b (by omega) (by omega)] at x
  injection x with x
  exact x.symm
theorem only_one {S D : List UInt8} (hS : ∀ x ∈ S, x ≠ 35) (hD : ∀ x ∈ D, x ≠ 35) {j : Nat} (h : (S ++ 35 :: D)[j]? = some 35) : j = S.length := by
  rw [List.getElem?_append] at h
  split at h
  · exact absurd rfl (hS 35 (List.mem_of_getElem? h))
  · rename_i hj
    by_cases e : j = S.length
    · exact e
    · rw [List.getElem?_cons, if_neg (by omega)] at h
      exact absurd rfl (hD 35 (List.mem_of_getElem? h))
theorem at_one (S D : List UInt8) : (S ++ (35 : UInt8) :: D)[S.length]? = some 35 := by simp

theorem sealed_once {S T : List UInt8} (hS : ∀ x ∈ S, x ≠ 35) (hT : ∀ x ∈ T, x ≠ 35) {i : Nat} {b : UInt8} (hi : i < (S ++ 35 :: itoa (chk S)).length) (hb : (S ++ 35 :: itoa (chk S))[i] ≠ b) (h : T ++ 35 :: itoa (chk T) = (S ++ 35 :: itoa (chk S)).set i b) : False := by
  have dS := itoa_no _ (chk_bd S).1
  have dT := itoa_no _ (chk_bd T).1
  have other : ∀ j, j ≠ i → (T ++ 35 :: itoa (chk T))[j]? = (S ++ 35 :: itoa (chk S))[j]? := fun j hj => by rw [h, List.getElem?_set_ne (Ne.symm hj)]
  by_cases e : i = S.length
  · subst e
    by_cases e2 : T.length = S.length
    · have h1 := at_one T (itoa (chk T))
      rw [e2, h, List.getElem?_set_self hi] at h1
      have h2 := at_one S (itoa (chk S))
      rw [List.getElem?_eq_getElem hi] at h2
      exact hb ((Option.some.inj h2).trans (Option.some.inj h1).symm)
    · have h1 := other T.length e2
      rw [at_one] at h1
      exact e2 (only_one hS dS h1.symm)
  · have h1 := other S.length (Ne.symm e)
    rw [at_one] at h1
    have e2 : S.length = T.length := only_one hT dT h1
    rw [List.set_append] at h
    split at h
    · rename_i hl
      obtain ⟨h3, h4⟩ := List.append_inj h (by simp [e2])
      have h5 : itoa (chk T) = itoa (chk S) := (List.cons.inj h4).2
      have h6 := itoa_inj (chk_bd T) (chk_bd S) h5
      rw [h3] at h6
      have h7 := chk_set hl h6
      rw [List.getElem_append_left hl] at hb
      exact hb h7
    · rename_i hl
      obtain ⟨h3, h4⟩ := List.append_inj h e2.symm
      subst h3
      obtain ⟨k, hk⟩ : ∃ k, i - T.length = k + 1 := ⟨i - T.length - 1, by omega⟩
      rw [hk, List.set_cons_succ] at h4
      have h5 : itoa (chk T) = (itoa (chk T)).set k b := (List.cons.inj h4).2
      have hk2 : k < (itoa (chk T)).length := by simp at hi; omega
      have h6 : (itoa (chk T))[k]? = some b := by rw [h5, List.getElem?_set_self hk2]
      apply hb
      have h7 : (T ++ 35 :: itoa (chk T))[i]? = some b := by rw [List.getElem?_append_right (by omega), hk, List.getElem?_cons_succ, h6]
      rw [List.getElem?_eq_getElem hi] at h7
      exact Option.some.inj h7

theorem sealB_toList (s : ByteArray) : (sealB s).data.toList = s.data.toList ++ 35 :: itoa (chk s.data.toList) := by
  simp [sealB, hash1, numB]
theorem no_of {s : ByteArray} (h : s.data.toList.contains 35 = false) : ∀ x ∈ s.data.toList, x ≠ 35 := by
  intro x hx e
  subst e
  simp at h
  exact h (by simpa using hx)
theorem txtB_sealB {s : ByteArray} (h : s.data.toList.contains 35 = false) : txtB (sealB s) = s := by
  have e : (sealB s).data.toList.takeWhile (· ≠ 35) = s.data.toList := by
    rw [sealB_toList, List.takeWhile_append_of_pos (fun x hx => by simpa using no_of h x hx)]
    simp
  unfold txtB
  rw [e]
/-- What is sealed is open, and what it holds is told. -/
theorem ver_sealB {s : ByteArray} (h : s.data.toList.contains 35 = false) (hl : (sealB s).size ≤ 4000) : verE (sealB s) = .returned (.tuple #[.string s, .bool true]) := by
  unfold verE
  rw [txtB_sealB h, if_pos ⟨hl, rfl⟩]
/-- One byte of what is sealed is changed: it is not open. -/
theorem ver_changed {s y : ByteArray} (h : s.data.toList.contains 35 = false) {i : Nat} {b : UInt8} (hi : i < (sealB s).data.toList.length) (hb : (sealB s).data.toList[i] ≠ b) (hy : y.data.toList = (sealB s).data.toList.set i b) : verE y = .returned (.tuple #[.string ⟨#[]⟩, .bool false]) := by
  unfold verE
  refine if_neg fun ⟨_, e⟩ => ?_
  have e2 := congrArg (fun z : ByteArray => z.data.toList) e
  rw [sealB_toList, hy, sealB_toList] at e2
  have hi2 : i < (s.data.toList ++ 35 :: itoa (chk s.data.toList)).length := by rw [← sealB_toList]; exact hi
  exact sealed_once (no_of h) (no_of (txt_no y)) hi2 (by simpa only [sealB_toList] using hb) e2
end Go.Proofs.YtojfjadmgaogcaaDoor
