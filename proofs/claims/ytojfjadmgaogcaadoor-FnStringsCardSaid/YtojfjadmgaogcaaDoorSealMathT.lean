/- What AppendChecksum and VerifyChecksum compute, as plain mathematics. No condition. -/
import Derived.Test.YtojfjadmgaogcaaDoorSumMathT
import Derived.Test.YtojfjadmgaogcaaDoorNumMathT
import Derived.Test.YtojfjadmgaogcaaDoorSplitMathT
import Derived.Lib.IndexMore
namespace Go.Proofs.YtojfjadmgaogcaaDoor

def hash1 : ByteArray := ⟨#[35]⟩
def sealB (s : ByteArray) : ByteArray := s ++ hash1 ++ numB (chk s.data.toList)
theorem chk6 (s : ByteArray) : -999999 ≤ chk s.data.toList ∧ chk s.data.toList ≤ 999999 := by have := chk_bd s.data.toList; omega
theorem sealB_size (s : ByteArray) : s.size + 1 ≤ (sealB s).size ∧ (sealB s).size ≤ s.size + 8 := by
  have := numB_size _ (chk6 s).1 (chk6 s).2
  have e : hash1.size = 1 := rfl
  unfold sealB; rw [ByteArray.size_append, ByteArray.size_append]; omega
def txtB (s : ByteArray) : ByteArray := ⟨(s.data.toList.takeWhile (· ≠ 35)).toArray⟩
theorem txtB_toList (s : ByteArray) : (txtB s).data.toList = s.data.toList.takeWhile (· ≠ 35) := by simp [txtB]
def apE (s : ByteArray) : Ending := if s.size ≤ 4000 ∧ s.data.toList.contains 35 = false ∧ (sealB s).size ≤ 4000 then .returned (.tuple #[.string (sealB s), .bool true]) else .returned (.tuple #[.string ⟨#[]⟩, .bool false])
def verE (s : ByteArray) : Ending := if s.size ≤ 4000 ∧ sealB (txtB s) = s then .returned (.tuple #[.string (txtB s), .bool true]) else .returned (.tuple #[.string ⟨#[]⟩, .bool false])

theorem tw_all {p : UInt8 → Bool} : ∀ l : List UInt8, (∀ x ∈ l, p x = true) → l.takeWhile p = l
  | [], _ => rfl
  | a :: l, h => by rw [List.takeWhile_cons_of_pos (h a (by simp)), tw_all l (fun x hx => h x (by simp [hx]))]
theorem tw_mem {p : UInt8 → Bool} : ∀ (l : List UInt8) (x : UInt8), x ∈ l.takeWhile p → p x = true
  | [], x, h => by simp at h
  | a :: l, x, h => by
    by_cases ha : p a = true
    · rw [List.takeWhile_cons_of_pos ha] at h
      rcases List.mem_cons.1 h with rfl | h
      · exact ha
      · exact tw_mem l x h
    · rw [List.takeWhile_cons_of_neg ha] at h; simp at h
theorem index_one : ∀ (l : List UInt8) (c : UInt8), Lib.index l [c] = if l.contains c then ((l.takeWhile (· ≠ c)).length : Int) else -1 := by
  intro l c
  induction l with
  | nil => simp [Lib.index]
  | cons b r ih =>
    by_cases h : b = c
    · subst h; simp [Lib.index, List.isPrefixOf]
    · have h' : ¬ c = b := fun e => h e.symm
      have hb : (c == b) = false := by simp [h']
      simp only [Lib.index, List.isPrefixOf, hb, Bool.false_and, ih]
      by_cases hc : r.contains c = true
      · have : List.contains (b :: r) c = true := by rw [List.contains_cons, hb]; simpa using hc
        rw [if_pos hc, if_pos this, if_neg (by simp), if_neg (by simp), List.takeWhile_cons_of_pos (by simp [h])]
        simp
      · have : ¬ List.contains (b :: r) c = true := by rw [List.contains_cons, hb]; simpa using hc
        rw [if_neg hc, if_neg this]; simp
theorem contains_one (l : List UInt8) (c : UInt8) : Lib.contains l [c] = l.contains c := by
  unfold Lib.contains; rw [index_one]
  by_cases h : l.contains c = true
  · rw [if_pos h, h]; simp
  · rw [if_neg h]; simp at h; simp [h]
theorem cut_one (l : List UInt8) (c : UInt8) : (Lib.cut l [c]).1 = l.takeWhile (· ≠ c) := by
  unfold Lib.cut; rw [index_one]
  by_cases h : l.contains c = true
  · rw [if_pos h, if_pos (by omega)]
    show l.take ((l.takeWhile (· ≠ c)).length : Int).toNat = _
    rw [Int.toNat_natCast]
    conv => lhs; arg 2; rw [← List.takeWhile_append_dropWhile (p := (· ≠ c)) (l := l)]
    rw [List.take_left']
    rfl
  · rw [if_neg h, if_neg (by omega)]
    refine (tw_all l (fun x hx => ?_)).symm
    have : x ≠ c := fun e => h (by rw [← e]; simpa using hx)
    simpa using this
theorem txt_le (s : ByteArray) : (txtB s).size ≤ s.size := by
  have h1 : (txtB s).size = (txtB s).data.toList.length := by rw [Array.length_toList]; rfl
  have h2 : s.size = s.data.toList.length := by rw [Array.length_toList]; rfl
  rw [h1, txtB_toList, h2]; exact (List.takeWhile_sublist _).length_le
theorem txt_no (s : ByteArray) : (txtB s).data.toList.contains 35 = false := by
  rw [txtB_toList, List.contains_eq_mem]
  apply decide_eq_false
  intro h
  have := tw_mem _ _ h
  simp at this
/-- What the program tests is what the document asks. -/
theorem ver_iff (s : ByteArray) : (apE (txtB s) = .returned (.tuple #[.string s, .bool true])) ↔ (s.size ≤ 4000 ∧ sealB (txtB s) = s) := by
  constructor
  · intro h
    unfold apE at h
    split at h
    · rename_i hc
      injection h with h; injection h with h
      have := congrArg (fun a => a[0]?) h
      simp at this
      exact ⟨by rw [← this]; exact hc.2.2, this⟩
    · injection h with h; injection h with h
      have := congrArg (fun a => a[1]?) h
      simp at this
  · rintro ⟨h1, h2⟩
    unfold apE
    rw [if_pos ⟨by have := txt_le s; omega, txt_no s, by rw [h2]; exact h1⟩, h2]
end Go.Proofs.YtojfjadmgaogcaaDoor
