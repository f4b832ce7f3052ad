/- Splitting a text at a byte, as plain mathematics. No condition. -/
import Derived.WalkKit
namespace Go.Proofs.YtcingmfeepcpjaaDoor

def splitGo (b : UInt8) (cur : List UInt8) : List UInt8 → List (List UInt8)
  | [] => [cur]
  | c :: r => if c = b then cur :: splitGo b [] r else splitGo b (cur ++ [c]) r
def splitL (b : UInt8) (l : List UInt8) : List (List UInt8) := splitGo b [] l

theorem splitGo_hit (b : UInt8) (cur l : List UInt8) (k : Nat) (h : k < l.length) (hb : l[k] = b) :
    splitGo b cur (l.drop k) = cur :: splitGo b [] (l.drop (k + 1)) := by
  rw [List.drop_eq_getElem_cons h, splitGo, if_pos hb]
theorem splitGo_miss (b : UInt8) (cur l : List UInt8) (k : Nat) (h : k < l.length) (hb : l[k] ≠ b) :
    splitGo b cur (l.drop k) = splitGo b (cur ++ [l[k]]) (l.drop (k + 1)) := by
  rw [List.drop_eq_getElem_cons h, splitGo, if_neg hb]
theorem piece_snoc (l : List UInt8) (fr k : Nat) (h : k < l.length) (hf : fr ≤ k) : (l.drop fr).take (k - fr) ++ [l[k]] = (l.drop fr).take (k + 1 - fr) := by
  have e : k + 1 - fr = (k - fr) + 1 := by omega
  rw [e, List.take_succ_eq_append_getElem (by rw [List.length_drop]; omega)]
  congr 2
  rw [List.getElem_drop]; congr 1; omega
theorem splitGo_ne (b : UInt8) : ∀ (l cur : List UInt8), splitGo b cur l ≠ [] := by
  intro l
  induction l with
  | nil => intro cur h; simp [splitGo] at h
  | cons c r ih => intro cur h; rw [splitGo] at h; split at h
                   · cases h
                   · exact ih _ h
theorem splitGo_head (b : UInt8) : ∀ (l cur : List UInt8), (splitGo b cur l).head? = some (cur ++ l.takeWhile (· ≠ b)) := by
  intro l
  induction l with
  | nil => intro cur; simp [splitGo]
  | cons c r ih =>
    intro cur
    rw [splitGo]
    split
    · rename_i h; simp [h]
    · rename_i h; rw [ih]; simp [h]
theorem splitL_head (b : UInt8) (l : List UInt8) : (splitL b l).head? = some (l.takeWhile (· ≠ b)) := by
  unfold splitL; rw [splitGo_head]; rfl
end Go.Proofs.YtcingmfeepcpjaaDoor
