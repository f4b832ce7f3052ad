/- The walk of what draws a text out of some (where any1 is not reached). Condition: few draws. -/
import Derived.Test.YtjlidgeeehlkcaaPick
import Derived.Test.YtjlidgeeehlkcaaStrs
namespace Go.Proofs.Ytjlidgeeehlkcaa
open Go.RowKit

/-- What a draw of a text leaves. -/
def DrewText (w : World) (p k : Nat) (P : ByteArray → Prop) (e : Ending) (w' : World) : Prop := ∃ y : ByteArray, e = .returned (.string y) ∧ P y ∧ Cur w' p k ∧ w.grownBy w' (some p)
set_option maxRecDepth 100000 in
set_option maxHeartbeats 400000 in
theorem of_any (p k b off n c B : Nat) (xs : List ByteArray) (w : World) (h : Cur w p k) (hk : k + 2 ≤ 4294967296) (hR : RdF strF w B (some ⟨b, off, none⟩) n c xs) (hn1 : 1 ≤ n) (hn : n ≤ 1000) (hpb : b ≠ p) :
    Calls Try.prog 36 #[.pointer (some ⟨p, 0, none⟩), .slice (some ⟨b, off, none⟩) n c] w (DrewText w p (k + 2) fun y => y ∈ xs) := by
  obtain rfl := hR.len
  go_enter Try.func36, Try.ntmps36
  go_wp2_with fail
  refine (pick_any p k xs.length _ h hk (by omega) (by omega)).mono ?_
  rintro e w1 ⟨x, rfl, ⟨x0, x1⟩, hc, hg⟩
  have hxl : x < (xs.length : Int) := by omega
  obtain ⟨q, rfl⟩ := Int.eq_ofNat_of_zero_le x0
  have hq : q < xs.length := by omega
  obtain ⟨_, _, y, e, _, _, hcell, HY⟩ := strs_at hR hq
  cases e
  have hx := hg.cell (a := ⟨b, off + q, none⟩) hcell (by simpa using hpb)
  have hm : y ∈ xs := List.mem_of_getElem? HY.out
  clear h hR hcell x1 HY
  go_wp2
  go_ret
  exact ⟨_, rfl, hm, hc, hg⟩
/-- A small list of texts that the call itself has laid. -/
theorem lit_strs (w : World) (xs : List ByteArray) (h : ∀ x ∈ xs, x.size ≤ maxLen) (hn : xs.length ≤ 1000) :
    RdF strF (w.alloc (.cells (xs.map Value.string).toArray 9)) (w.heap.size + 1) (some ⟨w.heap.size, 0, none⟩) xs.length xs.length xs :=
  (OwnF.made strF (lo := w.heap.size) (xs.map Value.string).toArray xs (Nat.le_refl _) (by unfold maxLen; omega) (by rw [strF_flat]) h).rd.more (by simp)
theorem of_lit (p k q m : Nat) (xs : List ByteArray) (w : World) (hq : q = w.heap.size) (hm : m = xs.length) (h : Cur w p k) (hk : k + 2 ≤ 4294967296) (h1 : 1 ≤ xs.length) (hn : xs.length ≤ 1000) (hx : ∀ x ∈ xs, x.size ≤ maxLen) :
    Calls Try.prog 36 #[.pointer (some ⟨p, 0, none⟩), .slice (some ⟨q, 0, none⟩) m m] (w.alloc (.cells (xs.map Value.string).toArray 9)) fun e w' => ∃ y : ByteArray, e = .returned (.string y) ∧ y ∈ xs ∧ Cur w' p (k + 2) ∧ w.grownBy w' (some p) := by
  subst hq
  subst hm
  have hal := (Below.refl w.heap.size w).alloc (Nat.le_refl _) (.cells (xs.map Value.string).toArray 9)
  have hp := h.lt
  refine (of_any p k w.heap.size 0 xs.length xs.length _ xs _ (h.all hal) hk (lit_strs w xs hx hn) h1 hn (by omega)).mono ?_
  rintro e w' ⟨y, rfl, hy, hc, hg⟩
  exact ⟨y, rfl, hy, hc, grown_trans (below_grown hal) hg⟩
end Go.Proofs.Ytjlidgeeehlkcaa
