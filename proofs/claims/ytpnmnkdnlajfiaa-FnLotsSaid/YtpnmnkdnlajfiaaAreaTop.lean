/- The walks of AreasOf and AreaCount, both texts. No condition. -/
import Derived.Test.YtpnmnkdnlajfiaaNumbers
import Derived.Test.YtpnmnkdnlajfiaaAreaIs
namespace Go.Proofs.Ytpnmnkdnlajfiaa
open Go.RowKit

theorem good_open {W H : Int} {A : Option Addr} {n c B : Nat} {xs : List Int} {w : World} (hg : goodB W H xs = true) (h : Rd w B A n c xs) :
    ∃ m k b off : Nat, W = m ∧ H = k ∧ A = some ⟨b, off, none⟩ ∧ n = xs.length ∧ 1 ≤ m ∧ m ≤ 8 ∧ 1 ≤ k ∧ k ≤ 8 ∧ Hid (xs.length = m * k) ∧ xs.length ≤ 64 ∧ 1 ≤ xs.length ∧ Hid (∀ x ∈ xs, 0 ≤ x ∧ x < 6) := by
  obtain ⟨m, k, h1, h2, h3, h4, h5, h6, h7, h8, h9, h10⟩ := good_nat hg
  have hl := h.len
  obtain ⟨b, off, e, _⟩ := h.cells (by omega)
  exact ⟨m, k, b, off, h1, h2, e, hl.symm, h3, h4, h5, h6, h7, h8, h9, h10⟩
noncomputable def areasL (W H : Int) (xs : List Int) : List Int := if goodB W H xs = true then labsOf W.toNat xs else []
noncomputable def areasN (W H : Int) (xs : List Int) : Int := if goodB W H xs = true then ((cntOf W.toNat xs : Nat) : Int) else 0
theorem areasL_yes {m k : Nat} {xs : List Int} (h : goodB m k xs = true) : areasL m k xs = labsOf m xs := if_pos h
theorem areasL_no {W H : Int} {xs : List Int} (h : goodB W H xs = false) : areasL W H xs = [] := if_neg (by rw [h]; decide)
theorem areasN_yes {m k : Nat} {xs : List Int} (h : goodB m k xs = true) : areasN m k xs = ((cntOf m xs : Nat) : Int) := if_pos h
theorem areasN_no {W H : Int} {xs : List Int} (h : goodB W H xs = false) : areasN W H xs = 0 := if_neg (by rw [h]; decide)
theorem areasL_len (W H : Int) (xs : List Int) : (areasL W H xs).length ≤ 1048576 := by
  cases hg : goodB W H xs with
  | false => rw [areasL_no hg]; simp
  | true =>
    have := (good_bd hg).1
    rw [show areasL W H xs = labsOf W.toNat xs from if_pos hg, labs_len]
    omega
end Go.Proofs.Ytpnmnkdnlajfiaa
