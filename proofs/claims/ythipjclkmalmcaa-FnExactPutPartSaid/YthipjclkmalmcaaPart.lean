/- The walks of PartOf, the program's and the model's, and of what they call. No condition. -/
import Derived.Test.YthipjclkmalmcaaRun
import Derived.Test.YthipjclkmalmcaaCopy
import Derived.Test.YthipjclkmalmcaaStep
import Derived.Test.YthipjclkmalmcaaPartMath
namespace Go.Proofs.Ythipjclkmalmcaa
open Go.RowKit

def partOk (W H : Int) (xs : List Int) (row col h k : Int) : Bool := goodB W H xs && withinB W H row col h k
theorem fits_spec {W H : Int} {xs : List Int} {row col h k : Int} : partOk W H xs row col h k = (knotOk W H xs row col && inB h 1 (H - row) && inB k 1 (W - col)) := by
  rw [Bool.eq_iff_iff]
  simp [partOk, knotOk, withinB, inB, and_assoc]
  intro _ _ _
  exact ⟨fun h => by omega, fun h => by omega⟩
set_option maxHeartbeats 1000000 in
theorem l2Fits_any (W H : Int) (A : Option Addr) (n c B : Nat) (xs : List Int) (row col h k : Int) (w : World) (hR : Rd w B A n c xs) (hB : B ≤ w.heap.size) :
    Calls Try.prog 51 #[chartV W H (.slice A n c), .int .i64 row, .int .i64 col, .int .i64 h, .int .i64 k] w (Out w (.bool (partOk W H xs row col h k))) := by
  have hb0 := Lib.hid (show Below w.heap.size w (w.alloc (.cells #[.int .i64 W, .int .i64 H, .slice A n c] 36)) from (Below.refl _ _).alloc (Nat.le_refl _) _)
  have h' := Lib.hid (hR.alloc hB (.cells #[.int .i64 W, .int .i64 H, .slice A n c] 36))
  have x0 := Blk.new w #[.int .i64 W, .int .i64 H, .slice A n c] 36
  rw [fits_spec]
  by_cases hk : knotOk W H xs row col = true
  · have hg : goodB W H xs = true := by simp [knotOk] at hk; exact hk.1
    have hw : withinB W H row col 1 1 = true := by simp [knotOk] at hk; exact hk.2
    obtain ⟨hW, hH, _, _⟩ := goodB_yes hg
    obtain ⟨r0, c0, _, _, r1, c1⟩ := withinB_yes hw
    by_cases h1 : inB h 1 (H - row) = true
    · go_enter Try.func51, Try.ntmps51
      go_wp2_with fail
      refine (l2Within_any W H A n c B xs row col _ h'.out (by simp; omega)).mono ?_
      rintro e w1 ⟨rfl, hb⟩
      have x1 := x0.all hb
      have e0 := x1.cell 0
      have e1 := x1.cell 1
      rw [hk]
      go_wp2_with (go_at_call 62; refine (l1In_any _ _ _ _).mono ?_; rintro e w' ⟨rfl, rfl⟩)
      go_ret
      exact ⟨ret_bool (by simp [hk, h1]), hb0.out.trans (hb.mono (by simp))⟩
    · have h1' := not_false h1
      go_enter Try.func51, Try.ntmps51
      go_wp2_with fail
      refine (l2Within_any W H A n c B xs row col _ h'.out (by simp; omega)).mono ?_
      rintro e w1 ⟨rfl, hb⟩
      have x1 := x0.all hb
      have e0 := x1.cell 0
      have e1 := x1.cell 1
      rw [hk]
      go_wp2_with (go_at_call 62; refine (l1In_any _ _ _ _).mono ?_; rintro e w' ⟨rfl, rfl⟩)
      go_ret
      exact ⟨ret_bool (by simp [h1']), hb0.out.trans (hb.mono (by simp))⟩
  · have hk' := not_false hk
    go_enter Try.func51, Try.ntmps51
    go_wp2_with fail
    refine (l2Within_any W H A n c B xs row col _ h'.out (by simp; omega)).mono ?_
    rintro e w1 ⟨rfl, hb⟩
    rw [hk']
    go_wp2_with fail
    go_ret
    exact ⟨ret_bool (by simp [hk']), hb0.out.trans (hb.mono (by simp))⟩

def partX (W H : Int) (xs : List Int) (row col h k : Int) : List Int := if partOk W H xs row col h k = true then partL W.toNat xs row.toNat col.toNat h.toNat k.toNat else []
/-- A part that fits, in natural numbers. -/
theorem part_nat {W H : Int} {xs : List Int} {row col h k : Int} (hp : partOk W H xs row col h k = true) :
    ∃ m kk r c h' k' : Nat, W = m ∧ H = kk ∧ row = r ∧ col = c ∧ h = h' ∧ k = k' ∧ goodB m kk xs = true ∧ 1 ≤ m ∧ m ≤ 8 ∧ kk ≤ 8 ∧ Hid (xs.length = m * kk) ∧ m * kk ≤ 64 ∧ xs.length ≤ 64 ∧ 1 ≤ xs.length ∧ r + h' ≤ kk ∧ c + k' ≤ m ∧ 1 ≤ h' ∧ 1 ≤ k' := by
  have hg : goodB W H xs = true := by simp [partOk] at hp; exact hp.1
  have hw : withinB W H row col h k = true := by simp [partOk] at hp; exact hp.2
  obtain ⟨m, kk, rfl, rfl, m1, m8, k1, k8, hl, h64, hl1, _⟩ := good_nat hg
  obtain ⟨r0, c0, h0, k0, rh, ck⟩ := withinB_yes hw
  obtain ⟨r, rfl⟩ := Int.eq_ofNat_of_zero_le r0
  obtain ⟨c, rfl⟩ := Int.eq_ofNat_of_zero_le c0
  obtain ⟨h', rfl⟩ := Int.eq_ofNat_of_zero_le (show 0 ≤ h by omega)
  obtain ⟨k', rfl⟩ := Int.eq_ofNat_of_zero_le (show 0 ≤ k by omega)
  exact ⟨m, kk, r, c, h', k', rfl, rfl, rfl, rfl, rfl, rfl, hg, m1, m8, k8, hl, by have := hl.out; omega, h64, hl1, by omega, by omega, by omega, by omega⟩
theorem part_le {m kk r c h k : Nat} (h64 : m * kk ≤ 64) (hrh : r + h ≤ kk) (hck : c + k ≤ m) : h * k ≤ 64 := by
  have : h * k ≤ kk * m := Nat.mul_le_mul (by omega) (by omega)
  rw [Nat.mul_comm kk m] at this
  omega
theorem partX_len (W H : Int) (xs : List Int) (row col h k : Int) : (partX W H xs row col h k).length ≤ 1048576 := by
  unfold partX
  split
  · rename_i hp
    obtain ⟨m, kk, r, c, h', k', rfl, rfl, rfl, rfl, rfl, rfl, _, _, _, _, _, h64, _, _, hrh, hck, _⟩ := part_nat hp
    rw [partL_len]
    have := part_le h64 hrh hck
    simp only [Int.toNat_natCast]
    omega
  · simp
end Go.Proofs.Ythipjclkmalmcaa
