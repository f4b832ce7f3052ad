/- The walks of what draws numbers: pick, one, among, color, symmetry. Condition: fewer than 4294967296 draws. -/
import Derived.Test.YtihhlldpdfihfaaNext
namespace Go.Proofs.Ytihhlldpdfihfaa
open Go.RowKit

theorem tmod_bd {x n : Int} (hn : 1 < n) : 0 ≤ x % n ∧ x % n < n := by
  exact ⟨Int.emod_nonneg _ (by omega), Int.emod_lt_of_pos _ (by omega)⟩
theorem grown_same (w : World) (row : Option Nat) : w.grownBy w row := ⟨rfl, rfl, rfl, Nat.le_refl _, fun _ _ _ => rfl⟩
set_option maxRecDepth 100000 in
set_option maxHeartbeats 1000000 in
theorem pick_any (p k : Nat) (n : Int) (w : World) (h : Cur w p k) (hk : k + 2 ≤ 4294967296) (hn : n ≤ 1000000) (hn0 : -1000000 ≤ n) : Calls Try.prog 34 #[.pointer (some ⟨p, 0, none⟩), .int .i64 n] w (Drew w p (k + 2) fun y => 0 ≤ y ∧ (y < n ∨ y = 0)) := by
  by_cases h1 : n ≤ 1
  · go_enter Try.func34, Try.ntmps34
    go_wp2
    go_ret
    exact ⟨0, rfl, ⟨Int.le_refl _, .inr rfl⟩, h.more (by omega), grown_same _ _⟩
  · have hne : ¬ n = 0 := by omega
    by_cases h2 : n ≤ 200
    · go_enter Try.func34, Try.ntmps34
      go_wp2_with fail
      refine (next_any p k _ h (by omega)).mono ?_
      rintro e w1 ⟨x, rfl, ⟨x0, x1⟩, hc, hg⟩
      have hb := tmod_bd (x := x) (show 1 < n by omega)
      clear h
      go_wp2
      go_ret
      exact ⟨_, rfl, ⟨hb.1, .inl hb.2⟩, hc.more (by omega), hg⟩
    · go_enter Try.func34, Try.ntmps34
      go_wp2_with fail
      refine (next_any p k _ h (by omega)).mono ?_
      rintro e w1 ⟨x, rfl, ⟨x0, x1⟩, hc, hg⟩
      clear h
      go_wp2_with fail
      refine (next_any p (k + 1) _ hc (by omega)).mono ?_
      rintro e w2 ⟨y, rfl, ⟨y0, y1⟩, hc2, hg2⟩
      have hb := tmod_bd (x := x * 256 + y) (show 1 < n by omega)
      clear hc
      go_wp2
      go_ret
      exact ⟨_, rfl, ⟨hb.1, .inl hb.2⟩, hc2, grown_trans hg hg2⟩
set_option maxRecDepth 100000 in
set_option maxHeartbeats 400000 in
theorem one_any (p k : Nat) (n : Int) (w : World) (h : Cur w p k) (hk : k + 2 ≤ 4294967296) (hn : n ≤ 1000000) (hn0 : -1000000 ≤ n) : Calls Try.prog 45 #[.pointer (some ⟨p, 0, none⟩), .int .i64 n] w fun e w' => ∃ d : Bool, e = .returned (.bool d) ∧ Cur w' p (k + 2) ∧ w.grownBy w' (some p) := by
  go_enter Try.func45, Try.ntmps45
  go_wp2_with fail
  refine (pick_any p k n _ h hk hn hn0).mono ?_
  rintro e w1 ⟨x, rfl, _, hc, hg⟩
  go_wp2
  go_ret
  exact ⟨_, rfl, hc, hg⟩
set_option maxRecDepth 100000 in
set_option maxHeartbeats 400000 in
theorem among_any (p k b off n c B : Nat) (xs : List Int) (w : World) (h : Cur w p k) (hk : k + 2 ≤ 4294967296) (hR : Rd w B (some ⟨b, off, none⟩) n c xs) (hn1 : 1 ≤ n) (hn : n ≤ 1000) (hpb : b ≠ p) :
    Calls Try.prog 33 #[.pointer (some ⟨p, 0, none⟩), .slice (some ⟨b, off, none⟩) n c] w (Drew w p (k + 2) fun y => y ∈ xs) := by
  obtain rfl := hR.len
  obtain ⟨_, _, e, _, hcell⟩ := hR.cells (by omega)
  cases e
  go_enter Try.func33, Try.ntmps33
  go_wp2_with fail
  refine (pick_any p k xs.length _ h hk (by omega) (by omega)).mono ?_
  rintro e w1 ⟨x, rfl, ⟨x0, x1⟩, hc, hg⟩
  have hxl : x < (xs.length : Int) := by omega
  obtain ⟨q, rfl⟩ := Int.eq_ofNat_of_zero_le x0
  have hq : q < xs.length := by omega
  have hx := hg.cell (a := ⟨b, off + q, none⟩) (hcell q hq) (by simpa using hpb)
  clear h hR hcell x1
  go_wp2
  go_ret
  exact ⟨_, rfl, List.getElem_mem hq, hc, hg⟩
/-- A small list of numbers that the call itself has laid. -/
theorem lit_rd (w : World) (xs : List Int) (h : ∀ x ∈ xs, I64 x) (hn : xs.length ≤ 1000) :
    Rd (w.alloc (.cells (xs.map (Value.int .i64)).toArray 3)) (w.heap.size + 1) (some ⟨w.heap.size, 0, none⟩) xs.length xs.length xs :=
  ⟨rfl, Nat.le_refl _, by unfold maxLen; omega, fun _ => ⟨w.heap.size, 0, rfl, by omega, fun j hj => by
    rw [Nat.zero_add, (Blk.new w _ _).cell]
    simp [hj]⟩, h, fun e => by cases e⟩
end Go.Proofs.Ytihhlldpdfihfaa
