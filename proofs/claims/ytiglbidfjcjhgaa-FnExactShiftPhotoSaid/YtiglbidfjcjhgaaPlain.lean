/- The walks of PlainChart, the program's and the model's. No condition. -/
import Derived.Test.YtiglbidfjcjhgaaChart
namespace Go.Proofs.Ytiglbidfjcjhgaa
open Go.RowKit

def plainOk (W H k : Int) : Bool := isSideB W && isSideB H && isColorB k
def plainL (W H k : Int) : List Int := if plainOk W H k = true then List.replicate (W.toNat * H.toNat) k else []
theorem plainL_len (W H k : Int) : (plainL W H k).length ≤ 1048576 := by
  unfold plainL
  split
  · rename_i h
    simp only [plainOk, Bool.and_eq_true] at h
    have h1 := isSideB_yes h.1.1
    have h2 := isSideB_yes h.1.2
    rw [List.length_replicate]
    have : W.toNat * H.toNat ≤ 8 * 8 := Nat.mul_le_mul (by omega) (by omega)
    omega
  · simp
theorem rep_step {k : Int} {n j : Nat} {ys : List Int} (hj : j < n) (hl : ys.length = n) (h : ys.take j = List.replicate j k) : (ys.set j k).take (j + 1) = List.replicate (j + 1) k := by
  have := fill_step (xs := List.replicate n k) (ys := ys) (k := j) (x := k) (by rw [getD_at (by simpa using hj)]; simp) (by simpa using hj) (by simpa using hl) (by rw [List.take_replicate, Nat.min_eq_left (by omega)]; exact h)
  rwa [List.take_replicate, Nat.min_eq_left (by omega)] at this

set_option maxRecDepth 100000 in
set_option maxHeartbeats 1000000 in
theorem implPlainChart_yes (m k : Nat) (q : Int) (w : World) (hm : isSideB m = true) (hk : isSideB k = true) (hq : isColorB q = true) :
    Calls Try.prog 61 #[.int .i64 m, .int .i64 k, .int .i64 q] w (OutChart w m k (List.replicate (m * k) q) true) := by
  obtain ⟨i0, hi, hz0, hz1, hz2⟩ := info_parts info_int
  have hm8 := isSideB_yes hm
  have hk8 := isSideB_yes hk
  have h64 : m * k ≤ 8 * 8 := Nat.mul_le_mul (by omega) (by omega)
  have hq6 := isColorB_yes hq
  have e0 : (m : Int) * (k : Int) = ((m * k : Nat) : Int) := (Int.natCast_mul m k).symm
  have q0 : 0 ≤ (m : Int) * (k : Int) := by omega
  have q1 : (m : Int) * (k : Int) ≤ 64 := by omega
  have E0 := Lib.hid e0
  clear e0
  go_enter Try.func61, Try.ntmps61
  go_wp2_with (first | (go_at_call 70; refine (isSide_any _ _).mono ?_; rintro e w' ⟨rfl, rfl⟩) | (go_at_call 73; refine (isColor_any _ _).mono ?_; rintro e w' ⟨rfl, rfl⟩) | (at_make; refine wpList_make_full _ rfl _ _ 22 rfl w.heap.size 3 i0 (.int .i64 0) 1 Try.underlying22 hi hz0 hz1 _ _ _ _ (m * k) rfl rfl E0.out E0.out (by rw [hz2]; omega) (by unfold maxLen; omega) (by simp) ?_))
  intro w1 hown0 hg0
  have hz : w.heap.size + 1 < w1.heap.size := by have := (hown0.lt _ rfl).2; simpa using this
  have R0 := (Blk.new w #[.int .i64 0, .int .i64 0, .slice none 0 0] 28).mark hg0 (fun k h => by cases h)
  have hb1 := Lib.hid (((Below.refl w.heap.size w).alloc (Nat.le_refl _) _).grown hg0 (by simp) (fun k h => by cases h))
  clear hg0
  go_wp2
  have al : w1.grownBy (w1.alloc (.cells #[.int .i64 m, .int .i64 k, .slice (some ⟨w.heap.size + 1, 0, none⟩) (m * k) (m * k)] 28)) none := World.grownBy_alloc _ _ _
  go_loopw [34, 9] (fun i i' wr => ∃ (j : Nat) (ys : List Int), j ≤ m * k ∧ i = .int .i64 j ∧ ys.length = m * k ∧ ys.take j = List.replicate j q ∧
      wr.ownsRow w.heap.size 3 1 (.slice (some ⟨w.heap.size + 1, 0, none⟩) (m * k) (m * k)) (m * k) (ys.map (Value.int .i64)) ∧ Blk wr w.heap.size 28 #[.int .i64 0, .int .i64 0, .slice none 0 0] ∧
      Blk wr w1.heap.size 28 #[.int .i64 m, .int .i64 k, .slice (some ⟨w.heap.size + 1, 0, none⟩) (m * k) (m * k)] ∧ Below w.heap.size w wr)
    (fun i _ _ => m * k - (intOf i).toNat)
  case atStart => exact ⟨0, List.replicate (m * k) 0, Nat.zero_le _, rfl, by simp, by simp, by rw [List.map_replicate]; rw [toList_madeCells_one] at hown0; exact hown0.alloc _, R0.mark al (fun k h => by cases h), Blk.new _ _ _, hb1.out.alloc hb1.out.size _⟩
  case round =>
    obtain ⟨j, ys, hj, rfl, hyl, hyt, hown, r0, x0, hbl⟩ := hrel
    have HB := Lib.hid hbl
    have f2 := x0.cell 2
    clear hbl
    by_cases hlt : j < m * k
    · obtain ⟨y, hy⟩ : ∃ y, wr.cell? ⟨w.heap.size + 1, j, none⟩ = some y := ⟨.int .i64 (ys.getD j 0), by rw [hown.cellAt j (by omega), List.getElem?_map, List.getElem?_eq_getElem (by omega), getD_at (by omega)]; rfl⟩
      have hf := hown.frozenAt j
      have H := hown.stored j (.int .i64 q)
      have HY := Lib.hid (rep_step hlt hyl hyt)
      have HL := Lib.hid hyl
      have s0 := r0.mark H.2 (fun k hk => by cases hk; omega)
      have s1 := x0.mark H.2 (fun k hk => by cases hk; omega)
      clear hyl hyt
      go_wp2
      go_roundw
      case rel => exact ⟨j + 1, ys.set j q, by omega, by go_num, by rw [List.length_set]; exact HL.out, HY.out, by rw [List.map_set]; exact H.1, s0, s1, HB.out.setCell (p := ⟨w.heap.size + 1, j, none⟩) (by show w.heap.size ≤ w.heap.size + 1; omega) _⟩
      case measure => simp [intOf]; omega
    · have e : ys = List.replicate (m * k) q := by rw [List.take_of_length_le (by omega)] at hyt; rw [hyt]; congr 1; omega
      subst e
      have f0 := x0.cell 0
      have f1 := x0.cell 1
      have g0 := r0.cell 0
      have g1 := r0.cell 1
      have g2 := r0.cell 2
      have z0 := r0.frozen 0
      have z1 := r0.frozen 1
      have z2 := r0.frozen 2
      clear hyl hyt
      go_wp2
      have F := fin3 (p := w.heap.size) (a := .int .i64 m) (b := .int .i64 k) (c := .slice (some ⟨w.heap.size + 1, 0, none⟩) (m * k) (m * k))
        (show Own wr w.heap.size (.slice (some ⟨w.heap.size + 1, 0, none⟩) (m * k) (m * k)) (List.replicate (m * k) q) from ⟨by rw [List.length_replicate]; exact hown, fun x hx => by rw [List.eq_of_mem_replicate hx]; exact ⟨by omega, by omega⟩⟩) (by simp [Value.ownBlock]) HB.out (Nat.le_refl _)
      refine bodyPost_ret (v := .tuple #[chartV m k (.slice (some ⟨w.heap.size + 1, 0, none⟩) (m * k) (m * k)), .bool true]) (by simp [results, Try.results61, go_sem, g0, g1, g2]) rfl ⟨some ⟨w.heap.size + 1, 0, none⟩, m * k, by rw [List.length_replicate], by rw [List.length_replicate]; exact F.1, F.2⟩
theorem plain_no {m k q : Int} (h : ¬ plainOk m k q = true) : isSideB m = false ∨ (isSideB m = true ∧ isSideB k = false) ∨ (isSideB m = true ∧ isSideB k = true ∧ isColorB q = false) := by
  simp only [plainOk] at h
  cases h1 : isSideB m <;> cases h2 : isSideB k <;> cases h3 : isColorB q <;> simp_all
set_option maxRecDepth 100000 in
set_option maxHeartbeats 1000000 in
theorem implPlainChart_no (m k q : Int) (w : World) (h : ¬ plainOk m k q = true) :
    Calls Try.prog 61 #[.int .i64 m, .int .i64 k, .int .i64 q] w (OutChart w 0 0 [] false) := by
  rcases plain_no h with h1 | ⟨h1, h2⟩ | ⟨h1, h2, h3⟩
  all_goals
    go_enter Try.func61, Try.ntmps61
    go_wp2_with (first | (go_at_call 70; refine (isSide_any _ _).mono ?_; rintro e w' ⟨rfl, rfl⟩) | (go_at_call 73; refine (isColor_any _ _).mono ?_; rintro e w' ⟨rfl, rfl⟩))
    exact bodyPost_ret (v := .tuple #[chartV 0 0 (.slice none 0 0), .bool false]) (by simp [results, Try.results61, go_sem]) rfl ⟨none, 0, rfl, Own.nil _ _, (Below.refl _ _).alloc (Nat.le_refl _) _⟩
theorem rep_snoc (q : Int) (j : Nat) : List.replicate j q ++ [q] = List.replicate (j + 1) q := by
  rw [List.replicate_succ']
theorem plain_yes {m k q : Int} (h : plainOk m k q = true) : ∃ m' k' : Nat, m = m' ∧ k = k' ∧ isSideB m = true ∧ isSideB k = true ∧ isColorB q = true := by
  simp only [plainOk, Bool.and_eq_true] at h
  have h1 := isSideB_yes h.1.1
  have h2 := isSideB_yes h.1.2
  obtain ⟨m', rfl⟩ := Int.eq_ofNat_of_zero_le (show 0 ≤ m by omega)
  obtain ⟨k', rfl⟩ := Int.eq_ofNat_of_zero_le (show 0 ≤ k by omega)
  exact ⟨m', k', rfl, rfl, h.1.1, h.1.2, h.2⟩
theorem implPlainChart_any (m k q : Int) (w : World) : Calls Try.prog 61 #[.int .i64 m, .int .i64 k, .int .i64 q] w
    (OutChart w (orZero (plainOk m k q) m) (orZero (plainOk m k q) k) (plainL m k q) (plainOk m k q)) := by
  by_cases h : plainOk m k q = true
  · rw [show plainL m k q = List.replicate (m.toNat * k.toNat) q from if_pos h, h]
    obtain ⟨m', k', rfl, rfl, h1, h2, h3⟩ := plain_yes h
    exact implPlainChart_yes m' k' q w h1 h2 h3
  · rw [show plainL m k q = [] from if_neg h, not_false h]
    exact implPlainChart_no m k q w h
end Go.Proofs.Ytiglbidfjcjhgaa
