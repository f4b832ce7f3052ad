/- The walks of the laws' own helpers over slices of integers: copy, size, equality, marking, holding. Condition: at most 1048576 elements. -/
import Derived.Test.YthaghophlfbobaaMem
namespace Go.Proofs.Ythaghophlfbobaa
open Go.RowKit

/-- What a copy leaves. -/
def Copied (w : World) (xs : List Int) (e : Ending) (w' : World) : Prop := ∃ g, e = .returned (.slice (some ⟨g, 0, none⟩) xs.length xs.length) ∧ Own w' w.heap.size (.slice (some ⟨g, 0, none⟩) xs.length xs.length) xs ∧ Below w.heap.size w w'

theorem fill_step {xs ys : List Int} {k : Nat} {x : Int} (hx : xs.getD k 0 = x) (hk : k < xs.length) (hl : ys.length = xs.length) (h : ys.take k = xs.take k) :
    (ys.set k x).take (k + 1) = xs.take (k + 1) := by
  rw [← hx, List.take_set, List.take_succ_eq_append_getElem (by omega), List.take_succ_eq_append_getElem hk, h, getD_at hk, List.set_append, if_neg (by simp; omega), List.length_take]
  simp [Nat.min_eq_left (Nat.le_of_lt hk)]

/-- Two slices that read as the same numbers are told equal. -/
def Yes (w : World) (e : Ending) (w' : World) : Prop := e = .returned (.bool true) ∧ ∃ q, w' = w.drewN q
set_option maxRecDepth 100000 in
set_option maxHeartbeats 400000 in
theorem eqIntS_same (A A' : Option Addr) (n c n' c' B B' : Nat) (xs : List Int) (w : World) (h : Rd w B A n c xs) (h' : Rd w B' A' n' c' xs) :
    Calls Try.prog 30 #[.slice A n c, .slice A' n' c'] w (Yes w) := by
  have hn := h.len_lt
  obtain rfl : n' = n := by rw [← h.len, ← h'.len]
  go_enter Try.func30, Try.ntmps30
  go_wp2
  go_loopw [5] (fun i wr => ∃ k q : Nat, k ≤ n' ∧ i = .int .i64 k ∧ wr = w.drewN q) (fun i _ => n' - (intOf i).toNat)
  case atStart => exact ⟨0, 0, Nat.zero_le _, rfl, rfl⟩
  case round =>
    obtain ⟨k, q, hk, rfl, rfl⟩ := hrel
    by_cases hlt : k < n'
    · obtain ⟨b, off, x, rfl, _, hc, _, _, HX⟩ := h.at hlt
      obtain ⟨b', off', x', rfl, _, hc', _, _, HX'⟩ := h'.at hlt
      obtain rfl : x' = x := HX'.out.symm.trans HX.out
      go_wp2
      go_quiet (fail)
      go_wp2
      go_roundw
      case rel => exact ⟨k + 1, _, by omega, by go_num, rfl⟩
      case measure => simp [intOf]; omega
    · go_wp2
      go_ret
      exact ⟨rfl, _, rfl⟩

/-- The numbers from k on. -/
def iota (k : Int) (n : Nat) : List Int := (List.range n).map fun j : Nat => k + (j : Int)
theorem iota_len (k : Int) (n : Nat) : (iota k n).length = n := by simp [iota]
theorem iota_get (k : Int) (n j : Nat) (h : j < n) : (iota k n).getD j 0 = k + j := by rw [getD_at (by simpa [iota_len] using h)]; simp [iota]
theorem iota_fits (k : Int) (n : Nat) (h0 : 0 ≤ k) (h1 : k ≤ 4294967296) (hn : n ≤ 4294967296) : ∀ x ∈ iota k n, I64 x := by
  intro x hx
  simp only [iota, List.mem_map, List.mem_range] at hx
  obtain ⟨j, hj, rfl⟩ := hx
  exact ⟨by omega, by omega⟩
theorem grown_trans {a b c : World} {row : Option Nat} (h : a.grownBy b row) (k : b.grownBy c row) : a.grownBy c row :=
  ⟨k.os.trans h.os, k.tape.trans h.tape, k.output.trans h.output, Nat.le_trans h.size k.size, fun i hi hne => (k.block i (Nat.lt_of_lt_of_le hi h.size) hne).trans (h.block i hi hne)⟩

/-- What marking leaves: the slice's own block alone has turned. -/
def Marked (w : World) (lo : Nat) (v : Value) (k : Int) (n : Nat) (e : Ending) (w' : World) : Prop :=
  e = .returned (.int .i64 (k + n)) ∧ Own w' lo v (iota k n) ∧ w.grownBy w' v.ownBlock
theorem iota_step {k : Int} {n j : Nat} {ys : List Int} (hj : j < n) (hl : ys.length = n) (h : ys.take j = (iota k n).take j) : (ys.set j (k + j)).take (j + 1) = (iota k n).take (j + 1) := by
  have hl' := iota_len k n
  rw [show k + (j : Int) = (iota k n).getD j 0 from (iota_get k n j hj).symm]
  have := fill_step (xs := iota k n) (ys := ys) (k := j) rfl (by omega) (by omega) h
  exact this

set_option maxRecDepth 100000 in
set_option maxHeartbeats 400000 in
theorem markIntS_nil (k : Int) (w : World) (lo : Nat) : Calls Try.prog 32 #[.slice none 0 0, .int .i64 k] w (Marked w lo (.slice none 0 0) k 0) := by
  go_enter Try.func32, Try.ntmps32
  go_wp2
  go_loop [1, 5] (fun kk i => kk = .int .i64 k ∧ i = .int .i64 0) (fun _ _ => 0)
  case atStart => exact ⟨rfl, rfl⟩
  case round =>
    obtain ⟨rfl, rfl⟩ := hrel
    go_wp2
    go_ret
    exact ⟨ret_int (by simp), Own.nil _ _, World.grownBy.refl _ _⟩
set_option maxRecDepth 100000 in
set_option maxHeartbeats 400000 in
theorem markIntS_own (g n cap : Nat) (k : Int) (w : World) (lo : Nat) (xs : List Int) (h : Own w lo (.slice (some ⟨g, 0, none⟩) n cap) xs) (hl : xs.length = n) (hn : n ≤ 1048576) (h0 : 0 ≤ k) (h1 : k ≤ 4294967296) :
    Calls Try.prog 32 #[.slice (some ⟨g, 0, none⟩) n cap, .int .i64 k] w (Marked w lo (.slice (some ⟨g, 0, none⟩) n cap) k n) := by
  have ho := h.1
  rw [hl] at ho
  go_enter Try.func32, Try.ntmps32
  go_wp2
  go_loopw [1, 5] (fun kk i wr => ∃ (j : Nat) (ys : List Int), j ≤ n ∧ i = .int .i64 j ∧ kk = .int .i64 (k + j) ∧ ys.length = n ∧ ys.take j = (iota k n).take j ∧
      wr.ownsRow lo 3 1 (.slice (some ⟨g, 0, none⟩) n cap) n (ys.map (Value.int .i64)) ∧ w.grownBy wr (some g))
    (fun _ i _ => n - (intOf i).toNat)
  case atStart => exact ⟨0, xs, Nat.zero_le _, rfl, by go_num, hl, by simp, ho, World.grownBy.refl _ _⟩
  case round =>
    obtain ⟨j, ys, hj, rfl, rfl, hyl, hyt, hown, hg⟩ := hrel
    by_cases hlt : j < n
    · obtain ⟨y, hy⟩ : ∃ y, wr.cell? ⟨g, j, none⟩ = some y := ⟨.int .i64 (ys.getD j 0), by rw [hown.cellAt j (by omega), List.getElem?_map, List.getElem?_eq_getElem (by omega), getD_at (by omega)]; rfl⟩
      have hf := hown.frozenAt j
      have H := hown.stored j (.int .i64 (k + j))
      have HY := Lib.hid (iota_step hlt hyl hyt)
      have HL := Lib.hid hyl
      clear hyl hyt
      go_wp2
      go_roundw
      case rel => exact ⟨j + 1, ys.set j (k + j), by omega, by go_num, by go_num, by rw [List.length_set]; exact HL.out, HY.out, by rw [List.map_set]; exact H.1, grown_trans hg H.2⟩
      case measure => simp [intOf]; omega
    · obtain rfl : j = n := by omega
      go_wp2
      go_ret
      have e : ys = iota k ys.length := by rw [hyl]; rw [List.take_of_length_le (by omega), List.take_of_length_le (by rw [iota_len]; omega)] at hyt; exact hyt
      subst hyl
      rw [e] at hown
      simp only [iota_len] at hown
      exact ⟨rfl, ⟨by simpa [iota_len] using hown, iota_fits _ _ h0 h1 (by omega)⟩, hg⟩
theorem markIntS_any (v : Value) (k : Int) (w : World) (lo : Nat) (xs : List Int) (h : Own w lo v xs) (hn : xs.length ≤ 1048576) (h0 : 0 ≤ k) (h1 : k ≤ 4294967296) :
    Calls Try.prog 32 #[v, .int .i64 k] w (Marked w lo v k xs.length) := by
  rcases h.1.2 with ⟨rfl, h0'⟩ | ⟨g, cap, _, rfl, _⟩
  · rw [h0']; exact markIntS_nil k w lo
  · exact markIntS_own g _ cap k w lo xs h rfl hn h0 h1

set_option maxRecDepth 100000 in
set_option maxHeartbeats 400000 in
theorem heldIntS_any (A : Option Addr) (n c B : Nat) (k : Int) (w : World) (h : Rd w B A n c (iota k n)) (hn : n ≤ 1048576) (h0 : 0 ≤ k) (h1 : k ≤ 4294967296) :
    Calls Try.prog 33 #[.slice A n c, .int .i64 k] w fun e w' => e = .returned (.int .i64 (k + n)) ∧ w = w' := by
  go_enter Try.func33, Try.ntmps33
  go_wp2
  go_loop [1, 5] (fun kk i => ∃ j : Nat, j ≤ n ∧ i = .int .i64 j ∧ kk = .int .i64 (k + j)) (fun _ i => n - (intOf i).toNat)
  case atStart => exact ⟨0, Nat.zero_le _, rfl, by go_num⟩
  case round =>
    obtain ⟨j, hj, rfl, rfl⟩ := hrel
    by_cases hlt : j < n
    · obtain ⟨b, off, x, rfl, _, hc, _, _, HX⟩ := h.at hlt
      obtain rfl : k + j = x := (iota_get k n j hlt).symm.trans HX.out
      go_wp2
      go_round
      case rel => exact ⟨j + 1, by omega, by go_num, by go_num⟩
      case measure => simp [intOf]; omega
    · obtain rfl : j = n := by omega
      go_wp2
      go_ret
      exact ⟨rfl, rfl⟩
theorem eqIntS_low (A A' : Option Addr) (n c n' c' B B' : Nat) (xs : List Int) (w : World) (h : Rd w B A n c xs) (h' : Rd w B' A' n' c' xs) :
    Calls Try.prog 30 #[.slice A n c, .slice A' n' c'] w (Out w (.bool true)) :=
  (eqIntS_same A A' n c n' c' B B' xs w h h').mono fun e w' ⟨he, q, hw⟩ => ⟨he, by rw [hw]; exact low_drewN w q⟩
theorem heldIntS_low (A : Option Addr) (n c B : Nat) (k : Int) (w : World) (h : Rd w B A n c (iota k n)) (hn : n ≤ 1048576) (h0 : 0 ≤ k) (h1 : k ≤ 4294967296) :
    Calls Try.prog 33 #[.slice A n c, .int .i64 k] w (Out w (.int .i64 (k + n))) :=
  (heldIntS_any A n c B k w h hn h0 h1).mono fun e w' ⟨he, hw⟩ => ⟨he, by rw [← hw]; exact Below.refl _ _⟩
end Go.Proofs.Ythaghophlfbobaa
