/- The walks of the laws' own helpers over the struct Design and slices of it. Condition: at most 1048576 elements. -/
import Derived.Test.YtabkckjclgkecaaDoorDesignData
import Derived.Test.YtabkckjclgkecaaDoorHelp
namespace Go.Proofs.YtabkckjclgkecaaDoor
open Go.RowKit

set_option maxRecDepth 100000 in
set_option maxHeartbeats 400000 in
theorem toDesign_any (s : DesignR) (w : World) : Calls Tryd.prog 11 #[.agg #[.int .i64 s.f0, .int .i64 s.f1, .int .i64 s.f2, .int .i64 s.f3]] w (Out w (.agg #[.int .i64 s.f0, .int .i64 s.f1, .int .i64 s.f2, .int .i64 s.f3])) := by
  go_enter Tryd.func11, Tryd.ntmps11
  go_wp2
  refine bodyPost_ret (v := .agg #[.int .i64 s.f0, .int .i64 s.f1, .int .i64 s.f2, .int .i64 s.f3]) (by simp [results, Tryd.results11, go_sem]) rfl ⟨rfl, ?_⟩
  repeat (first | exact Below.refl _ _ | refine belowN ?_ _ | refine belowD ?_ | (refine Below.setCell ?_ (by first | (simp; done) | (simp; omega)) _) | (refine Below.alloc ?_ (by first | (simp; done) | (simp; omega)) _))

set_option maxRecDepth 100000 in
set_option maxHeartbeats 400000 in
theorem eqDesign_same (s : DesignR) (w : World) : Calls Tryd.prog 15 #[.agg #[.int .i64 s.f0, .int .i64 s.f1, .int .i64 s.f2, .int .i64 s.f3], .agg #[.int .i64 s.f0, .int .i64 s.f1, .int .i64 s.f2, .int .i64 s.f3]] w (Out w (.bool true)) := by
  go_enter Tryd.func15, Tryd.ntmps15
  go_wp2
  go_ret
  exact ⟨rfl, by repeat (first | exact Below.refl _ _ | refine belowN ?_ _ | refine belowD ?_ | (refine Below.setCell ?_ (by first | (simp; done) | (simp; omega)) _) | (refine Below.alloc ?_ (by first | (simp; done) | (simp; omega)) _))⟩

theorem info_Design : (Tryd.prog.info? 33).map (fun i => (i.zero, i.size, i.bytes)) = some (some (.agg #[.int .i64 0, .int .i64 0, .int .i64 0, .int .i64 0]), 4, 32) := by kernel_rfl
set_option maxRecDepth 100000 in
set_option maxHeartbeats 1000000 in
theorem toDesignS_any (A : Option Addr) (n c B : Nat) (xs : List DesignR) (w : World) (h : RdF designL w B A n c xs) (hB : B ≤ w.heap.size) (hn : n ≤ 1048576) :
    Calls Tryd.prog 6 #[.slice A n c] w (CopiedF designF w xs) := by
  obtain ⟨i0, hi, hz0, hz1, hz2⟩ := info_parts info_Design
  have hl := h.len
  subst hl
  go_enter Tryd.func6, Tryd.ntmps6
  go_wp2_with (at_make; refine wpList_make_full _ rfl _ _ 26 rfl w.heap.size 33 i0 (.agg #[.int .i64 0, .int .i64 0, .int .i64 0, .int .i64 0]) 4 Tryd.underlying26 hi hz0 hz1 _ _ _ _ xs.length rfl rfl rfl rfl (by rw [hz2]; omega) (by unfold maxLen; omega) (Nat.le_refl _) ?_)
  intro w0 hown0 hgrow0
  go_wp2
  go_loopw [4] (fun i wr => ∃ (k : Nat) (ys : List DesignR), k ≤ xs.length ∧ i = .int .i64 k ∧ ys.length = xs.length ∧ ys.take k = xs.take k ∧
      OwnF designF wr w.heap.size (.slice (some ⟨w.heap.size, 0, none⟩) xs.length xs.length) ys ∧ Below w.heap.size w wr)
    (fun i _ => xs.length - (intOf i).toNat)
  case atStart =>
    refine ⟨0, List.replicate xs.length DesignR.zero, Nat.zero_le _, rfl, by simp, by simp, ⟨?_, fun x hx => ?_⟩, (Below.refl _ _).grown hgrow0 (Nat.le_refl _) (fun k h => by cases h)⟩
    · rw [List.length_replicate, ← flat_made designF (cs := (.agg #[.int .i64 0, .int .i64 0, .int .i64 0, .int .i64 0] : Value).cells) (by decide) rfl]; exact hown0
    · rw [List.eq_of_mem_replicate hx]; simp [designF, DesignR.ok, DesignR.zero, I64]; try decide
  case round =>
    obtain ⟨k, ys, hk, rfl, hyl, hyt, hown, hb⟩ := hrel
    by_cases hlt : k < xs.length
    · obtain ⟨b, off, a, rfl, hbB, ha, HX, hc0, hc1, hc2, hc3⟩ := DesignR_at (F := designL) rfl (fun _ => rfl) (fun _ => rfl) h hlt
      have hx0 := (hb.cell (p := ⟨b, off + k * 4, none⟩) (by show b < _; omega)).trans hc0
      have hx1 := (hb.cell (p := ⟨b, off + k * 4 + 1, none⟩) (by show b < _; omega)).trans hc1
      have hx2 := (hb.cell (p := ⟨b, off + k * 4 + 2, none⟩) (by show b < _; omega)).trans hc2
      have hx3 := (hb.cell (p := ⟨b, off + k * 4 + 3, none⟩) (by show b < _; omega)).trans hc3
      have hz : w.heap.size < wr.heap.size := (hown.bd _ rfl).2
      have HY := Lib.hid (take_step HX.out hyl hyt)
      have HL := Lib.hid hyl
      clear hc0 hc1 hc2 hc3 hyl hyt
      go_wp2_with fail
      refine (toDesign_any a _).mono ?_
      rintro e w1 ⟨rfl, hb1⟩
      have hown1 := hown.all hb1
      have hbz := hb.trans (hb1.mono hb.size)
      obtain ⟨y0, hy0⟩ := hown1.there (j := k) (i := 0) (by rw [HL.out]; exact hlt) (by decide)
      have hf0 : w1.frozen? ⟨w.heap.size, k * 4, none⟩ = false := hown1.frozen _
      replace hy0 : w1.cell? ⟨w.heap.size, k * 4, none⟩ = some y0 := hy0
      obtain ⟨y1, hy1⟩ := hown1.there (j := k) (i := 1) (by rw [HL.out]; exact hlt) (by decide)
      have hf1 : w1.frozen? ⟨w.heap.size, k * 4 + 1, none⟩ = false := hown1.frozen _
      replace hy1 : w1.cell? ⟨w.heap.size, k * 4 + 1, none⟩ = some y1 := hy1
      obtain ⟨y2, hy2⟩ := hown1.there (j := k) (i := 2) (by rw [HL.out]; exact hlt) (by decide)
      have hf2 : w1.frozen? ⟨w.heap.size, k * 4 + 2, none⟩ = false := hown1.frozen _
      replace hy2 : w1.cell? ⟨w.heap.size, k * 4 + 2, none⟩ = some y2 := hy2
      obtain ⟨y3, hy3⟩ := hown1.there (j := k) (i := 3) (by rw [HL.out]; exact hlt) (by decide)
      have hf3 : w1.frozen? ⟨w.heap.size, k * 4 + 3, none⟩ = false := hown1.frozen _
      replace hy3 : w1.cell? ⟨w.heap.size, k * 4 + 3, none⟩ = some y3 := hy3
      go_wp2
      have HP := hown1.put (j := k) (by rw [HL.out]; exact hlt) a ha
      go_roundw
      case rel => exact ⟨k + 1, ys.set k a, by omega, by go_num, by rw [List.length_set]; exact HL.out, HY.out, HP.1, hbz.grown HP.2 hbz.size (fun j hj => by cases hj; omega)⟩
      case measure => simp [intOf]; omega
    · go_wp2
      go_ret
      have e : ys = xs := by rw [List.take_of_length_le (by omega), List.take_of_length_le (by omega)] at hyt; exact hyt
      subst e
      exact ⟨_, rfl, hown, hb⟩

set_option maxRecDepth 100000 in
set_option maxHeartbeats 400000 in
theorem szDesignS_yes (A : Option Addr) (n c : Nat) (k : Int) (w : World) (h : (n : Int) ≤ k) (hk : k ≤ 1048576) : Calls Tryd.prog 4 #[.slice A n c, .int .i64 k] w (Out w (.int .i64 (k - (n : Int)))) := by
  have hn : 0 ≤ (n : Int) := by omega
  go_enter Tryd.func4, Tryd.ntmps4
  go_wp2
  go_ret
  exact ⟨rfl, Below.refl _ _⟩
set_option maxRecDepth 100000 in
set_option maxHeartbeats 400000 in
theorem szDesignS_no (A : Option Addr) (n c : Nat) (k : Int) (w : World) (h : ¬ (n : Int) ≤ k) (h0 : 0 ≤ k) (hk : k ≤ 1048576) (hn : n ≤ 9223372036854775807) : Calls Tryd.prog 4 #[.slice A n c, .int .i64 k] w (Out w (.int .i64 (-1))) := by
  have hk' : k - (n : Int) < 0 := by omega
  go_enter Tryd.func4, Tryd.ntmps4
  go_wp2
  go_ret
  exact ⟨rfl, Below.refl _ _⟩
set_option maxRecDepth 100000 in
set_option maxHeartbeats 1000000 in
theorem eqDesignS_same (A A' : Option Addr) (n c n' c' B B' : Nat) (xs : List DesignR) (w : World) (h : RdF designF w B A n c xs) (h' : RdF designF w B' A' n' c' xs) (hB : B ≤ w.heap.size) (hB' : B' ≤ w.heap.size) :
    Calls Tryd.prog 8 #[.slice A n c, .slice A' n' c'] w (Out w (.bool true)) := by
  have hn := h.len_lt
  obtain rfl : n' = n := by rw [← h.len, ← h'.len]
  go_enter Tryd.func8, Tryd.ntmps8
  go_wp2
  go_loopw [5] (fun i wr => ∃ k : Nat, k ≤ n' ∧ i = .int .i64 k ∧ Below w.heap.size w wr) (fun i _ => n' - (intOf i).toNat)
  case atStart => exact ⟨0, Nat.zero_le _, rfl, Below.refl _ _⟩
  case round =>
    obtain ⟨k, hk, rfl, hb⟩ := hrel
    by_cases hlt : k < n'
    · obtain ⟨b, off, a, rfl, hbB, _, HX, hc0, hc1, hc2, hc3⟩ := DesignR_at (F := designF) rfl (fun _ => rfl) (fun _ => rfl) h hlt
      obtain ⟨b', off', a', rfl, hbB', _, HX', hd0, hd1, hd2, hd3⟩ := DesignR_at (F := designF) rfl (fun _ => rfl) (fun _ => rfl) h' hlt
      obtain rfl : a' = a := Option.some.inj (HX'.out.symm.trans HX.out)
      have hx0 := (hb.cell (p := ⟨b, off + k * 4, none⟩) (by show b < _; omega)).trans hc0
      have hx1 := (hb.cell (p := ⟨b, off + k * 4 + 1, none⟩) (by show b < _; omega)).trans hc1
      have hx2 := (hb.cell (p := ⟨b, off + k * 4 + 2, none⟩) (by show b < _; omega)).trans hc2
      have hx3 := (hb.cell (p := ⟨b, off + k * 4 + 3, none⟩) (by show b < _; omega)).trans hc3
      have hy0 := (hb.cell (p := ⟨b', off' + k * 4, none⟩) (by show b' < _; omega)).trans hd0
      have hy1 := (hb.cell (p := ⟨b', off' + k * 4 + 1, none⟩) (by show b' < _; omega)).trans hd1
      have hy2 := (hb.cell (p := ⟨b', off' + k * 4 + 2, none⟩) (by show b' < _; omega)).trans hd2
      have hy3 := (hb.cell (p := ⟨b', off' + k * 4 + 3, none⟩) (by show b' < _; omega)).trans hd3
      have hk0 : (0 : Int) ≤ (k : Int) := by omega
      have hkn : (k : Int) < (n' : Int) := by omega
      have hzz := hb.size
      have h1z : b < wr.heap.size := by omega
      have h2z : b' < wr.heap.size := by omega
      clear hc0 hc1 hc2 hc3 hd0 hd1 hd2 hd3
      go_wp2
      go_region_held3 (fun w' => w'.cell? ⟨b, off + k * 4, none⟩ = some (.int .i64 a'.f0) ∧ w'.cell? ⟨b, off + k * 4 + 1, none⟩ = some (.int .i64 a'.f1) ∧ w'.cell? ⟨b, off + k * 4 + 2, none⟩ = some (.int .i64 a'.f2) ∧ w'.cell? ⟨b, off + k * 4 + 3, none⟩ = some (.int .i64 a'.f3) ∧ w'.cell? ⟨b', off' + k * 4, none⟩ = some (.int .i64 a'.f0) ∧ w'.cell? ⟨b', off' + k * 4 + 1, none⟩ = some (.int .i64 a'.f1) ∧ w'.cell? ⟨b', off' + k * 4 + 2, none⟩ = some (.int .i64 a'.f2) ∧ w'.cell? ⟨b', off' + k * 4 + 3, none⟩ = some (.int .i64 a'.f3)) (first | exact ⟨(hbc _ _ h1z).trans hx0, (hbc _ _ h1z).trans hx1, (hbc _ _ h1z).trans hx2, (hbc _ _ h1z).trans hx3, (hbc _ _ h2z).trans hy0, (hbc _ _ h2z).trans hy1, (hbc _ _ h2z).trans hy2, (hbc _ _ h2z).trans hy3⟩ | go_keep) ((go_at_call 15; refine (eqDesign_same a' _).mono ?_; rintro e w1 ⟨rfl, hb1⟩; have hb2 : Below wr.heap.size wr w1 := below_drew hb1; have hbc := (bcell hb2).1))
      have hbz := hb.trans (hb2.mono hb.size)
      go_wp2
      go_roundw
      case rel => exact ⟨k + 1, by omega, by go_num, hbz⟩
      case measure => simp [intOf]; omega
    · go_wp2
      go_ret
      exact ⟨rfl, hb⟩

/-- What marking leaves. -/
def markedDesign (k : Int) (n : Nat) : List DesignR := (List.range n).map fun j : Nat => ⟨k + 4 * (j : Int), k + 4 * (j : Int) + 1, k + 4 * (j : Int) + 1 + 1, k + 4 * (j : Int) + 1 + 1 + 1⟩
theorem markedDesign_len (k : Int) (n : Nat) : (markedDesign k n).length = n := by simp [markedDesign]
theorem markedDesign_at (k : Int) (n j : Nat) (h : j < n) : (markedDesign k n)[j]? = some ⟨k + 4 * (j : Int), k + 4 * (j : Int) + 1, k + 4 * (j : Int) + 1 + 1, k + 4 * (j : Int) + 1 + 1 + 1⟩ := by simp [markedDesign, h]
end Go.Proofs.YtabkckjclgkecaaDoor
