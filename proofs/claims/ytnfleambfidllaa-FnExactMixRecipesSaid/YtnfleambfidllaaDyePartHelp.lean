/- The walks of the laws' own helpers over the struct DyePart and slices of it. Condition: at most 1048576 elements. -/
import Derived.Test.YtnfleambfidllaaDyePartData
import Derived.Test.YtnfleambfidllaaHelp
import Derived.Test.YtnfleambfidllaaMark
namespace Go.Proofs.Ytnfleambfidllaa
open Go.RowKit

set_option maxRecDepth 100000 in
set_option maxHeartbeats 400000 in
theorem toDyePart_any (s : DyePartR) (w : World) : Calls Try.prog 52 #[.agg #[.string s.f0, .int .i64 s.f1]] w (Out w (.agg #[.string s.f0, .int .i64 s.f1])) := by
  go_enter Try.func52, Try.ntmps52
  go_wp2
  refine bodyPost_ret (v := .agg #[.string s.f0, .int .i64 s.f1]) (by simp [results, Try.results52, go_sem]) rfl ⟨rfl, ?_⟩
  repeat (first | exact Below.refl _ _ | refine belowN ?_ _ | refine belowD ?_ | (refine Below.setCell ?_ (by first | (simp; done) | (simp; omega)) _) | (refine Below.alloc ?_ (by first | (simp; done) | (simp; omega)) _))

set_option maxRecDepth 100000 in
set_option maxHeartbeats 400000 in
theorem szDyePart_yes (s : DyePartR) (k : Int) (w : World) (h : (s.f0.size : Int) ≤ k) (hk : k ≤ 1048576) : Calls Try.prog 49 #[.agg #[.string s.f0, .int .i64 s.f1], .int .i64 k] w (Out w (.int .i64 (k - ((s.f0.size : Int))))) := by
  have q0 : 0 ≤ (s.f0.size : Int) := by omega
  go_enter Try.func49, Try.ntmps49
  go_wp2
  go_ret
  exact ⟨ret_int (by omega), by repeat (first | exact Below.refl _ _ | refine belowN ?_ _ | refine belowD ?_ | (refine Below.setCell ?_ (by first | (simp; done) | (simp; omega)) _) | (refine Below.alloc ?_ (by first | (simp; done) | (simp; omega)) _))⟩
set_option maxRecDepth 100000 in
set_option maxHeartbeats 400000 in
theorem szDyePart_no (s : DyePartR) (k : Int) (w : World) (hok : s.ok) (h : ¬ (s.f0.size : Int) ≤ k) (h0 : 0 ≤ k) (hk : k ≤ 1048576) : Calls Try.prog 49 #[.agg #[.string s.f0, .int .i64 s.f1], .int .i64 k] w (Out w (.int .i64 (-1))) := by
  obtain ⟨h0, h1⟩ := hok
  unfold maxLen at *

  have c0' : k - ((s.f0.size : Int)) < 0 := by omega
  go_enter Try.func49, Try.ntmps49
  go_wp2
  go_ret
  exact ⟨rfl, by repeat (first | exact Below.refl _ _ | refine belowN ?_ _ | refine belowD ?_ | (refine Below.setCell ?_ (by first | (simp; done) | (simp; omega)) _) | (refine Below.alloc ?_ (by first | (simp; done) | (simp; omega)) _))⟩

set_option maxRecDepth 100000 in
set_option maxHeartbeats 400000 in
theorem eqDyePart_same (s : DyePartR) (w : World) : Calls Try.prog 57 #[.agg #[.string s.f0, .int .i64 s.f1], .agg #[.string s.f0, .int .i64 s.f1]] w (Out w (.bool true)) := by
  go_enter Try.func57, Try.ntmps57
  go_wp2
  go_ret
  exact ⟨rfl, by repeat (first | exact Below.refl _ _ | refine belowN ?_ _ | refine belowD ?_ | (refine Below.setCell ?_ (by first | (simp; done) | (simp; omega)) _) | (refine Below.alloc ?_ (by first | (simp; done) | (simp; omega)) _))⟩

theorem info_DyePart : (Try.prog.info? 43).map (fun i => (i.zero, i.size, i.bytes)) = some (some (.agg #[.string ⟨#[]⟩, .int .i64 0]), 2, 24) := by kernel_rfl
set_option maxRecDepth 100000 in
set_option maxHeartbeats 1000000 in
theorem toDyePartS_any (A : Option Addr) (n c B : Nat) (xs : List DyePartR) (w : World) (h : RdF dyePartL w B A n c xs) (hB : B ≤ w.heap.size) (hn : n ≤ 1048576) :
    Calls Try.prog 23 #[.slice A n c] w (CopiedF dyePartF w xs) := by
  obtain ⟨i0, hi, hz0, hz1, hz2⟩ := info_parts info_DyePart
  have hl := h.len
  subst hl
  go_enter Try.func23, Try.ntmps23
  go_wp2_with (at_make; refine wpList_make_full _ rfl _ _ 24 rfl w.heap.size 43 i0 (.agg #[.string ⟨#[]⟩, .int .i64 0]) 2 Try.underlying24 hi hz0 hz1 _ _ _ _ xs.length rfl rfl rfl rfl (by rw [hz2]; omega) (by unfold maxLen; omega) (Nat.le_refl _) ?_)
  intro w0 hown0 hgrow0
  go_wp2
  go_loopw [4] (fun i wr => ∃ (k : Nat) (ys : List DyePartR), k ≤ xs.length ∧ i = .int .i64 k ∧ ys.length = xs.length ∧ ys.take k = xs.take k ∧
      OwnF dyePartF wr w.heap.size (.slice (some ⟨w.heap.size, 0, none⟩) xs.length xs.length) ys ∧ Below w.heap.size w wr)
    (fun i _ => xs.length - (intOf i).toNat)
  case atStart =>
    refine ⟨0, List.replicate xs.length DyePartR.zero, Nat.zero_le _, rfl, by simp, by simp, ⟨?_, fun x hx => ?_⟩, (Below.refl _ _).grown hgrow0 (Nat.le_refl _) (fun k h => by cases h)⟩
    · rw [List.length_replicate, ← flat_made dyePartF (cs := (.agg #[.string ⟨#[]⟩, .int .i64 0] : Value).cells) (by decide) rfl]; exact hown0
    · rw [List.eq_of_mem_replicate hx]; simp [dyePartF, DyePartR.ok, DyePartR.zero, I64, maxLen]; try decide
  case round =>
    obtain ⟨k, ys, hk, rfl, hyl, hyt, hown, hb⟩ := hrel
    by_cases hlt : k < xs.length
    · obtain ⟨b, off, a, rfl, hbB, ha, HX, hc0, hc1⟩ := DyePartR_at (F := dyePartL) rfl (fun _ => rfl) (fun _ => rfl) h hlt
      have hx0 := (hb.cell (p := ⟨b, off + k * 2, none⟩) (by show b < _; omega)).trans hc0
      have hx1 := (hb.cell (p := ⟨b, off + k * 2 + 1, none⟩) (by show b < _; omega)).trans hc1
      have hz : w.heap.size < wr.heap.size := (hown.bd _ rfl).2
      have HY := Lib.hid (take_step HX.out hyl hyt)
      have HL := Lib.hid hyl
      clear hc0 hc1 hyl hyt
      go_wp2_with fail
      refine (toDyePart_any a _).mono ?_
      rintro e w1 ⟨rfl, hb1⟩
      have hown1 := hown.all hb1
      have hbz := hb.trans (hb1.mono hb.size)
      obtain ⟨y0, hy0⟩ := hown1.there (j := k) (i := 0) (by rw [HL.out]; exact hlt) (by decide)
      have hf0 : w1.frozen? ⟨w.heap.size, k * 2, none⟩ = false := hown1.frozen _
      replace hy0 : w1.cell? ⟨w.heap.size, k * 2, none⟩ = some y0 := hy0
      obtain ⟨y1, hy1⟩ := hown1.there (j := k) (i := 1) (by rw [HL.out]; exact hlt) (by decide)
      have hf1 : w1.frozen? ⟨w.heap.size, k * 2 + 1, none⟩ = false := hown1.frozen _
      replace hy1 : w1.cell? ⟨w.heap.size, k * 2 + 1, none⟩ = some y1 := hy1
      go_wp2
      have HP := hown1.put (j := k) (by rw [HL.out]; exact hlt) a ha
      go_roundw
      case rel => exact ⟨k + 1, ys.set k a, by omega, by go_num, by rw [List.length_set]; exact HL.out, HY.out, HP.1, hbz.grown HP.2 hbz.size (fun j hj => by cases hj; omega)⟩
      case measure => simp [intOf]; omega
    · go_wp2
      go_ret
      have e : ys = xs := by rw [List.take_of_length_le (by omega), List.take_of_length_le (by omega)] at hyt; exact hyt
      subst e
      exact ⟨_, rfl, hown, hb⟩

/-- How much the strings of the elements hold. -/
def bulkDyePart (xs : List DyePartR) : Nat := (xs.map fun s => s.f0.size).sum
theorem bulkDyePart_step {xs : List DyePartR} {k : Nat} {a : DyePartR} (h : xs[k]? = some a) : bulkDyePart (xs.take (k + 1)) = bulkDyePart (xs.take k) + (a.f0.size) ∧ bulkDyePart (xs.take (k + 1)) ≤ bulkDyePart xs := by
  obtain ⟨hk, rfl⟩ := List.getElem?_eq_some_iff.1 h
  have e : bulkDyePart (xs.take (k + 1)) + bulkDyePart (xs.drop (k + 1)) = bulkDyePart xs := by
    unfold bulkDyePart
    rw [← List.sum_append_nat, ← List.map_append, List.take_append_drop]
  refine ⟨?_, by omega⟩
  unfold bulkDyePart
  rw [List.take_succ_eq_append_getElem hk, List.map_append, List.sum_append_nat]
  simp only [List.map_cons, List.map_nil, List.sum_cons, List.sum_nil, Nat.add_zero]
set_option maxRecDepth 100000 in
set_option maxHeartbeats 1000000 in
theorem szDyePartS_yes (A : Option Addr) (n c B : Nat) (xs : List DyePartR) (k : Int) (w : World) (h : RdF dyePartL w B A n c xs) (hB : B ≤ w.heap.size) (hs : ((n + bulkDyePart xs : Nat) : Int) ≤ k) (hk : k ≤ 1048576) :
    Calls Try.prog 21 #[.slice A n c, .int .i64 k] w (Out w (.int .i64 (k - ((n + bulkDyePart xs : Nat) : Int)))) := by
  go_enter Try.func21, Try.ntmps21
  go_wp2
  go_loopw [1, 5] (fun l i wr => ∃ j : Nat, j ≤ n ∧ i = .int .i64 j ∧ l = .int .i64 (k - n - ((bulkDyePart (xs.take j) : Nat) : Int)) ∧ bulkDyePart (xs.take j) ≤ bulkDyePart xs ∧ Below w.heap.size w wr) (fun _ i _ => n - (intOf i).toNat)
  case atStart => exact ⟨0, Nat.zero_le _, rfl, by simp [bulkDyePart], by simp [bulkDyePart], Below.refl _ _⟩
  case round =>
    obtain ⟨j, hj, rfl, rfl, hle, hb⟩ := hrel
    by_cases hlt : j < n
    · obtain ⟨b, off, a, rfl, hbB, ha, HX, hc0, hc1⟩ := DyePartR_at (F := dyePartL) rfl (fun _ => rfl) (fun _ => rfl) h hlt
      have hx0 := (hb.cell (p := ⟨b, off + j * 2, none⟩) (by show b < _; omega)).trans hc0
      have hx1 := (hb.cell (p := ⟨b, off + j * 2 + 1, none⟩) (by show b < _; omega)).trans hc1
      have hst := bulkDyePart_step HX.out
      obtain ⟨T, HT⟩ : ∃ T, Hid (bulkDyePart (xs.take j) = T) := ⟨_, rfl⟩
      obtain ⟨T', HT'⟩ : ∃ T', Hid (bulkDyePart (xs.take (j + 1)) = T') := ⟨_, rfl⟩
      rw [HT.out] at hst hle ⊢
      rw [HT'.out] at hst
      obtain ⟨hs1, hs2⟩ := hst
      have HS1 := Lib.hid hs1
      have hs3 : T + (a.f0.size) ≤ T' := by omega
      clear hc0 hc1 hs1
      go_wp2_with fail
      refine (szDyePart_yes a _ _ (by omega) (by omega)).mono ?_
      rintro e w1 ⟨rfl, hb1⟩
      have hbz := hb.trans (hb1.mono hb.size)
      go_wp2
      go_roundw
      case rel => exact ⟨j + 1, by omega, by go_num, by rw [HT'.out]; have := HS1.out; go_num, by rw [HT'.out]; exact hs2, hbz⟩
      case measure => simp [intOf]; omega
    · obtain rfl : j = n := by omega
      have hT : bulkDyePart (xs.take j) = bulkDyePart xs := by rw [List.take_of_length_le (by rw [h.len]; exact Nat.le_refl _)]
      go_wp2
      go_ret
      exact ⟨ret_int (by rw [hT]; omega), hb⟩
set_option maxRecDepth 100000 in
set_option maxHeartbeats 1000000 in
theorem szDyePartS_no (A : Option Addr) (n c B : Nat) (xs : List DyePartR) (k : Int) (w : World) (h : RdF dyePartL w B A n c xs) (hB : B ≤ w.heap.size) (hs : ¬ ((n + bulkDyePart xs : Nat) : Int) ≤ k) (h0 : 0 ≤ k) (hk : k ≤ 1048576) :
    Calls Try.prog 21 #[.slice A n c, .int .i64 k] w (Out w (.int .i64 (-1))) := by
  have hlen := h.len_lt
  by_cases hnk : (n : Int) ≤ k
  · go_enter Try.func21, Try.ntmps21
    go_wp2
    go_loopw [1, 5] (fun l i wr => ∃ j : Nat, j ≤ n ∧ i = .int .i64 j ∧ l = .int .i64 (k - n - ((bulkDyePart (xs.take j) : Nat) : Int)) ∧ ((n + bulkDyePart (xs.take j) : Nat) : Int) ≤ k ∧ Below w.heap.size w wr) (fun _ i _ => n - (intOf i).toNat)
    case atStart => exact ⟨0, Nat.zero_le _, rfl, by simp [bulkDyePart], by simpa [bulkDyePart] using hnk, Below.refl _ _⟩
    case round =>
      obtain ⟨j, hj, rfl, rfl, hle, hb⟩ := hrel
      by_cases hlt : j < n
      · obtain ⟨b, off, a, rfl, hbB, ha, HX, hc0, hc1⟩ := DyePartR_at (F := dyePartL) rfl (fun _ => rfl) (fun _ => rfl) h hlt
        have hx0 := (hb.cell (p := ⟨b, off + j * 2, none⟩) (by show b < _; omega)).trans hc0
        have hx1 := (hb.cell (p := ⟨b, off + j * 2 + 1, none⟩) (by show b < _; omega)).trans hc1
        have hst := (bulkDyePart_step HX.out).1
        obtain ⟨T, HT⟩ : ∃ T, Hid (bulkDyePart (xs.take j) = T) := ⟨_, rfl⟩
        obtain ⟨T', HT'⟩ : ∃ T', Hid (bulkDyePart (xs.take (j + 1)) = T') := ⟨_, rfl⟩
        rw [HT.out] at hst hle ⊢
        rw [HT'.out] at hst
        have HS1 := Lib.hid hst
        clear hc0 hc1 hst
        by_cases hfit : (a.f0.size : Int) ≤ k - n - (T : Int)
        · go_wp2_with fail
          refine (szDyePart_yes a _ _ hfit (by omega)).mono ?_
          rintro e w1 ⟨rfl, hb1⟩
          have hbz := hb.trans (hb1.mono hb.size)
          go_wp2
          go_roundw
          case rel => exact ⟨j + 1, by omega, by go_num, by rw [HT'.out]; have := HS1.out; go_num, by rw [HT'.out]; have := HS1.out; omega, hbz⟩
          case measure => simp [intOf]; omega
        · go_wp2_with fail
          refine (szDyePart_no a _ _ ha (by omega) (by omega) (by omega)).mono ?_
          rintro e w1 ⟨rfl, hb1⟩
          have hbz := hb.trans (hb1.mono hb.size)
          go_wp2
          go_ret
          exact ⟨rfl, hbz⟩
      · obtain rfl : j = n := by omega
        rw [List.take_of_length_le (by rw [h.len]; exact Nat.le_refl _)] at hle
        omega
  · have hneg : k - (n : Int) < 0 := by omega
    go_enter Try.func21, Try.ntmps21
    go_wp2
    go_ret
    exact ⟨rfl, Below.refl _ _⟩

set_option maxRecDepth 100000 in
set_option maxHeartbeats 1000000 in
theorem eqDyePartS_same (A A' : Option Addr) (n c n' c' B B' : Nat) (xs : List DyePartR) (w : World) (h : RdF dyePartF w B A n c xs) (h' : RdF dyePartF w B' A' n' c' xs) (hB : B ≤ w.heap.size) (hB' : B' ≤ w.heap.size) :
    Calls Try.prog 25 #[.slice A n c, .slice A' n' c'] w (Out w (.bool true)) := by
  have hn := h.len_lt
  obtain rfl : n' = n := by rw [← h.len, ← h'.len]
  go_enter Try.func25, Try.ntmps25
  go_wp2
  go_loopw [5] (fun i wr => ∃ k : Nat, k ≤ n' ∧ i = .int .i64 k ∧ Below w.heap.size w wr) (fun i _ => n' - (intOf i).toNat)
  case atStart => exact ⟨0, Nat.zero_le _, rfl, Below.refl _ _⟩
  case round =>
    obtain ⟨k, hk, rfl, hb⟩ := hrel
    by_cases hlt : k < n'
    · obtain ⟨b, off, a, rfl, hbB, _, HX, hc0, hc1⟩ := DyePartR_at (F := dyePartF) rfl (fun _ => rfl) (fun _ => rfl) h hlt
      obtain ⟨b', off', a', rfl, hbB', _, HX', hd0, hd1⟩ := DyePartR_at (F := dyePartF) rfl (fun _ => rfl) (fun _ => rfl) h' hlt
      obtain rfl : a' = a := Option.some.inj (HX'.out.symm.trans HX.out)
      have hx0 := (hb.cell (p := ⟨b, off + k * 2, none⟩) (by show b < _; omega)).trans hc0
      have hx1 := (hb.cell (p := ⟨b, off + k * 2 + 1, none⟩) (by show b < _; omega)).trans hc1
      have hy0 := (hb.cell (p := ⟨b', off' + k * 2, none⟩) (by show b' < _; omega)).trans hd0
      have hy1 := (hb.cell (p := ⟨b', off' + k * 2 + 1, none⟩) (by show b' < _; omega)).trans hd1
      have hk0 : (0 : Int) ≤ (k : Int) := by omega
      have hkn : (k : Int) < (n' : Int) := by omega
      have hzz := hb.size
      have h1z : b < wr.heap.size := by omega
      have h2z : b' < wr.heap.size := by omega
      clear hc0 hc1 hd0 hd1
      go_wp2
      go_region_held3 (fun w' => w'.cell? ⟨b, off + k * 2, none⟩ = some (.string a'.f0) ∧ w'.cell? ⟨b, off + k * 2 + 1, none⟩ = some (.int .i64 a'.f1) ∧ w'.cell? ⟨b', off' + k * 2, none⟩ = some (.string a'.f0) ∧ w'.cell? ⟨b', off' + k * 2 + 1, none⟩ = some (.int .i64 a'.f1)) (first | exact ⟨(hbc _ _ h1z).trans hx0, (hbc _ _ h1z).trans hx1, (hbc _ _ h2z).trans hy0, (hbc _ _ h2z).trans hy1⟩ | go_keep) ((go_at_call 57; refine (eqDyePart_same a' _).mono ?_; rintro e w1 ⟨rfl, hb1⟩; have hb2 : Below wr.heap.size wr w1 := below_drew hb1; have hbc := (bcell hb2).1))
      have hbz := hb.trans (hb2.mono hb.size)
      go_wp2
      go_roundw
      case rel => exact ⟨k + 1, by omega, by go_num, hbz⟩
      case measure => simp [intOf]; omega
    · go_wp2
      go_ret
      exact ⟨rfl, hb⟩

/-- What marking leaves. -/
def markedDyePart (k : Int) (n : Nat) : List DyePartR := (List.range n).map fun j : Nat => ⟨mtext (k + 2 * (j : Int)), k + 2 * (j : Int) + 1⟩
theorem markedDyePart_len (k : Int) (n : Nat) : (markedDyePart k n).length = n := by simp [markedDyePart]
theorem markedDyePart_at (k : Int) (n j : Nat) (h : j < n) : (markedDyePart k n)[j]? = some ⟨mtext (k + 2 * (j : Int)), k + 2 * (j : Int) + 1⟩ := by simp [markedDyePart, h]
set_option maxRecDepth 100000 in
set_option maxHeartbeats 1000000 in
theorem markDyePartS_own (g n cap : Nat) (k : Int) (w : World) (lo : Nat) (xs : List DyePartR) (h : OwnF dyePartF w lo (.slice (some ⟨g, 0, none⟩) n cap) xs) (hl : xs.length = n) (hn : n ≤ 1048576) (h0 : 1 ≤ k) (h1 : k ≤ 3145729) :
    Calls Try.prog 26 #[.slice (some ⟨g, 0, none⟩) n cap, .int .i64 k] w fun e w' => e = .returned (.int .i64 (k + 2 * n)) ∧ OwnF dyePartF w' lo (.slice (some ⟨g, 0, none⟩) n cap) (markedDyePart k n) ∧ w.grownBy w' (some g) := by
  have ho := h.1
  rw [hl] at ho
  go_enter Try.func26, Try.ntmps26
  go_wp2
  go_loopw [1, 5] (fun kk i wr => ∃ (j : Nat) (m : Int) (ys : List DyePartR), j ≤ n ∧ i = .int .i64 j ∧ kk = .int .i64 m ∧ m = k + 2 * j ∧ ys.length = n ∧ ys.take j = (markedDyePart k n).take j ∧
      wr.ownsRow lo (dyePartF).t 2 (.slice (some ⟨g, 0, none⟩) n cap) n (ys.flatMap (dyePartF).enc) ∧ w.grownBy wr (some g))
    (fun _ i _ => n - (intOf i).toNat)
  case atStart => exact ⟨0, k, xs, Nat.zero_le _, rfl, rfl, by omega, hl, by simp, ho, World.grownBy.refl _ _⟩
  case round =>
    obtain ⟨j, m, ys, hj, rfl, rfl, hm, hyl, hyt, hown, hg⟩ := hrel
    by_cases hlt : j < n
    · have hm0 : 1 ≤ m := by omega
      have hm1 : m ≤ 7000000 := by omega
      have HM := Lib.hid hm
      have HY := Lib.hid (take_step (markedDyePart_at k n j hlt) (by rw [markedDyePart_len]; exact hyl) hyt)
      have HL := Lib.hid hyl
      have HP := Lib.hid (flat_put (enc := (dyePartF).enc) (dyePartF).len ⟨mtext (m), m + 1⟩ (show j < ys.length by omega))
      obtain ⟨l, el⟩ : ∃ l, Hid (ys.flatMap (dyePartF).enc = l) := ⟨_, rfl⟩
      rw [el.out] at hown HP
      have hgz : g < wr.heap.size := (hown.lt _ rfl).2
      clear hyl hyt hm el
      obtain ⟨y0, hy0⟩ := row_there (j := j * 2 + 0) hown (by omega)
      have hf0 : wr.frozen? ⟨g, j * 2, none⟩ = false := hown.frozenAt _
      replace hy0 : wr.cell? ⟨g, j * 2, none⟩ = some y0 := hy0
      obtain ⟨y1, hy1⟩ := row_there (j := j * 2 + 1) hown (by omega)
      have hf1 : wr.frozen? ⟨g, j * 2 + 1, none⟩ = false := hown.frozenAt _
      go_wp2_with fail
      refine (markText_any _ _ (by omega) (by omega)).mono ?_
      rintro e w1 ⟨rfl, hb⟩
      have own0a := row_all hown hb
      replace hg := grown_then hg hb
      replace hgz : g < w1.heap.size := (own0a.lt _ rfl).2
      clear hy0 hf0 hy1 hf1 hb
      obtain ⟨y0, hy0⟩ := row_there (j := j * 2 + 0) own0a (by omega)
      have hf0 : w1.frozen? ⟨g, j * 2, none⟩ = false := own0a.frozenAt _
      replace hy0 : w1.cell? ⟨g, j * 2, none⟩ = some y0 := hy0
      obtain ⟨y1, hy1⟩ := row_there (j := j * 2 + 1) own0a (by omega)
      have hf1 : w1.frozen? ⟨g, j * 2 + 1, none⟩ = false := own0a.frozenAt _
      go_wp2
      have H0 := own0a.stored (j * 2 + 0) (.string (mtext (m)))
      replace hg := hg.trans H0.2
      have own0 := H0.1
      have H1 := own0.stored (j * 2 + 1) (.int .i64 (m + 1))
      replace hg := hg.trans H1.2
      have own1 := H1.1
      go_roundw
      case rel => exact ⟨j + 1, m + 2, ys.set j ⟨mtext (m), m + 1⟩, by omega, by go_num, by go_num, by have := HM.out; omega, by rw [List.length_set]; exact HL.out, by have := HY.out; rw [← HM.out] at this; exact this, by rw [← HP.out]; exact own1, hg⟩
      case measure => simp [intOf]; omega
    · obtain rfl : j = n := by omega
      go_wp2
      go_ret
      have e : ys = markedDyePart k j := by rw [List.take_of_length_le (by omega), List.take_of_length_le (by rw [markedDyePart_len]; omega)] at hyt; exact hyt
      subst e
      refine ⟨ret_int (by omega), ⟨by rw [markedDyePart_len]; exact hown, fun x hx => ?_⟩, hg⟩
      simp only [markedDyePart, List.mem_map, List.mem_range] at hx
      obtain ⟨q, hq, rfl⟩ := hx
      refine ⟨mtext_size _ (by omega) (by omega), ⟨by show (-9223372036854775808 : Int) ≤ k + 2 * (q : Int) + 1; omega, by show k + 2 * (q : Int) + 1 ≤ (9223372036854775807 : Int); omega⟩⟩
theorem markDyePartS_any (v : Value) (k : Int) (w : World) (lo : Nat) (xs : List DyePartR) (h : OwnF dyePartF w lo v xs) (hn : xs.length ≤ 1048576) (h0 : 1 ≤ k) (h1 : k ≤ 3145729) :
    Calls Try.prog 26 #[v, .int .i64 k] w fun e w' => e = .returned (.int .i64 (k + 2 * xs.length)) ∧ OwnF dyePartF w' lo v (markedDyePart k xs.length) ∧ w.grownBy w' v.ownBlock := by
  rcases h.1.2 with ⟨rfl, h0'⟩ | ⟨g, cap, _, rfl, _⟩
  · rw [h0']
    go_enter Try.func26, Try.ntmps26
    go_wp2
    go_loop [1, 5] (fun kk i => kk = .int .i64 k ∧ i = .int .i64 0) (fun _ _ => 0)
    case atStart => exact ⟨rfl, rfl⟩
    case round =>
      obtain ⟨rfl, rfl⟩ := hrel
      go_wp2
      go_ret
      exact ⟨ret_int (by simp), (show markedDyePart k 0 = [] from rfl) ▸ OwnF.nil _ _ _, World.grownBy.refl _ _⟩
  · exact markDyePartS_own g _ cap k w lo xs h rfl hn h0 h1
end Go.Proofs.Ytnfleambfidllaa
