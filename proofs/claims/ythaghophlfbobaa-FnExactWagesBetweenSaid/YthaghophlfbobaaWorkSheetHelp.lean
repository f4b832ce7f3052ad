/- The walks of the laws' own helpers over the struct WorkSheet and slices of it. Condition: at most 1048576 elements. -/
import Derived.Test.YthaghophlfbobaaWorkSheetData
import Derived.Test.YthaghophlfbobaaHelp
namespace Go.Proofs.Ythaghophlfbobaa
open Go.RowKit

set_option maxRecDepth 100000 in
set_option maxHeartbeats 400000 in
theorem toWorkSheet_any (s : WorkSheetR) (w : World) : Calls Try.prog 14 #[.agg #[.int .i64 s.f0, .int .i64 s.f1, .int .i64 s.f2, .int .i64 s.f3, .int .i64 s.f4]] w (Out w (.agg #[.int .i64 s.f0, .int .i64 s.f1, .int .i64 s.f2, .int .i64 s.f3, .int .i64 s.f4])) := by
  go_enter Try.func14, Try.ntmps14
  go_wp2
  refine bodyPost_ret (v := .agg #[.int .i64 s.f0, .int .i64 s.f1, .int .i64 s.f2, .int .i64 s.f3, .int .i64 s.f4]) (by simp [results, Try.results14, go_sem]) rfl ⟨rfl, ?_⟩
  repeat (first | exact Below.refl _ _ | refine belowN ?_ _ | refine belowD ?_ | (refine Below.setCell ?_ (by first | (simp; done) | (simp; omega)) _) | (refine Below.alloc ?_ (by first | (simp; done) | (simp; omega)) _))

set_option maxRecDepth 100000 in
set_option maxHeartbeats 400000 in
theorem eqWorkSheet_same (s : WorkSheetR) (w : World) : Calls Try.prog 48 #[.agg #[.int .i64 s.f0, .int .i64 s.f1, .int .i64 s.f2, .int .i64 s.f3, .int .i64 s.f4], .agg #[.int .i64 s.f0, .int .i64 s.f1, .int .i64 s.f2, .int .i64 s.f3, .int .i64 s.f4]] w (Out w (.bool true)) := by
  go_enter Try.func48, Try.ntmps48
  go_wp2
  go_ret
  exact ⟨rfl, by repeat (first | exact Below.refl _ _ | refine belowN ?_ _ | refine belowD ?_ | (refine Below.setCell ?_ (by first | (simp; done) | (simp; omega)) _) | (refine Below.alloc ?_ (by first | (simp; done) | (simp; omega)) _))⟩

theorem info_WorkSheet : (Try.prog.info? 25).map (fun i => (i.zero, i.size, i.bytes)) = some (some (.agg #[.int .i64 0, .int .i64 0, .int .i64 0, .int .i64 0, .int .i64 0]), 5, 40) := by kernel_rfl
set_option maxRecDepth 100000 in
set_option maxHeartbeats 1000000 in
theorem toWorkSheetS_any (A : Option Addr) (n c B : Nat) (xs : List WorkSheetR) (w : World) (h : RdF workSheetL w B A n c xs) (hB : B ≤ w.heap.size) (hn : n ≤ 1048576) :
    Calls Try.prog 18 #[.slice A n c] w (CopiedF workSheetF w xs) := by
  obtain ⟨i0, hi, hz0, hz1, hz2⟩ := info_parts info_WorkSheet
  have hl := h.len
  subst hl
  go_enter Try.func18, Try.ntmps18
  go_wp2_with (at_make; refine wpList_make_full _ rfl _ _ 31 rfl w.heap.size 25 i0 (.agg #[.int .i64 0, .int .i64 0, .int .i64 0, .int .i64 0, .int .i64 0]) 5 Try.underlying31 hi hz0 hz1 _ _ _ _ xs.length rfl rfl rfl rfl (by rw [hz2]; omega) (by unfold maxLen; omega) (Nat.le_refl _) ?_)
  intro w0 hown0 hgrow0
  go_wp2
  go_loopw [4] (fun i wr => ∃ (k : Nat) (ys : List WorkSheetR), k ≤ xs.length ∧ i = .int .i64 k ∧ ys.length = xs.length ∧ ys.take k = xs.take k ∧
      OwnF workSheetF wr w.heap.size (.slice (some ⟨w.heap.size, 0, none⟩) xs.length xs.length) ys ∧ Below w.heap.size w wr)
    (fun i _ => xs.length - (intOf i).toNat)
  case atStart =>
    refine ⟨0, List.replicate xs.length WorkSheetR.zero, Nat.zero_le _, rfl, by simp, by simp, ⟨?_, fun x hx => ?_⟩, (Below.refl _ _).grown hgrow0 (Nat.le_refl _) (fun k h => by cases h)⟩
    · rw [List.length_replicate, ← flat_made workSheetF (cs := (.agg #[.int .i64 0, .int .i64 0, .int .i64 0, .int .i64 0, .int .i64 0] : Value).cells) (by decide) rfl]; exact hown0
    · rw [List.eq_of_mem_replicate hx]; simp [workSheetF, WorkSheetR.ok, WorkSheetR.zero, I64]; try decide
  case round =>
    obtain ⟨k, ys, hk, rfl, hyl, hyt, hown, hb⟩ := hrel
    by_cases hlt : k < xs.length
    · obtain ⟨b, off, a, rfl, hbB, ha, HX, hc0, hc1, hc2, hc3, hc4⟩ := WorkSheetR_at (F := workSheetL) rfl (fun _ => rfl) (fun _ => rfl) h hlt
      have hx0 := (hb.cell (p := ⟨b, off + k * 5, none⟩) (by show b < _; omega)).trans hc0
      have hx1 := (hb.cell (p := ⟨b, off + k * 5 + 1, none⟩) (by show b < _; omega)).trans hc1
      have hx2 := (hb.cell (p := ⟨b, off + k * 5 + 2, none⟩) (by show b < _; omega)).trans hc2
      have hx3 := (hb.cell (p := ⟨b, off + k * 5 + 3, none⟩) (by show b < _; omega)).trans hc3
      have hx4 := (hb.cell (p := ⟨b, off + k * 5 + 4, none⟩) (by show b < _; omega)).trans hc4
      have hz : w.heap.size < wr.heap.size := (hown.bd _ rfl).2
      have HY := Lib.hid (take_step HX.out hyl hyt)
      have HL := Lib.hid hyl
      clear hc0 hc1 hc2 hc3 hc4 hyl hyt
      go_wp2_with fail
      refine (toWorkSheet_any a _).mono ?_
      rintro e w1 ⟨rfl, hb1⟩
      have hown1 := hown.all hb1
      have hbz := hb.trans (hb1.mono hb.size)
      obtain ⟨y0, hy0⟩ := hown1.there (j := k) (i := 0) (by rw [HL.out]; exact hlt) (by decide)
      have hf0 : w1.frozen? ⟨w.heap.size, k * 5, none⟩ = false := hown1.frozen _
      replace hy0 : w1.cell? ⟨w.heap.size, k * 5, none⟩ = some y0 := hy0
      obtain ⟨y1, hy1⟩ := hown1.there (j := k) (i := 1) (by rw [HL.out]; exact hlt) (by decide)
      have hf1 : w1.frozen? ⟨w.heap.size, k * 5 + 1, none⟩ = false := hown1.frozen _
      replace hy1 : w1.cell? ⟨w.heap.size, k * 5 + 1, none⟩ = some y1 := hy1
      obtain ⟨y2, hy2⟩ := hown1.there (j := k) (i := 2) (by rw [HL.out]; exact hlt) (by decide)
      have hf2 : w1.frozen? ⟨w.heap.size, k * 5 + 2, none⟩ = false := hown1.frozen _
      replace hy2 : w1.cell? ⟨w.heap.size, k * 5 + 2, none⟩ = some y2 := hy2
      obtain ⟨y3, hy3⟩ := hown1.there (j := k) (i := 3) (by rw [HL.out]; exact hlt) (by decide)
      have hf3 : w1.frozen? ⟨w.heap.size, k * 5 + 3, none⟩ = false := hown1.frozen _
      replace hy3 : w1.cell? ⟨w.heap.size, k * 5 + 3, none⟩ = some y3 := hy3
      obtain ⟨y4, hy4⟩ := hown1.there (j := k) (i := 4) (by rw [HL.out]; exact hlt) (by decide)
      have hf4 : w1.frozen? ⟨w.heap.size, k * 5 + 4, none⟩ = false := hown1.frozen _
      replace hy4 : w1.cell? ⟨w.heap.size, k * 5 + 4, none⟩ = some y4 := hy4
      go_wp2
      have HP := hown1.put (j := k) (by rw [HL.out]; exact hlt) a ha
      go_roundw
      case rel => exact ⟨k + 1, ys.set k a, by omega, by go_num, by rw [List.length_set]; exact HL.out, HY.out, HP.1, hbz.grown HP.2 hbz.size (fun j hj => by cases hj; omega)⟩
      case measure => simp [intOf]; omega
    · go_wp2
      go_ret
      have e : ys = xs := by rw [List.take_of_length_le (by omega), List.take_of_length_le (by omega)] at hyt; exact hyt
      subst e
      exact ⟨_, rfl, hown, hb⟩

set_option maxRecDepth 100000 in
set_option maxHeartbeats 400000 in
theorem szWorkSheetS_yes (A : Option Addr) (n c : Nat) (k : Int) (w : World) (h : (n : Int) ≤ k) (hk : k ≤ 1048576) : Calls Try.prog 16 #[.slice A n c, .int .i64 k] w (Out w (.int .i64 (k - (n : Int)))) := by
  have hn : 0 ≤ (n : Int) := by omega
  go_enter Try.func16, Try.ntmps16
  go_wp2
  go_ret
  exact ⟨rfl, Below.refl _ _⟩
set_option maxRecDepth 100000 in
set_option maxHeartbeats 400000 in
theorem szWorkSheetS_no (A : Option Addr) (n c : Nat) (k : Int) (w : World) (h : ¬ (n : Int) ≤ k) (h0 : 0 ≤ k) (hk : k ≤ 1048576) (hn : n ≤ 9223372036854775807) : Calls Try.prog 16 #[.slice A n c, .int .i64 k] w (Out w (.int .i64 (-1))) := by
  have hk' : k - (n : Int) < 0 := by omega
  go_enter Try.func16, Try.ntmps16
  go_wp2
  go_ret
  exact ⟨rfl, Below.refl _ _⟩
set_option maxRecDepth 100000 in
set_option maxHeartbeats 1000000 in
theorem eqWorkSheetS_same (A A' : Option Addr) (n c n' c' B B' : Nat) (xs : List WorkSheetR) (w : World) (h : RdF workSheetF w B A n c xs) (h' : RdF workSheetF w B' A' n' c' xs) (hB : B ≤ w.heap.size) (hB' : B' ≤ w.heap.size) :
    Calls Try.prog 20 #[.slice A n c, .slice A' n' c'] w (Out w (.bool true)) := by
  have hn := h.len_lt
  obtain rfl : n' = n := by rw [← h.len, ← h'.len]
  go_enter Try.func20, Try.ntmps20
  go_wp2
  go_loopw [5] (fun i wr => ∃ k : Nat, k ≤ n' ∧ i = .int .i64 k ∧ Below w.heap.size w wr) (fun i _ => n' - (intOf i).toNat)
  case atStart => exact ⟨0, Nat.zero_le _, rfl, Below.refl _ _⟩
  case round =>
    obtain ⟨k, hk, rfl, hb⟩ := hrel
    by_cases hlt : k < n'
    · obtain ⟨b, off, a, rfl, hbB, _, HX, hc0, hc1, hc2, hc3, hc4⟩ := WorkSheetR_at (F := workSheetF) rfl (fun _ => rfl) (fun _ => rfl) h hlt
      obtain ⟨b', off', a', rfl, hbB', _, HX', hd0, hd1, hd2, hd3, hd4⟩ := WorkSheetR_at (F := workSheetF) rfl (fun _ => rfl) (fun _ => rfl) h' hlt
      obtain rfl : a' = a := Option.some.inj (HX'.out.symm.trans HX.out)
      have hx0 := (hb.cell (p := ⟨b, off + k * 5, none⟩) (by show b < _; omega)).trans hc0
      have hx1 := (hb.cell (p := ⟨b, off + k * 5 + 1, none⟩) (by show b < _; omega)).trans hc1
      have hx2 := (hb.cell (p := ⟨b, off + k * 5 + 2, none⟩) (by show b < _; omega)).trans hc2
      have hx3 := (hb.cell (p := ⟨b, off + k * 5 + 3, none⟩) (by show b < _; omega)).trans hc3
      have hx4 := (hb.cell (p := ⟨b, off + k * 5 + 4, none⟩) (by show b < _; omega)).trans hc4
      have hy0 := (hb.cell (p := ⟨b', off' + k * 5, none⟩) (by show b' < _; omega)).trans hd0
      have hy1 := (hb.cell (p := ⟨b', off' + k * 5 + 1, none⟩) (by show b' < _; omega)).trans hd1
      have hy2 := (hb.cell (p := ⟨b', off' + k * 5 + 2, none⟩) (by show b' < _; omega)).trans hd2
      have hy3 := (hb.cell (p := ⟨b', off' + k * 5 + 3, none⟩) (by show b' < _; omega)).trans hd3
      have hy4 := (hb.cell (p := ⟨b', off' + k * 5 + 4, none⟩) (by show b' < _; omega)).trans hd4
      have hk0 : (0 : Int) ≤ (k : Int) := by omega
      have hkn : (k : Int) < (n' : Int) := by omega
      have hzz := hb.size
      have h1z : b < wr.heap.size := by omega
      have h2z : b' < wr.heap.size := by omega
      clear hc0 hc1 hc2 hc3 hc4 hd0 hd1 hd2 hd3 hd4
      go_wp2
      go_region_held3 (fun w' => w'.cell? ⟨b, off + k * 5, none⟩ = some (.int .i64 a'.f0) ∧ w'.cell? ⟨b, off + k * 5 + 1, none⟩ = some (.int .i64 a'.f1) ∧ w'.cell? ⟨b, off + k * 5 + 2, none⟩ = some (.int .i64 a'.f2) ∧ w'.cell? ⟨b, off + k * 5 + 3, none⟩ = some (.int .i64 a'.f3) ∧ w'.cell? ⟨b, off + k * 5 + 4, none⟩ = some (.int .i64 a'.f4) ∧ w'.cell? ⟨b', off' + k * 5, none⟩ = some (.int .i64 a'.f0) ∧ w'.cell? ⟨b', off' + k * 5 + 1, none⟩ = some (.int .i64 a'.f1) ∧ w'.cell? ⟨b', off' + k * 5 + 2, none⟩ = some (.int .i64 a'.f2) ∧ w'.cell? ⟨b', off' + k * 5 + 3, none⟩ = some (.int .i64 a'.f3) ∧ w'.cell? ⟨b', off' + k * 5 + 4, none⟩ = some (.int .i64 a'.f4)) (first | exact ⟨(hbc _ _ h1z).trans hx0, (hbc _ _ h1z).trans hx1, (hbc _ _ h1z).trans hx2, (hbc _ _ h1z).trans hx3, (hbc _ _ h1z).trans hx4, (hbc _ _ h2z).trans hy0, (hbc _ _ h2z).trans hy1, (hbc _ _ h2z).trans hy2, (hbc _ _ h2z).trans hy3, (hbc _ _ h2z).trans hy4⟩ | go_keep) ((go_at_call 48; refine (eqWorkSheet_same a' _).mono ?_; rintro e w1 ⟨rfl, hb1⟩; have hb2 : Below wr.heap.size wr w1 := below_drew hb1; have hbc := (bcell hb2).1))
      have hbz := hb.trans (hb2.mono hb.size)
      go_wp2
      go_roundw
      case rel => exact ⟨k + 1, by omega, by go_num, hbz⟩
      case measure => simp [intOf]; omega
    · go_wp2
      go_ret
      exact ⟨rfl, hb⟩

/-- What marking leaves. -/
def markedWorkSheet (k : Int) (n : Nat) : List WorkSheetR := (List.range n).map fun j : Nat => ⟨k + 5 * (j : Int), k + 5 * (j : Int) + 1, k + 5 * (j : Int) + 1 + 1, k + 5 * (j : Int) + 1 + 1 + 1, k + 5 * (j : Int) + 1 + 1 + 1 + 1⟩
theorem markedWorkSheet_len (k : Int) (n : Nat) : (markedWorkSheet k n).length = n := by simp [markedWorkSheet]
theorem markedWorkSheet_at (k : Int) (n j : Nat) (h : j < n) : (markedWorkSheet k n)[j]? = some ⟨k + 5 * (j : Int), k + 5 * (j : Int) + 1, k + 5 * (j : Int) + 1 + 1, k + 5 * (j : Int) + 1 + 1 + 1, k + 5 * (j : Int) + 1 + 1 + 1 + 1⟩ := by simp [markedWorkSheet, h]
set_option maxRecDepth 100000 in
set_option maxHeartbeats 1000000 in
theorem markWorkSheetS_own (g n cap : Nat) (k : Int) (w : World) (lo : Nat) (xs : List WorkSheetR) (h : OwnF workSheetF w lo (.slice (some ⟨g, 0, none⟩) n cap) xs) (hl : xs.length = n) (hn : n ≤ 1048576) (h0 : 1 ≤ k) (h1 : k ≤ 1048576) :
    Calls Try.prog 31 #[.slice (some ⟨g, 0, none⟩) n cap, .int .i64 k] w fun e w' => e = .returned (.int .i64 (k + 5 * n)) ∧ OwnF workSheetF w' lo (.slice (some ⟨g, 0, none⟩) n cap) (markedWorkSheet k n) ∧ w.grownBy w' (some g) := by
  have ho := h.1
  rw [hl] at ho
  go_enter Try.func31, Try.ntmps31
  go_wp2
  go_loopw [1, 5] (fun kk i wr => ∃ (j : Nat) (m : Int) (ys : List WorkSheetR), j ≤ n ∧ i = .int .i64 j ∧ kk = .int .i64 m ∧ m = k + 5 * j ∧ ys.length = n ∧ ys.take j = (markedWorkSheet k n).take j ∧
      wr.ownsRow lo (workSheetF).t 5 (.slice (some ⟨g, 0, none⟩) n cap) n (ys.flatMap (workSheetF).enc) ∧ w.grownBy wr (some g))
    (fun _ i _ => n - (intOf i).toNat)
  case atStart => exact ⟨0, k, xs, Nat.zero_le _, rfl, rfl, by omega, hl, by simp, ho, World.grownBy.refl _ _⟩
  case round =>
    obtain ⟨j, m, ys, hj, rfl, rfl, hm, hyl, hyt, hown, hg⟩ := hrel
    by_cases hlt : j < n
    · have hm0 : 1 ≤ m := by omega
      have hm1 : m ≤ 7000000 := by omega
      have HM := Lib.hid hm
      have HY := Lib.hid (take_step (markedWorkSheet_at k n j hlt) (by rw [markedWorkSheet_len]; exact hyl) hyt)
      have HL := Lib.hid hyl
      have HP := Lib.hid (flat_put (enc := (workSheetF).enc) (workSheetF).len ⟨m, m + 1, m + 1 + 1, m + 1 + 1 + 1, m + 1 + 1 + 1 + 1⟩ (show j < ys.length by omega))
      obtain ⟨l, el⟩ : ∃ l, Hid (ys.flatMap (workSheetF).enc = l) := ⟨_, rfl⟩
      rw [el.out] at hown HP
      have hgz : g < wr.heap.size := (hown.lt _ rfl).2
      clear hyl hyt hm el
      obtain ⟨y0, hy0⟩ := row_there (j := j * 5 + 0) hown (by omega)
      have hf0 : wr.frozen? ⟨g, j * 5, none⟩ = false := hown.frozenAt _
      replace hy0 : wr.cell? ⟨g, j * 5, none⟩ = some y0 := hy0
      obtain ⟨y1, hy1⟩ := row_there (j := j * 5 + 1) hown (by omega)
      have hf1 : wr.frozen? ⟨g, j * 5 + 1, none⟩ = false := hown.frozenAt _
      obtain ⟨y2, hy2⟩ := row_there (j := j * 5 + 2) hown (by omega)
      have hf2 : wr.frozen? ⟨g, j * 5 + 2, none⟩ = false := hown.frozenAt _
      obtain ⟨y3, hy3⟩ := row_there (j := j * 5 + 3) hown (by omega)
      have hf3 : wr.frozen? ⟨g, j * 5 + 3, none⟩ = false := hown.frozenAt _
      obtain ⟨y4, hy4⟩ := row_there (j := j * 5 + 4) hown (by omega)
      have hf4 : wr.frozen? ⟨g, j * 5 + 4, none⟩ = false := hown.frozenAt _
      go_wp2
      have H0 := hown.stored (j * 5 + 0) (.int .i64 m)
      replace hg := hg.trans H0.2
      have own0 := H0.1
      have H1 := own0.stored (j * 5 + 1) (.int .i64 (m + 1))
      replace hg := hg.trans H1.2
      have own1 := H1.1
      have H2 := own1.stored (j * 5 + 2) (.int .i64 (m + 1 + 1))
      replace hg := hg.trans H2.2
      have own2 := H2.1
      have H3 := own2.stored (j * 5 + 3) (.int .i64 (m + 1 + 1 + 1))
      replace hg := hg.trans H3.2
      have own3 := H3.1
      have H4 := own3.stored (j * 5 + 4) (.int .i64 (m + 1 + 1 + 1 + 1))
      replace hg := hg.trans H4.2
      have own4 := H4.1
      go_roundw
      case rel => exact ⟨j + 1, m + 5, ys.set j ⟨m, m + 1, m + 1 + 1, m + 1 + 1 + 1, m + 1 + 1 + 1 + 1⟩, by omega, by go_num, by go_num, by have := HM.out; omega, by rw [List.length_set]; exact HL.out, by have := HY.out; rw [← HM.out] at this; exact this, by rw [← HP.out]; exact own4, hg⟩
      case measure => simp [intOf]; omega
    · obtain rfl : j = n := by omega
      go_wp2
      go_ret
      have e : ys = markedWorkSheet k j := by rw [List.take_of_length_le (by omega), List.take_of_length_le (by rw [markedWorkSheet_len]; omega)] at hyt; exact hyt
      subst e
      refine ⟨ret_int (by omega), ⟨by rw [markedWorkSheet_len]; exact hown, fun x hx => ?_⟩, hg⟩
      simp only [markedWorkSheet, List.mem_map, List.mem_range] at hx
      obtain ⟨q, hq, rfl⟩ := hx
      refine ⟨⟨by show (-9223372036854775808 : Int) ≤ k + 5 * (q : Int); omega, by show k + 5 * (q : Int) ≤ (9223372036854775807 : Int); omega⟩, ⟨by show (-9223372036854775808 : Int) ≤ k + 5 * (q : Int) + 1; omega, by show k + 5 * (q : Int) + 1 ≤ (9223372036854775807 : Int); omega⟩, ⟨by show (-9223372036854775808 : Int) ≤ k + 5 * (q : Int) + 1 + 1; omega, by show k + 5 * (q : Int) + 1 + 1 ≤ (9223372036854775807 : Int); omega⟩, ⟨by show (-9223372036854775808 : Int) ≤ k + 5 * (q : Int) + 1 + 1 + 1; omega, by show k + 5 * (q : Int) + 1 + 1 + 1 ≤ (9223372036854775807 : Int); omega⟩, ⟨by show (-9223372036854775808 : Int) ≤ k + 5 * (q : Int) + 1 + 1 + 1 + 1; omega, by show k + 5 * (q : Int) + 1 + 1 + 1 + 1 ≤ (9223372036854775807 : Int); omega⟩⟩
theorem markWorkSheetS_any (v : Value) (k : Int) (w : World) (lo : Nat) (xs : List WorkSheetR) (h : OwnF workSheetF w lo v xs) (hn : xs.length ≤ 1048576) (h0 : 1 ≤ k) (h1 : k ≤ 1048576) :
    Calls Try.prog 31 #[v, .int .i64 k] w fun e w' => e = .returned (.int .i64 (k + 5 * xs.length)) ∧ OwnF workSheetF w' lo v (markedWorkSheet k xs.length) ∧ w.grownBy w' v.ownBlock := by
  rcases h.1.2 with ⟨rfl, h0'⟩ | ⟨g, cap, _, rfl, _⟩
  · rw [h0']
    go_enter Try.func31, Try.ntmps31
    go_wp2
    go_loop [1, 5] (fun kk i => kk = .int .i64 k ∧ i = .int .i64 0) (fun _ _ => 0)
    case atStart => exact ⟨rfl, rfl⟩
    case round =>
      obtain ⟨rfl, rfl⟩ := hrel
      go_wp2
      go_ret
      exact ⟨ret_int (by simp), (show markedWorkSheet k 0 = [] from rfl) ▸ OwnF.nil _ _ _, World.grownBy.refl _ _⟩
  · exact markWorkSheetS_own g _ cap k w lo xs h rfl hn h0 h1
end Go.Proofs.Ythaghophlfbobaa
