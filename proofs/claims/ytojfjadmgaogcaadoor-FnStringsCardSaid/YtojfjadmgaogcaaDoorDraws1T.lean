/- The walks of the draws of the law FnStrings: a number, a text of a number, a text to be sealed. Condition: a code of at most 65536 bytes. -/
import Derived.Test.YtojfjadmgaogcaaDoorOf
import Derived.Test.YtojfjadmgaogcaaDoorNumT
import Derived.Laws.MakeOwn
import Derived.Laws.OwnMore
import Derived.Laws.BytesArg
namespace Go.Proofs.YtojfjadmgaogcaaDoor
open Go.RowKit

theorem cur_newT {w : World} {B n c : Nat} {A : Option Addr} (h : RdB w B A n c) (hB : B ≤ w.heap.size) (hn : n ≤ 65536) : Cur (w.alloc (.cells #[.slice A n c, .int .i64 0, .int .u64 0] 35)) w.heap.size 0 :=
  ⟨B, A, n, c, 0, 0, Blk.new _ _ _, h.alloc hB _, hB, hn, Nat.le_refl _⟩
theorem vBig_is (A : Option Addr) (n c : Nat) (w : World) (hn : n ≤ 9223372036854775807) (d : Bool) (hd : decide (65536 < n) = d) : Calls Tryd.prog 4 #[.slice A n c] w fun e w' => e = .returned (.bool d) ∧ w = w' := by
  subst hd
  go_enter Tryd.func4, Tryd.ntmps4
  go_wp2
  go_ret
  exact ⟨ret_bool (by rw [Bool.eq_iff_iff]; simp <;> omega), rfl⟩
theorem amongT (p k q m : Nat) (xs : List Int) (w : World) (hq : q = w.heap.size) (hm : m = xs.length) (h : Cur w p k) (hk : k + 2 ≤ 4294967296) (h1 : 1 ≤ xs.length) (hn : xs.length ≤ 1000) (hx : ∀ x ∈ xs, I64 x) :
    Calls Tryd.prog 16 #[.pointer (some ⟨p, 0, none⟩), .slice (some ⟨q, 0, none⟩) m m] (w.alloc (.cells (xs.map (Value.int .i64)).toArray 3)) fun e w' => ∃ y : Int, e = .returned (.int .i64 y) ∧ y ∈ xs ∧ Cur w' p (k + 2) ∧ w.grownBy w' (some p) := by
  subst hq
  subst hm
  have hal := (Below.refl w.heap.size w).alloc (Nat.le_refl _) (.cells (xs.map (Value.int .i64)).toArray 3)
  have hp := h.lt
  refine (among_any p k w.heap.size 0 xs.length xs.length _ xs _ (h.all hal) hk (lit_rd w xs hx hn) h1 hn (by omega)).mono ?_
  rintro e w' ⟨y, rfl, hy, hc, hg⟩
  exact ⟨y, rfl, hy, hc, grown_trans (below_grown hal) hg⟩
theorem small_i64 {l : List Int} (h : ∀ x ∈ l, -1000000 ≤ x ∧ x ≤ 1000000) : ∀ x ∈ l, I64 x := fun x hx => by have := h x hx; unfold I64; omega
set_option maxRecDepth 100000 in
set_option maxHeartbeats 2000000 in
theorem drawFormatInt_any (A : Option Addr) (n c B : Nat) (w : World) (h : RdB w B A n c) (hB : B ≤ w.heap.size) (hn : n ≤ 65536) : Calls Tryd.prog 5 #[.slice A n c] w fun e w' => ∃ x : Int, e = .returned (.int .i64 x) ∧ (-1000000 ≤ x ∧ x ≤ 1000000) ∧ Below w.heap.size w w' := by
  have hc0 := cur_newT h hB hn
  have hb0 := (Below.refl w.heap.size w).alloc (Nat.le_refl _) (.cells #[.slice A n c, .int .i64 0, .int .u64 0] 35)
  clear h
  go_enter Tryd.func5, Tryd.ntmps5
  go_wp2_with fail
  refine (pick_any w.heap.size 0 1000 _ hc0 (by omega) (by omega) (by omega)).mono ?_
  rintro e w1 ⟨x, rfl, ⟨x0, x1⟩, hc1, hg1⟩
  have HB1 := hb0.trans (grown_below (B := w.heap.size) hg1 (Nat.le_refl _) (by simp))
  have hw : IntKind.i64.wrap (x - 500) = x - 500 := IntWalk.i64_in _ (by omega)
  have hl : ∀ y ∈ [0, 1, -1, 10, 999999, -999999, 1000000, -1000000, x - 500], (-1000000 : Int) ≤ y ∧ y ≤ 1000000 := by
    intro y hy
    simp only [List.mem_cons, List.not_mem_nil, or_false] at hy
    omega
  have HL := Lib.hid hl
  clear hc0 hg1 hb0 hl x0 x1
  go_wp2_with fail
  refine (amongT w.heap.size (0 + 2) w1.heap.size 9 [0, 1, -1, 10, 999999, -999999, 1000000, -1000000, x - 500] w1 rfl rfl hc1 (by omega) (by simp) (by simp) (small_i64 HL.out)).mono ?_
  rintro e w2 ⟨y, rfl, hy, hc2, hg2⟩
  have hyb := HL.out y hy
  have HB2 := HB1.trans (grown_below (B := w.heap.size) hg2 (Nat.le_refl _) HB1.size)
  clear hc1 hc2 hg2 hy HL hw
  go_wp2
  go_ret
  exact ⟨y, rfl, hyb, HB2⟩
def oddL : List ByteArray := [⟨#[]⟩, ⟨#[45]⟩, ⟨#[45, 48]⟩, ⟨#[48, 48]⟩, ⟨#[48, 49]⟩, ⟨#[45, 45, 49]⟩, ⟨#[49, 120]⟩, ⟨#[57, 57, 57, 57, 57, 57]⟩, ⟨#[49, 48, 48, 48, 48, 48, 48]⟩, ⟨#[45, 57, 57, 57, 57, 57, 57]⟩, ⟨#[49, 56, 52, 52, 54, 55, 52, 52, 48, 55, 51, 55, 48, 57, 53, 53, 49, 54, 49, 55]⟩]
theorem oddL_bd : ∀ x ∈ oddL, x.size ≤ 20 := by decide
set_option maxRecDepth 100000 in
set_option maxHeartbeats 2000000 in
theorem drawParseInt_any (A : Option Addr) (n c B : Nat) (w : World) (h : RdB w B A n c) (hB : B ≤ w.heap.size) (hn : n ≤ 65536) : Calls Tryd.prog 8 #[.slice A n c] w fun e w' => ∃ y : ByteArray, e = .returned (.string y) ∧ y.size ≤ 20 ∧ Below w.heap.size w w' := by
  have hc0 := cur_newT h hB hn
  have hb0 := (Below.refl w.heap.size w).alloc (Nat.le_refl _) (.cells #[.slice A n c, .int .i64 0, .int .u64 0] 35)
  clear h
  go_enter Tryd.func8, Tryd.ntmps8
  go_wp2_with fail
  refine (one_any w.heap.size 0 2 _ hc0 (by omega) (by omega) (by omega)).mono ?_
  rintro e w1 ⟨d, rfl, hc1, hg1⟩
  have HB1 := hb0.trans (grown_below (B := w.heap.size) hg1 (Nat.le_refl _) (by simp))
  clear hc0 hg1 hb0
  cases d
  · go_wp2_with fail
    refine (pick_any w.heap.size (0 + 2) 2000 _ hc1 (by omega) (by omega) (by omega)).mono ?_
    rintro e w2 ⟨x, rfl, ⟨x0, x1⟩, hc2, hg2⟩
    have HB2 := HB1.trans (grown_below (B := w.heap.size) hg2 (Nat.le_refl _) HB1.size)
    have hw : IntKind.i64.wrap (x - 1000) = x - 1000 := IntWalk.i64_in _ (by omega)
    have hs := numB_size (x - 1000) (by omega) (by omega)
    have HN := Lib.hid (l1Num_any (x - 1000) (by omega) (by omega))
    clear hc1 hc2 hg2 HB1 x0 x1
    go_wp2_with fail
    refine (HN.out _).mono ?_
    rintro e w3 ⟨rfl, m, rfl⟩
    go_wp2
    go_ret
    have hd : Below w.heap.size w2 (w2.drewN m) := (low_drewN w2 m).mono HB2.size
    exact ⟨_, rfl, by omega, HB2.trans hd⟩
  · go_wp2_with fail
    refine (of_lit w.heap.size (0 + 2) w1.heap.size 11 oddL w1 rfl rfl hc1 (by omega) (by decide) (by decide) (fun x hx => by have := oddL_bd x hx; unfold maxLen; omega)).mono ?_
    rintro e w2 ⟨b, rfl, hy, hc2, hg2⟩
    have hb := oddL_bd b hy
    have HB2 := HB1.trans (grown_below (B := w.heap.size) hg2 (Nat.le_refl _) HB1.size)
    clear hc1 hc2 hg2 hy
    go_wp2
    go_ret
    exact ⟨b, rfl, hb, HB2⟩
theorem info_byteT : (Tryd.prog.info? 5).map (fun i => (i.zero, i.size, i.bytes)) = some (some (.int .u8 0), 1, 1) := by kernel_rfl
theorem mkT (w : World) (m : Nat) (hm : m ≤ 4000) : (Instr.makeSlice 22 (.int .i64 (m : Int)) (.int .i64 (m : Int))).run Tryd.prog w = .ok (.slice (some ⟨w.heap.size, 0, none⟩) m m) (w.alloc (.cells (madeCells #[.int .u8 0] m) 5)) := by
  obtain ⟨i0, hi, hz0, hz1, hz2⟩ := info_parts info_byteT
  have h := run_make w 22 5 i0 (.int .u8 0) Tryd.underlying22 hi hz0 .i64 .i64 (m : Int) (m : Int) (by omega) (by omega) (by rw [hz2]; omega) (by omega)
  rw [hz1, Int.toNat_natCast, Nat.mul_one] at h
  exact h
theorem cvT (w : World) (m : Nat) : (convert 22 9 (.slice (some ⟨w.heap.size, 0, none⟩) m m)).run Tryd.prog (w.alloc (.cells (madeCells #[.int .u8 0] m) 5)) = .ok (.string ⟨(List.replicate m (0 : UInt8)).toArray⟩) (w.alloc (.cells (madeCells #[.int .u8 0] m) 5)) := by
  have h := run_convert_bytes_back (w.alloc (.cells (madeCells #[.int .u8 0] m) 5)) 22 9 5 ⟨w.heap.size, 0, none⟩ m (List.replicate m 0) Tryd.underlying22 Tryd.underlying5 Tryd.underlying9 (fun j hj => by
    rw [List.length_replicate] at hj
    have e : (⟨w.heap.size, 0, none⟩ : Addr).add j = ⟨w.heap.size, j, none⟩ := by unfold Addr.add; split <;> simp_all
    rw [e, (Blk.new w (madeCells #[.int .u8 0] m) 5).cell j, ← Array.getElem?_toList, toList_madeCells_one, List.getElem?_replicate, if_pos hj, List.getElem_replicate]
    rfl)
  rw [List.length_replicate] at h
  exact h
set_option maxRecDepth 100000 in
set_option maxHeartbeats 2000000 in
theorem drawAppendChecksum_any (A : Option Addr) (n c B : Nat) (w : World) (h : RdB w B A n c) (hB : B ≤ w.heap.size) (hn : n ≤ 65536) : Calls Tryd.prog 11 #[.slice A n c] w fun e w' => ∃ y : ByteArray, e = .returned (.string y) ∧ y.size ≤ 4000 ∧ Below w.heap.size w w' := by
  have hc0 := cur_newT h hB hn
  have hb0 := (Below.refl w.heap.size w).alloc (Nat.le_refl _) (.cells #[.slice A n c, .int .i64 0, .int .u64 0] 35)
  clear h
  go_enter Tryd.func11, Tryd.ntmps11
  go_wp2_with fail
  refine (one_any w.heap.size 0 20 _ hc0 (by omega) (by omega) (by omega)).mono ?_
  rintro e w1 ⟨d, rfl, hc1, hg1⟩
  have HB1 := hb0.trans (grown_below (B := w.heap.size) hg1 (Nat.le_refl _) (by simp))
  clear hc0 hg1 hb0
  cases d
  · go_wp2_with fail
    refine (any1_any w.heap.size (0 + 2) _ hc1 (by omega)).mono ?_
    rintro e w2 ⟨b, rfl, hb, hc2, hg2⟩
    have HB2 := HB1.trans (grown_below (B := w.heap.size) hg2 (Nat.le_refl _) HB1.size)
    clear hc1 hc2 hg2
    go_wp2
    go_ret
    exact ⟨b, rfl, by omega, HB2⟩
  · go_wp2_with fail
    refine (pick_any w.heap.size (0 + 2) 10 _ hc1 (by omega) (by omega) (by omega)).mono ?_
    rintro e w2 ⟨x, rfl, ⟨x0, x1⟩, hc2, hg2⟩
    have HB2 := HB1.trans (grown_below (B := w.heap.size) hg2 (Nat.le_refl _) HB1.size)
    obtain ⟨q, rfl⟩ := Int.eq_ofNat_of_zero_le x0
    have hq : q ≤ 9 := by omega
    obtain ⟨m, hm⟩ : ∃ m : Nat, m = 3990 + q := ⟨_, rfl⟩
    have hw : IntKind.i64.wrap (3990 + (q : Int)) = (m : Int) := by rw [IntWalk.i64_in _ (by omega)]; omega
    have hml : m ≤ 3999 := by omega
    have hmk := mkT w2 m (by omega)
    have hcv := cvT w2 m
    have HB3 := HB2.alloc HB2.size (.cells (madeCells #[.int .u8 0] m) 5)
    clear hc1 hc2 hg2 HB1 x0 x1 hm HB2 hq
    go_wp2
    go_ret
    exact ⟨_, rfl, by simp [ByteArray.size]; omega, HB3⟩
end Go.Proofs.YtojfjadmgaogcaaDoor
