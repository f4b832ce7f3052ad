/- The walks of chapter 8's small functions, the program's and the model's, and of the model's l8Places. No condition; for l8Places and knotsAround two sides from 2 to 8. -/
import Derived.Test.YtjfdcmdgpeeabaaRingMath
import Derived.Test.YtjfdcmdgpeeabaaCopy
import Derived.Test.YtjfdcmdgpeeabaaChart
import Derived.Test.YtjfdcmdgpeeabaaStep
namespace Go.Proofs.Ytjfdcmdgpeeabaa
open Go.RowKit

def ringSideB (n : Int) : Bool := inB n 2 8
theorem ringSideB_nat {n : Int} (h : ringSideB n = true) : ∃ m : Nat, n = m ∧ 2 ≤ m ∧ m ≤ 8 := by
  have := inB_yes h
  obtain ⟨m, rfl⟩ := Int.eq_ofNat_of_zero_le (show 0 ≤ n by omega)
  exact ⟨m, rfl, by omega, by omega⟩
def hasRingB (W H : Int) (xs : List Int) : Bool := goodB W H xs && ringSideB W && ringSideB H
theorem isRingSide_any (n : Int) (w : World) : Calls Try.prog 49 #[.int .i64 n] w fun e w' => e = .returned (.bool (ringSideB n)) ∧ w = w' := by
  go_enter Try.func49, Try.ntmps49
  go_wp2_with (go_at_call 75; (with_reducible refine (isBetween_any _ _ _ _).mono ?_); rintro e w' ⟨rfl, rfl⟩)
  go_ret
  exact ⟨rfl, by first | rfl | trivial⟩
theorem l8Side_any (n : Int) (w : World) : Calls Try.prog 58 #[.int .i64 n] w fun e w' => e = .returned (.bool (ringSideB n)) ∧ w = w' := by
  go_enter Try.func58, Try.ntmps58
  go_wp2_with (go_at_call 59; (with_reducible refine (l1In_any _ _ _ _).mono ?_); rintro e w' ⟨rfl, rfl⟩)
  go_ret
  exact ⟨rfl, by first | rfl | trivial⟩
theorem knotsAround_any (m k : Nat) (w : World) (m2 : 2 ≤ m) (m8 : m ≤ 8) (k2 : 2 ≤ k) (k8 : k ≤ 8) : Calls Try.prog 50 #[.int .i64 m, .int .i64 k] w fun e w' => e = .returned (.int .i64 (ringN m k)) ∧ w = w' := by
  go_enter Try.func50, Try.ntmps50
  go_wp2
  go_ret
  exact ⟨ret_int (by unfold ringN; omega), by first | rfl | trivial⟩
theorem l8Length_any (m k : Nat) (w : World) (m2 : 2 ≤ m) (m8 : m ≤ 8) (k2 : 2 ≤ k) (k8 : k ≤ 8) : Calls Try.prog 35 #[.int .i64 m, .int .i64 k] w fun e w' => e = .returned (.int .i64 (ringN m k)) ∧ w = w' := by
  go_enter Try.func35, Try.ntmps35
  go_wp2
  go_ret
  exact ⟨ret_int (by unfold ringN; omega), by first | rfl | trivial⟩
set_option maxRecDepth 100000 in
set_option maxHeartbeats 1000000 in
theorem hasRing_any (W H : Int) (A : Option Addr) (n c B : Nat) (xs : List Int) (w : World) (h : Rd w B A n c xs) (hB : B ≤ w.heap.size) :
    Calls Try.prog 40 #[chartV W H (.slice A n c)] w (Tells w (hasRingB W H xs)) := by
  have hb0 := Lib.hid (show Below w.heap.size w (w.alloc (.cells #[.int .i64 W, .int .i64 H, .slice A n c] 26)) from (Below.refl _ _).alloc (Nat.le_refl _) _)
  have h' := Lib.hid (h.alloc hB (.cells #[.int .i64 W, .int .i64 H, .slice A n c] 26))
  have x0 := Blk.new w #[.int .i64 W, .int .i64 H, .slice A n c] 26
  clear h
  go_enter Try.func40, Try.ntmps40
  go_wp2_with fail
  refine (implIsChart_any W H A n c B xs _ h'.out (by simp; omega)).mono ?_
  rintro e w1 ⟨rfl, hb⟩
  have x1 := x0.all hb
  have e0 := x1.cell 0
  have e1 := x1.cell 1
  have HB := Lib.hid (hb0.out.trans (hb.mono (by simp)))
  clear hb hb0 h' x0
  cases hg : goodB W H xs with
  | false =>
    go_wp2_with (go_at_call 49; (with_reducible refine (isRingSide_any _ _).mono ?_); rintro e w' ⟨rfl, rfl⟩)
    go_ret
    exact ⟨ret_bool (by simp [hasRingB, hg]), HB.out⟩
  | true =>
    cases hw : ringSideB W with
    | false =>
      go_wp2_with (go_at_call 49; (with_reducible refine (isRingSide_any _ _).mono ?_); rintro e w' ⟨rfl, rfl⟩)
      go_ret
      exact ⟨ret_bool (by simp [hasRingB, hw]), HB.out⟩
    | true =>
      go_wp2_with (go_at_call 49; (with_reducible refine (isRingSide_any _ _).mono ?_); rintro e w' ⟨rfl, rfl⟩)
      go_ret
      exact ⟨ret_bool (by simp [hasRingB, hg, hw]), HB.out⟩
set_option maxRecDepth 100000 in
set_option maxHeartbeats 1000000 in
theorem l8Good_any (W H : Int) (A : Option Addr) (n c B : Nat) (xs : List Int) (w : World) (h : Rd w B A n c xs) (hB : B ≤ w.heap.size) :
    Calls Try.prog 48 #[chartV W H (.slice A n c)] w (Tells w (hasRingB W H xs)) := by
  have hb0 := Lib.hid (show Below w.heap.size w (w.alloc (.cells #[.int .i64 W, .int .i64 H, .slice A n c] 26)) from (Below.refl _ _).alloc (Nat.le_refl _) _)
  have h' := Lib.hid (h.alloc hB (.cells #[.int .i64 W, .int .i64 H, .slice A n c] 26))
  have x0 := Blk.new w #[.int .i64 W, .int .i64 H, .slice A n c] 26
  clear h
  go_enter Try.func48, Try.ntmps48
  go_wp2_with fail
  refine (l2Good_any W H A n c B xs _ h'.out (by simp; omega)).mono ?_
  rintro e w1 ⟨rfl, hb⟩
  have x1 := x0.all hb
  have e0 := x1.cell 0
  have e1 := x1.cell 1
  have HB := Lib.hid (hb0.out.trans (hb.mono (by simp)))
  clear hb hb0 h' x0
  cases hg : goodB W H xs with
  | false =>
    go_wp2_with (go_at_call 58; (with_reducible refine (l8Side_any _ _).mono ?_); rintro e w' ⟨rfl, rfl⟩)
    go_ret
    exact ⟨ret_bool (by simp [hasRingB, hg]), HB.out⟩
  | true =>
    cases hw : ringSideB W with
    | false =>
      go_wp2_with (go_at_call 58; (with_reducible refine (l8Side_any _ _).mono ?_); rintro e w' ⟨rfl, rfl⟩)
      go_ret
      exact ⟨ret_bool (by simp [hasRingB, hw]), HB.out⟩
    | true =>
      go_wp2_with (go_at_call 58; (with_reducible refine (l8Side_any _ _).mono ?_); rintro e w' ⟨rfl, rfl⟩)
      go_ret
      exact ⟨ret_bool (by simp [hasRingB, hg, hw]), HB.out⟩
/-- The number of the knots of a ring, where there is one. -/
def ringLenV (W H : Int) : Int := orZero (ringSideB W && ringSideB H) (2 * W + 2 * H - 4)
theorem ringLenV_no1 {W H : Int} (h : ringSideB W = false) : ringLenV W H = 0 := by unfold ringLenV; rw [h]; rfl
theorem ringLenV_no2 {W H : Int} (h : ringSideB H = false) : ringLenV W H = 0 := by unfold ringLenV; rw [h, Bool.and_false]; rfl
theorem ringLenV_yes {m k : Nat} (h : ringSideB (m : Int) = true) (h' : ringSideB (k : Int) = true) (m2 : 2 ≤ m) (k2 : 2 ≤ k) : ringLenV m k = ringN m k := by unfold ringLenV; rw [h, h']; simp [orZero, ringN]; omega
set_option maxRecDepth 100000 in
set_option maxHeartbeats 1000000 in
theorem implRingLength_any (W H : Int) (w : World) : Calls Try.prog 15 #[.int .i64 W, .int .i64 H] w (Out w (.tuple #[.int .i64 (ringLenV W H), .bool (ringSideB W && ringSideB H)])) := by
  have hb0 := Lib.hid (Below.refl w.heap.size w)
  cases hW : ringSideB W with
  | false =>
    rw [ringLenV_no1 hW]
    go_enter Try.func15, Try.ntmps15
    go_wp2_with (go_at_call 49; (with_reducible refine (isRingSide_any _ _).mono ?_); rintro e w' ⟨rfl, rfl⟩)
    go_ret2
    exact ⟨rfl, hb0.out⟩
  | true =>
    cases hH : ringSideB H with
    | false =>
      rw [ringLenV_no2 hH]
      go_enter Try.func15, Try.ntmps15
      go_wp2_with (go_at_call 49; (with_reducible refine (isRingSide_any _ _).mono ?_); rintro e w' ⟨rfl, rfl⟩)
      go_ret2
      exact ⟨rfl, hb0.out⟩
    | true =>
      obtain ⟨m, rfl, m2, m8⟩ := ringSideB_nat hW
      obtain ⟨k, rfl, k2, k8⟩ := ringSideB_nat hH
      rw [ringLenV_yes hW hH m2 k2]
      go_enter Try.func15, Try.ntmps15
      go_wp2_with (first | (go_at_call 49; (with_reducible refine (isRingSide_any _ _).mono ?_); rintro e w' ⟨rfl, rfl⟩) | (go_at_call 50; (with_reducible refine (knotsAround_any m k _ m2 m8 k2 k8).mono ?_); rintro e w' ⟨rfl, rfl⟩))
      go_ret2
      exact ⟨rfl, hb0.out⟩
/-- A pattern. -/
def patB (ps : List Int) : Bool := decide (1 ≤ ps.length ∧ ps.length ≤ 8) && ps.all isColorB
theorem patB_yes {ps : List Int} (h : patB ps = true) : 1 ≤ ps.length ∧ ps.length ≤ 8 ∧ ps.all isColorB = true := by simpa [patB, and_assoc] using h
theorem patB_no {ps : List Int} (h : ¬ (1 ≤ ps.length ∧ ps.length ≤ 8)) : patB ps = false := by unfold patB; rw [decide_eq_false h]; rfl
theorem patB_len {ps : List Int} (h : 1 ≤ ps.length ∧ ps.length ≤ 8) : patB ps = ps.all isColorB := by unfold patB; rw [decide_eq_true h]; rfl
theorem inB_len {n : Nat} : inB (n : Int) 1 8 = decide (1 ≤ n ∧ n ≤ 8) := by unfold inB; rw [Bool.eq_iff_iff]; simp; omega
theorem isPatternLength_any (n : Int) (w : World) : Calls Try.prog 53 #[.int .i64 n] w fun e w' => e = .returned (.bool (inB n 1 8)) ∧ w = w' := by
  go_enter Try.func53, Try.ntmps53
  go_wp2_with (go_at_call 75; (with_reducible refine (isBetween_any _ _ _ _).mono ?_); rintro e w' ⟨rfl, rfl⟩)
  go_ret
  exact ⟨rfl, by first | rfl | trivial⟩
set_option maxRecDepth 100000 in
set_option maxHeartbeats 1000000 in
theorem isPattern_any (A : Option Addr) (n c B : Nat) (ps : List Int) (w : World) (h : Rd w B A n c ps) :
    Calls Try.prog 27 #[.slice A n c] w fun e w' => e = .returned (.bool (patB ps)) ∧ w = w' := by
  obtain rfl := h.len
  have hl := h.len_lt
  by_cases hp : 1 ≤ ps.length ∧ ps.length ≤ 8
  · have hd : inB (ps.length : Int) 1 8 = true := by rw [inB_len, decide_eq_true hp]
    rw [patB_len hp]
    clear hp
    go_enter Try.func27, Try.ntmps27
    go_wp2_with (first | (go_at_call 53; (with_reducible refine (isPatternLength_any _ _).mono ?_); rintro e w' ⟨rfl, rfl⟩) | (go_at_call 63; (with_reducible refine (areColors_any A _ c B ps _ h).mono ?_); rintro e w' ⟨rfl, rfl⟩))
    go_ret
    exact ⟨rfl, by first | rfl | trivial⟩
  · have hd : inB (ps.length : Int) 1 8 = false := by rw [inB_len, decide_eq_false hp]
    rw [patB_no hp]
    clear hp
    go_enter Try.func27, Try.ntmps27
    go_wp2_with (first | (go_at_call 53; (with_reducible refine (isPatternLength_any _ _).mono ?_); rintro e w' ⟨rfl, rfl⟩) | (go_at_call 63; (with_reducible refine (areColors_any A _ c B ps _ h).mono ?_); rintro e w' ⟨rfl, rfl⟩))
    go_ret
    exact ⟨rfl, by first | rfl | trivial⟩
set_option maxRecDepth 100000 in
set_option maxHeartbeats 1000000 in
theorem l8Pattern_any (A : Option Addr) (n c B : Nat) (ps : List Int) (w : World) (h : Rd w B A n c ps) :
    Calls Try.prog 33 #[.slice A n c] w fun e w' => e = .returned (.bool (patB ps)) ∧ w = w' := by
  obtain rfl := h.len
  have hl := h.len_lt
  have HP := Lib.hid (show patB ps = (ps.all isColorB && inB (ps.length : Int) 1 8) by rw [inB_len, Bool.and_comm]; rfl)
  rw [HP.out]
  cases hp : ps.all isColorB with
  | true =>
    go_enter Try.func33, Try.ntmps33
    go_wp2_with (first | (go_at_call 59; (with_reducible refine (l1In_any _ _ _ _).mono ?_); rintro e w' ⟨rfl, rfl⟩) | (go_at_call 70; (with_reducible refine (l8Colors_any A _ c B ps _ h).mono ?_); rintro e w' ⟨rfl, rfl⟩))
    go_ret
    exact ⟨rfl, by first | rfl | trivial⟩
  | false =>
    go_enter Try.func33, Try.ntmps33
    go_wp2_with (first | (go_at_call 59; (with_reducible refine (l1In_any _ _ _ _).mono ?_); rintro e w' ⟨rfl, rfl⟩) | (go_at_call 70; (with_reducible refine (l8Colors_any A _ c B ps _ h).mono ?_); rintro e w' ⟨rfl, rfl⟩))
    go_ret
    exact ⟨rfl, by first | rfl | trivial⟩

/-- append of one number, the length told by a letter. -/
theorem wpList_append_n {P : Program} {ops : Array Oper} {rest : List Oper} {o : Oper} {a : Act} {Q : Exit → Act → World → Prop} (w : World) (hgd : o.guard = none) (s x : Operand) (T : TypeId)
    (ho : o.op = .call { callee := .builtin .append, args := #[s, x], argTypes := #[T, T] }) (ht : P.underlying T = some (.slice 3)) (hinfo : (P.info? 3).map (fun i => (i.zero, i.size, i.bytes)) = some (some (.int .i64 0), 1, 8))
    (lo n : Nat) (v : Value) (xs : List Int) (q : Int) (hn : xs.length = n)
    (hs : a.eval s = v) (hx : a.eval x = .slice (some ⟨w.heap.size, 0, none⟩) 1 1) (hown : Own w lo v xs) (hlen : n ≤ 1073741824) (hq : I64 q) (hlo : lo ≤ w.heap.size)
    (h : ∀ A' c' w', Own w' lo (.slice A' (n + 1) c') (xs ++ [q]) → w.grownBy w' v.ownBlock → wpList P ops Q rest (a.put o.dst (.slice A' (n + 1) c')) w') :
    wpList P ops Q (o :: rest) a (w.alloc (.cells #[.int .i64 q] 3)) := by
  subst hn
  exact wpList_append_one w hgd s x T ho ht hinfo lo v xs q hs hx hown hlen hq hlo h
/-- The places of a ring, as numbers of the program. -/
def ringI (m k : Nat) : List Int := (List.range (ringN m k)).map fun n => (placeP m k n : Int)
theorem ringI_len (m k : Nat) : (ringI m k).length = ringN m k := by simp [ringI]
theorem ringI_take {m k n : Nat} (hn : n ≤ ringN m k) : ((ringI m k).take n).length = n := by rw [List.length_take, ringI_len]; omega
theorem ringI_snoc {m k n : Nat} {p : Int} (hn : n < ringN m k) (hp : (placeP m k n : Int) = p) : (ringI m k).take n ++ [p] = (ringI m k).take (n + 1) := by
  have hl : n < (ringI m k).length := by rw [ringI_len]; exact hn
  rw [List.take_succ_eq_append_getElem hl]
  congr 2
  simp [ringI, hp]
theorem ringI_all {m k n : Nat} (hn : n = ringN m k) : (ringI m k).take n = ringI m k := List.take_of_length_le (by rw [ringI_len]; omega)
/-- Where each of the four loops stands. -/
def segOk (m k : Nat) : Bool :=
  ((List.range m).all fun i => placeP m k i == i) && ((List.range (k - 1)).all fun i => placeP m k (m + i) == (i + 1) * m + m - 1) &&
  ((List.range (m - 1)).all fun i => placeP m k (m + (k - 1) + i) == (k - 1) * m + (m - 2 - i)) && ((List.range (k - 2)).all fun i => placeP m k (m + (k - 1) + (m - 1) + i) == (k - 2 - i) * m)
theorem seg_tab : inSides segOk = true := by kernel_rfl
theorem seg_at {m k : Nat} (m2 : 2 ≤ m) (m8 : m ≤ 8) (k2 : 2 ≤ k) (k8 : k ≤ 8) : (∀ i, i < m → placeP m k i = i) ∧ (∀ i, i < k - 1 → placeP m k (m + i) = (i + 1) * m + m - 1) ∧
    (∀ i, i < m - 1 → placeP m k (m + (k - 1) + i) = (k - 1) * m + (m - 2 - i)) ∧ (∀ i, i < k - 2 → placeP m k (m + (k - 1) + (m - 1) + i) = (k - 2 - i) * m) := by
  have h := inSides_at seg_tab m2 m8 k2 k8
  unfold segOk at h
  simp only [Bool.and_eq_true, List.all_eq_true, List.mem_range, beq_iff_eq] at h
  exact ⟨h.1.1.1, h.1.1.2, h.1.2, h.2⟩

set_option maxRecDepth 100000 in
set_option maxHeartbeats 4000000 in
theorem l8Places_any (m k : Nat) (w : World) (m2 : 2 ≤ m) (m8 : m ≤ 8) (k2 : 2 ≤ k) (k8 : k ≤ 8) : Calls Try.prog 72 #[.int .i64 m, .int .i64 k] w (OwnCopy w (ringI m k)) := by
  have hb0 := Lib.hid ((Below.refl w.heap.size w).alloc (Nat.le_refl _) (.cells #[] 3))
  have ho0 : Own (w.alloc (.cells #[] 3)) w.heap.size (.slice (some ⟨w.heap.size, 0, none⟩) 0 0) [] := Own.empty (Nat.le_refl _)
  obtain ⟨N, hN⟩ : ∃ N, N = ringN m k := ⟨_, rfl⟩
  have hNe : N = 2 * (m - 1) + 2 * (k - 1) := hN
  have HSEG := Lib.hid (seg_at m2 m8 k2 k8)
  go_enter Try.func72, Try.ntmps72
  go_wp2
  go_loopw [6, 5] (fun s6 s5 wr => ∃ (i : Nat) (A : Option Addr) (c' : Nat), i ≤ m ∧ s6 = .int .i64 ((i : Int)) ∧ s5 = .slice A (i) c' ∧ Own wr w.heap.size (.slice A (i) c') ((ringI m k).take (i)) ∧ Hid (Below w.heap.size w wr)) (fun s6 _ _ => m - (intOf s6).toNat)
  case atStart => exact ⟨0, _, _, Nat.zero_le _, by go_num, rfl, by simpa using ho0, hb0⟩
  case round =>
    clear hb0 ho0
    obtain ⟨i, A, c', hi, rfl, rfl, ho, HB⟩ := hrel
    have hzw := HB.out.size
    by_cases hlt : i < m
    · have hn : i < ringN m k := by rw [← hN, hNe]; omega
      have HT := Lib.hid (ringI_take (Nat.le_of_lt hn))
      have HP := Lib.hid (ringI_snoc (p := (i : Int)) hn (by rw [HSEG.out.1 i hlt]))
      have hq : I64 ((i : Int)) := ⟨by omega, by omega⟩
      have hlr : i ≤ 1073741824 := by omega
      have hcd : (i : Int) < (m : Int) := by omega
      go_wp2_with (at_builtin; refine wpList_append_n wr rfl (.tmp 16) (.tmp 18) 24 rfl Try.underlying24 info_int w.heap.size _ _ _ _ HT.out rfl rfl ho hlr hq hzw ?_)
      intro A2 c2 w1 ho1 hg1
      rw [HP.out] at ho1
      have HB1 := Lib.hid (HB.out.grown hg1 hzw (fun z hz => (ho.bd z hz).1))
      clear HP HT ho HB
      go_wp2
      go_roundw
      case rel => exact ⟨i + 1, A2, c2, by omega, by first | go_num | (congr 1; omega), rfl, ho1, HB1⟩
      case measure => simp [intOf]; omega
    · obtain rfl : m = i := by omega
      have hcd : ¬ (m : Int) < (m : Int) := by omega
      go_wp2
      go_loopw [7, 5] (fun s7 s5 wr => ∃ (i : Nat) (A : Option Addr) (c' : Nat), i ≤ k - 1 ∧ s7 = .int .i64 (((i : Int) + 1)) ∧ s5 = .slice A (m + i) c' ∧ Own wr w.heap.size (.slice A (m + i) c') ((ringI m k).take (m + i)) ∧ Hid (Below w.heap.size w wr)) (fun s7 _ _ => k - (intOf s7).toNat)
      case atStart => exact ⟨0, A, c', Nat.zero_le _, by first | rfl | (congr 1; omega) | go_num, by rw [Nat.add_zero], by rw [Nat.add_zero]; exact ho, HB⟩
      case round =>
        clear ho HB
        obtain ⟨i, A, c', hi, rfl, rfl, ho, HB⟩ := hrel
        have hzw := HB.out.size
        by_cases hlt : i < k - 1
        · have hn : m + i < ringN m k := by rw [← hN, hNe]; omega
          have HT := Lib.hid (ringI_take (Nat.le_of_lt hn))
          have HP := Lib.hid (ringI_snoc (p := (((i : Int) + 1)) * (m : Int) + (m : Int) - 1) hn (by rw [HSEG.out.2.1 i hlt]; have e : (((i : Int) + 1)) * (m : Int) = (((i + 1) * m : Nat) : Int) := (by rw [Int.natCast_mul]; rfl); omega))
          have hmk : (i + 1) * m ≤ 8 * 8 := Nat.mul_le_mul (by omega) (by omega)
          have hkm : (k - 1) * m ≤ 8 * 8 := Nat.mul_le_mul (by omega) (by omega)
          have hkm2 : (k - 2 - i) * m ≤ 8 * 8 := Nat.mul_le_mul (by omega) (by omega)
          have E1 : (((i : Int) + 1)) * (m : Int) = (((i + 1) * m : Nat) : Int) := by rw [Int.natCast_mul]; rfl
          have hw0 : IntKind.i64.wrap ((((i : Int) + 1)) * (m : Int)) = (((i : Int) + 1)) * (m : Int) := IntWalk.i64_in _ (by first | omega | (rw [E1]; omega))
          have hw1 : IntKind.i64.wrap ((((i : Int) + 1)) * (m : Int) + (m : Int)) = (((i : Int) + 1)) * (m : Int) + (m : Int) := IntWalk.i64_in _ (by first | omega | (rw [E1]; omega))
          have hw2 : IntKind.i64.wrap ((((i : Int) + 1)) * (m : Int) + (m : Int) - 1) = (((i : Int) + 1)) * (m : Int) + (m : Int) - 1 := IntWalk.i64_in _ (by first | omega | (rw [E1]; omega))
          have hq : I64 ((((i : Int) + 1)) * (m : Int) + (m : Int) - 1) := ⟨by rw [E1]; omega, by rw [E1]; omega⟩
          clear hmk hkm hkm2 E1
          have hlr : m + i ≤ 1073741824 := by omega
          have hcd : ((i : Int) + 1) < (k : Int) := by omega
          go_wp2_with (at_builtin; refine wpList_append_n wr rfl (.tmp 25) (.tmp 32) 24 rfl Try.underlying24 info_int w.heap.size _ _ _ _ HT.out rfl rfl ho hlr hq hzw ?_)
          intro A2 c2 w1 ho1 hg1
          rw [HP.out] at ho1
          have HB1 := Lib.hid (HB.out.grown hg1 hzw (fun z hz => (ho.bd z hz).1))
          clear HP HT ho HB
          go_wp2
          go_roundw
          case rel => exact ⟨i + 1, A2, c2, by omega, by first | go_num | (congr 1; omega), rfl, ho1, HB1⟩
          case measure => simp [intOf]; omega
        · obtain rfl : i = k - 1 := by omega
          have hcd : ¬ ((k - 1 : Nat) : Int) + 1 < (k : Int) := by omega
          go_wp2
          go_loopw [8, 5] (fun s8 s5 wr => ∃ (i : Nat) (A : Option Addr) (c' : Nat), i ≤ m - 1 ∧ s8 = .int .i64 ((m : Int) - 2 - (i : Int)) ∧ s5 = .slice A (m + (k - 1) + i) c' ∧ Own wr w.heap.size (.slice A (m + (k - 1) + i) c') ((ringI m k).take (m + (k - 1) + i)) ∧ Hid (Below w.heap.size w wr)) (fun s8 _ _ => (intOf s8 + 1).toNat)
          case atStart => exact ⟨0, A, c', Nat.zero_le _, by first | rfl | (congr 1; omega) | go_num, by rw [Nat.add_zero], by rw [Nat.add_zero]; exact ho, HB⟩
          case round =>
            clear ho HB
            obtain ⟨i, A, c', hi, rfl, rfl, ho, HB⟩ := hrel
            have hzw := HB.out.size
            by_cases hlt : i < m - 1
            · have hn : m + (k - 1) + i < ringN m k := by rw [← hN, hNe]; omega
              have HT := Lib.hid (ringI_take (Nat.le_of_lt hn))
              have HP := Lib.hid (ringI_snoc (p := ((k : Int) - 1) * (m : Int) + ((m : Int) - 2 - (i : Int))) hn (by rw [HSEG.out.2.2.1 i hlt]; have e : ((k : Int) - 1) * (m : Int) = (((k - 1) * m : Nat) : Int) := (by rw [Int.natCast_mul]; congr 1; omega); omega))
              have hmk : (i + 1) * m ≤ 8 * 8 := Nat.mul_le_mul (by omega) (by omega)
              have hkm : (k - 1) * m ≤ 8 * 8 := Nat.mul_le_mul (by omega) (by omega)
              have hkm2 : (k - 2 - i) * m ≤ 8 * 8 := Nat.mul_le_mul (by omega) (by omega)
              have E1 : ((k : Int) - 1) * (m : Int) = (((k - 1) * m : Nat) : Int) := by rw [Int.natCast_mul]; congr 1; omega
              have hw0 : IntKind.i64.wrap ((k : Int) - 1) = (k : Int) - 1 := IntWalk.i64_in _ (by first | omega | (rw [E1]; omega))
              have hw1 : IntKind.i64.wrap (((k : Int) - 1) * (m : Int)) = ((k : Int) - 1) * (m : Int) := IntWalk.i64_in _ (by first | omega | (rw [E1]; omega))
              have hw2 : IntKind.i64.wrap (((k : Int) - 1) * (m : Int) + ((m : Int) - 2 - (i : Int))) = ((k : Int) - 1) * (m : Int) + ((m : Int) - 2 - (i : Int)) := IntWalk.i64_in _ (by first | omega | (rw [E1]; omega))
              have hq : I64 (((k : Int) - 1) * (m : Int) + ((m : Int) - 2 - (i : Int))) := ⟨by rw [E1]; omega, by rw [E1]; omega⟩
              clear hmk hkm hkm2 E1
              have hlr : m + (k - 1) + i ≤ 1073741824 := by omega
              have hcd : (0 : Int) ≤ (m : Int) - 2 - (i : Int) := by omega
              go_wp2_with (at_builtin; refine wpList_append_n wr rfl (.tmp 40) (.tmp 47) 24 rfl Try.underlying24 info_int w.heap.size _ _ _ _ HT.out rfl rfl ho hlr hq hzw ?_)
              intro A2 c2 w1 ho1 hg1
              rw [HP.out] at ho1
              have HB1 := Lib.hid (HB.out.grown hg1 hzw (fun z hz => (ho.bd z hz).1))
              clear HP HT ho HB
              go_wp2
              go_roundw
              case rel => exact ⟨i + 1, A2, c2, by omega, by first | go_num | (congr 1; omega), rfl, ho1, HB1⟩
              case measure => simp [intOf]; omega
            · obtain rfl : i = m - 1 := by omega
              have hcd : ¬ (0 : Int) ≤ (m : Int) - 2 - ((m - 1 : Nat) : Int) := by omega
              go_wp2
              go_loopw [9, 5] (fun s9 s5 wr => ∃ (i : Nat) (A : Option Addr) (c' : Nat), i ≤ k - 2 ∧ s9 = .int .i64 ((k : Int) - 2 - (i : Int)) ∧ s5 = .slice A (m + (k - 1) + (m - 1) + i) c' ∧ Own wr w.heap.size (.slice A (m + (k - 1) + (m - 1) + i) c') ((ringI m k).take (m + (k - 1) + (m - 1) + i)) ∧ Hid (Below w.heap.size w wr)) (fun s9 _ _ => (intOf s9 + 1).toNat)
              case atStart => exact ⟨0, A, c', Nat.zero_le _, by first | rfl | (congr 1; omega) | go_num, by rw [Nat.add_zero], by rw [Nat.add_zero]; exact ho, HB⟩
              case round =>
                clear ho HB
                obtain ⟨i, A, c', hi, rfl, rfl, ho, HB⟩ := hrel
                have hzw := HB.out.size
                by_cases hlt : i < k - 2
                · have hn : m + (k - 1) + (m - 1) + i < ringN m k := by rw [← hN, hNe]; omega
                  have HT := Lib.hid (ringI_take (Nat.le_of_lt hn))
                  have HP := Lib.hid (ringI_snoc (p := ((k : Int) - 2 - (i : Int)) * (m : Int)) hn (by rw [HSEG.out.2.2.2 i hlt]; rw [Int.natCast_mul]; congr 1; omega))
                  have hmk : (i + 1) * m ≤ 8 * 8 := Nat.mul_le_mul (by omega) (by omega)
                  have hkm : (k - 1) * m ≤ 8 * 8 := Nat.mul_le_mul (by omega) (by omega)
                  have hkm2 : (k - 2 - i) * m ≤ 8 * 8 := Nat.mul_le_mul (by omega) (by omega)
                  have E1 : ((k : Int) - 2 - (i : Int)) * (m : Int) = (((k - 2 - i) * m : Nat) : Int) := by rw [Int.natCast_mul]; congr 1; omega
                  have hw0 : IntKind.i64.wrap (((k : Int) - 2 - (i : Int)) * (m : Int)) = ((k : Int) - 2 - (i : Int)) * (m : Int) := IntWalk.i64_in _ (by first | omega | (rw [E1]; omega))
                  have hq : I64 (((k : Int) - 2 - (i : Int)) * (m : Int)) := ⟨by rw [E1]; omega, by rw [E1]; omega⟩
                  clear hmk hkm hkm2 E1
                  have hlr : m + (k - 1) + (m - 1) + i ≤ 1073741824 := by omega
                  have hcd : (0 : Int) < (k : Int) - 2 - (i : Int) := by omega
                  go_wp2_with (at_builtin; refine wpList_append_n wr rfl (.tmp 55) (.tmp 59) 24 rfl Try.underlying24 info_int w.heap.size _ _ _ _ HT.out rfl rfl ho hlr hq hzw ?_)
                  intro A2 c2 w1 ho1 hg1
                  rw [HP.out] at ho1
                  have HB1 := Lib.hid (HB.out.grown hg1 hzw (fun z hz => (ho.bd z hz).1))
                  clear HP HT ho HB
                  go_wp2
                  go_roundw
                  case rel => exact ⟨i + 1, A2, c2, by omega, by first | go_num | (congr 1; omega), rfl, ho1, HB1⟩
                  case measure => simp [intOf]; omega
                · obtain rfl : i = k - 2 := by omega
                  have hcd : ¬ (0 : Int) < (k : Int) - 2 - ((k - 2 : Nat) : Int) := by omega
                  go_wp2
                  go_ret
                  have HE := Lib.hid (ringI_all (m := m) (k := k) (show m + (k - 1) + (m - 1) + (k - 2) = ringN m k by rw [← hN, hNe]; omega))
                  rw [HE.out] at ho
                  exact ⟨A, c', by rw [ringI_len, show m + (k - 1) + (m - 1) + (k - 2) = ringN m k by rw [← hN, hNe]; omega]; rfl, by rw [ringI_len, ← show m + (k - 1) + (m - 1) + (k - 2) = ringN m k by rw [← hN, hNe]; omega]; exact ho, HB.out⟩
end Go.Proofs.Ytjfdcmdgpeeabaa
