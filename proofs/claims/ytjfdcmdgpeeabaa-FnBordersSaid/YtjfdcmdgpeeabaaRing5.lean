/- The walks of RingOf, PutRing and DoesMeet, the program's and the model's. No condition. -/
import Derived.Test.YtjfdcmdgpeeabaaRing4b
import Derived.Test.YtjfdcmdgpeeabaaPart2
namespace Go.Proofs.Ytjfdcmdgpeeabaa
open Go.RowKit

theorem hasRing_nat {W H : Int} {xs : List Int} (h : hasRingB W H xs = true) : ∃ m k : Nat, W = m ∧ H = k ∧ 2 ≤ m ∧ m ≤ 8 ∧ 2 ≤ k ∧ k ≤ 8 ∧ Hid (xs.length = m * k) ∧ goodB m k xs = true ∧ xs.length ≤ 64 ∧ 1 ≤ xs.length := by
  simp only [hasRingB, Bool.and_eq_true] at h
  obtain ⟨⟨hg, hW⟩, hH⟩ := h
  obtain ⟨m, k, rfl, rfl, _, _, _, _, hl, h64, hl1, _⟩ := good_nat hg
  have h1 := inB_yes hW
  have h2 := inB_yes hH
  exact ⟨m, k, rfl, rfl, by omega, by omega, by omega, by omega, hl, hg, h64, hl1⟩
/-- The ring of a chart, where it has one. -/
def ringX (W H : Int) (xs : List Int) : List Int := if hasRingB W H xs = true then ringL W.toNat H.toNat xs else []
theorem ringX_len (W H : Int) (xs : List Int) : (ringX W H xs).length ≤ 28 := by
  unfold ringX
  split
  · rename_i h
    obtain ⟨m, k, rfl, rfl, m2, m8, k2, k8, _⟩ := hasRing_nat h
    have := ringN_bd m2 m8 k2 k8
    rw [ringL_len]
    simp only [Int.toNat_natCast]
    omega
  · simp
theorem ringX_len2 (W H : Int) (xs : List Int) : (ringX W H xs).length ≤ 100000 := Nat.le_trans (ringX_len W H xs) (by omega)
set_option maxRecDepth 100000 in
set_option maxHeartbeats 1000000 in
theorem implRingOf_any (W H : Int) (A : Option Addr) (n c B : Nat) (xs : List Int) (w : World) (hR : Rd w B A n c xs) (hB : B ≤ w.heap.size) :
    Calls Try.prog 41 #[chartV W H (.slice A n c)] w (OutInts w (ringX W H xs) (hasRingB W H xs)) := by
  cases hg : hasRingB W H xs with
  | true =>
    rw [ringX, if_pos hg]
    obtain ⟨m, k, rfl, rfl, m2, m8, k2, k8, hl, _, h64, hl1⟩ := hasRing_nat hg
    simp only [Int.toNat_natCast]
    obtain rfl := hR.len
    obtain ⟨b, off, rfl, _, _⟩ := hR.cells (by omega)
    exact implRingOf_yes m k b off c B xs w hR hB m2 m8 k2 k8 hl hg
  | false =>
    rw [ringX, if_neg (by rw [hg]; decide)]
    have HB := Lib.hid ((Below.refl w.heap.size w).alloc (by first | (simp; done) | (simp; omega) | omega) (.cells #[.int .i64 W, .int .i64 H, .slice A n c] 26))
    have R := ((hR)).alloc (hB) (.cells #[.int .i64 W, .int .i64 H, .slice A n c] 26)
    have x := (Blk.new w #[.int .i64 W, .int .i64 H, .slice A n c] 26).at_ (q := w.heap.size) (by simp)
    have hsz : w.heap.size + 1 ≤ (w.alloc (.cells #[.int .i64 W, .int .i64 H, .slice A n c] 26)).heap.size := by simp
    clear hR
    go_enter Try.func41, Try.ntmps41
    go_wp2_with fail
    obtain ⟨W0, hW0⟩ : ∃ v, (w.alloc (.cells #[.int .i64 W, .int .i64 H, .slice A n c] 26)) = v := ⟨_, rfl⟩
    rw [hW0] at HB hsz R x ⊢
    clear hW0
    have ex0 := x.cell 0
    have ex1 := x.cell 1
    have ex2 := x.cell 2
    have zx := x.lt
    go_wp2_with fail
    refine (hasRing_any W H A n c B xs _ R (Nat.le_trans hB (by omega))).mono ?_
    rintro e w1 ⟨rfl, hb⟩
    clear ex0 ex1 ex2 zx
    replace x := x.all hb
    replace R := R.all hb (Nat.le_trans (hB) (by omega))
    replace HB := Lib.hid (HB.out.trans (hb.mono (by omega)))
    replace hsz := Nat.le_trans hsz hb.size
    clear hb
    rw [hg]
    go_wp2
    go_ret2
    exact ⟨none, 0, rfl, Own.nil _ _, HB.out⟩
/-- A ring may be put into a chart. -/
def putOk8 (W H : Int) (xs cs : List Int) : Bool := hasRingB W H xs && (cs.all isColorB && decide (cs.length = ringN W.toNat H.toNat))
def putX8 (W H : Int) (xs cs : List Int) : List Int := if putOk8 W H xs cs = true then putRing W.toNat H.toNat xs cs else []
theorem putOk8_yes {W H : Int} {xs cs : List Int} (h : putOk8 W H xs cs = true) : hasRingB W H xs = true ∧ cs.all isColorB = true ∧ cs.length = ringN W.toNat H.toNat := by
  simpa [putOk8] using h
theorem putOk8_no {W H : Int} {xs cs : List Int} (h : putOk8 W H xs cs = false) : hasRingB W H xs = false ∨ (hasRingB W H xs = true ∧ cs.all isColorB = false) ∨ (hasRingB W H xs = true ∧ cs.all isColorB = true ∧ cs.length ≠ ringN W.toNat H.toNat) := by
  unfold putOk8 at h
  cases h1 : hasRingB W H xs with
  | false => exact .inl rfl
  | true =>
    cases h2 : cs.all isColorB with
    | false => exact .inr (.inl ⟨rfl, rfl⟩)
    | true =>
      rw [h1, h2] at h
      exact .inr (.inr ⟨rfl, rfl, by simpa using h⟩)
theorem putX8_len (W H : Int) (xs cs : List Int) : (putX8 W H xs cs).length ≤ 1048576 := by
  unfold putX8
  split
  · rename_i h
    obtain ⟨m, k, rfl, rfl, _, _, _, _, _, _, h64, _⟩ := hasRing_nat (putOk8_yes h).1
    rw [putRing_len]; omega
  · simp
def meetOk (W H : Int) (xs ps : List Int) : Bool := hasRingB W H xs && patB ps
def meetV (W H : Int) (xs ps : List Int) : Bool := meetOk W H xs ps && decide (ringN W.toNat H.toNat % ps.length = 0)
theorem meet_rem {a b : Nat} : (Int.tmod (a : Int) (b : Int) == 0) = decide (a % b = 0) := by
  rw [show Int.tmod (a : Int) (b : Int) = ((a % b : Nat) : Int) from rfl]
  generalize a % b = r
  cases r <;> rfl
set_option maxRecDepth 100000 in
set_option maxHeartbeats 1000000 in
theorem meetsIn_any (m k p : Nat) (w : World) (m2 : 2 ≤ m) (m8 : m ≤ 8) (k2 : 2 ≤ k) (k8 : k ≤ 8) (p1 : 1 ≤ p) (p8 : p ≤ 8) : Calls Try.prog 29 #[.int .i64 m, .int .i64 k, .int .i64 p] w fun e w' => e = .returned (.bool (decide (ringN m k % p = 0))) ∧ w = w' := by
  have HR := Lib.hid (meet_rem (a := ringN m k) (b := p))
  have hN := ringN_bd m2 m8 k2 k8
  have hp0 : ¬ p = 0 := by omega
  rw [← HR.out]
  go_enter Try.func29, Try.ntmps29
  go_wp2_with (go_at_call 50; (with_reducible refine (knotsAround_any m k _ m2 m8 k2 k8).mono ?_); rintro e w' ⟨rfl, rfl⟩)
  go_ret
  exact ⟨rfl, by first | rfl | trivial⟩
set_option maxRecDepth 100000 in
set_option maxHeartbeats 1000000 in
theorem implDoesMeet_any (W H : Int) (A : Option Addr) (n c B : Nat) (xs : List Int) (A' : Option Addr) (n' c' B' : Nat) (cs : List Int) (w : World) (hR : Rd w B A n c xs) (hR' : Rd w B' A' n' c' cs) (hB : B ≤ w.heap.size) (hB' : B' ≤ w.heap.size) :
    Calls Try.prog 10 #[chartV W H (.slice A n c), .slice A' n' c'] w (Out w (.tuple #[.bool (meetV W H xs cs), .bool (meetOk W H xs cs)])) := by
  obtain rfl := hR'.len
  have hcn := hR'.len_lt
  cases hg : hasRingB W H xs with
  | false =>
    rw [show meetV W H xs cs = false by simp [meetV, meetOk, hg], show meetOk W H xs cs = false by simp [meetOk, hg]]
    have HB := Lib.hid ((Below.refl w.heap.size w).alloc (by first | (simp; done) | (simp; omega) | omega) (.cells #[.int .i64 W, .int .i64 H, .slice A n c] 26))
    have R := ((hR)).alloc (hB) (.cells #[.int .i64 W, .int .i64 H, .slice A n c] 26)
    have Q := ((hR')).alloc (hB') (.cells #[.int .i64 W, .int .i64 H, .slice A n c] 26)
    have x := (Blk.new w #[.int .i64 W, .int .i64 H, .slice A n c] 26).at_ (q := w.heap.size) (by simp)
    have hsz : w.heap.size + 1 ≤ (w.alloc (.cells #[.int .i64 W, .int .i64 H, .slice A n c] 26)).heap.size := by simp
    clear hR hR'
    go_enter Try.func10, Try.ntmps10
    go_wp2_with fail
    obtain ⟨W0, hW0⟩ : ∃ v, (w.alloc (.cells #[.int .i64 W, .int .i64 H, .slice A n c] 26)) = v := ⟨_, rfl⟩
    rw [hW0] at HB hsz R Q x ⊢
    clear hW0
    have ex0 := x.cell 0
    have ex1 := x.cell 1
    have ex2 := x.cell 2
    have zx := x.lt
    go_wp2_with fail
    refine (hasRing_any W H A n c B xs _ R (Nat.le_trans hB (by omega))).mono ?_
    rintro e w1 ⟨rfl, hb⟩
    clear ex0 ex1 ex2 zx
    replace x := x.all hb
    replace R := R.all hb (Nat.le_trans (hB) (by omega))
    replace Q := Q.all hb (Nat.le_trans (hB') (by omega))
    replace HB := Lib.hid (HB.out.trans (hb.mono (by omega)))
    replace hsz := Nat.le_trans hsz hb.size
    clear hb
    rw [hg]
    go_wp2
    go_ret2
    exact ⟨rfl, HB.out⟩
  | true =>
    obtain ⟨m, k, rfl, rfl, m2, m8, k2, k8, hl, _, h64, hl1⟩ := hasRing_nat hg
    have hN := ringN_bd m2 m8 k2 k8
    cases hpt : patB cs with
    | false =>
      rw [show meetV m k xs cs = false by simp [meetV, meetOk, hpt], show meetOk m k xs cs = false by simp [meetOk, hpt]]
      have HB := Lib.hid ((Below.refl w.heap.size w).alloc (by first | (simp; done) | (simp; omega) | omega) (.cells #[.int .i64 m, .int .i64 k, .slice A n c] 26))
      have R := ((hR)).alloc (hB) (.cells #[.int .i64 m, .int .i64 k, .slice A n c] 26)
      have Q := ((hR')).alloc (hB') (.cells #[.int .i64 m, .int .i64 k, .slice A n c] 26)
      have x := (Blk.new w #[.int .i64 m, .int .i64 k, .slice A n c] 26).at_ (q := w.heap.size) (by simp)
      have hsz : w.heap.size + 1 ≤ (w.alloc (.cells #[.int .i64 m, .int .i64 k, .slice A n c] 26)).heap.size := by simp
      clear hR hR'
      go_enter Try.func10, Try.ntmps10
      go_wp2_with fail
      obtain ⟨W0, hW0⟩ : ∃ v, (w.alloc (.cells #[.int .i64 m, .int .i64 k, .slice A n c] 26)) = v := ⟨_, rfl⟩
      rw [hW0] at HB hsz R Q x ⊢
      clear hW0
      have ex0 := x.cell 0
      have ex1 := x.cell 1
      have ex2 := x.cell 2
      have zx := x.lt
      go_wp2_with fail
      refine (hasRing_any m k A n c B xs _ R (Nat.le_trans hB (by omega))).mono ?_
      rintro e w1 ⟨rfl, hb⟩
      clear ex0 ex1 ex2 zx
      replace x := x.all hb
      replace R := R.all hb (Nat.le_trans (hB) (by omega))
      replace Q := Q.all hb (Nat.le_trans (hB') (by omega))
      replace HB := Lib.hid (HB.out.trans (hb.mono (by omega)))
      replace hsz := Nat.le_trans hsz hb.size
      clear hb
      rw [hg]
      have ex0 := x.cell 0
      have ex1 := x.cell 1
      have ex2 := x.cell 2
      have zx := x.lt
      go_wp2_with (go_at_call 27; (with_reducible refine (isPattern_any _ _ _ B' cs _ Q).mono ?_); rintro e w' ⟨rfl, rfl⟩)
      go_ret2
      exact ⟨rfl, HB.out⟩
    | true =>
      obtain ⟨p1, p8, _⟩ := patB_yes hpt
      have HR := Lib.hid (meet_rem (a := ringN m k) (b := cs.length))
      have hcs : ¬ cs = [] := fun e => by rw [e] at p1; simp at p1
      rw [show meetOk m k xs cs = true by simp [meetOk, hg, hpt], show meetV m k xs cs = decide (ringN m k % cs.length = 0) by simp [meetV, meetOk, hg, hpt]]
      have HB := Lib.hid ((Below.refl w.heap.size w).alloc (by first | (simp; done) | (simp; omega) | omega) (.cells #[.int .i64 m, .int .i64 k, .slice A n c] 26))
      have R := ((hR)).alloc (hB) (.cells #[.int .i64 m, .int .i64 k, .slice A n c] 26)
      have Q := ((hR')).alloc (hB') (.cells #[.int .i64 m, .int .i64 k, .slice A n c] 26)
      have x := (Blk.new w #[.int .i64 m, .int .i64 k, .slice A n c] 26).at_ (q := w.heap.size) (by simp)
      have hsz : w.heap.size + 1 ≤ (w.alloc (.cells #[.int .i64 m, .int .i64 k, .slice A n c] 26)).heap.size := by simp
      clear hR hR'
      go_enter Try.func10, Try.ntmps10
      go_wp2_with fail
      obtain ⟨W0, hW0⟩ : ∃ v, (w.alloc (.cells #[.int .i64 m, .int .i64 k, .slice A n c] 26)) = v := ⟨_, rfl⟩
      rw [hW0] at HB hsz R Q x ⊢
      clear hW0
      have ex0 := x.cell 0
      have ex1 := x.cell 1
      have ex2 := x.cell 2
      have zx := x.lt
      go_wp2_with fail
      refine (hasRing_any m k A n c B xs _ R (Nat.le_trans hB (by omega))).mono ?_
      rintro e w1 ⟨rfl, hb⟩
      clear ex0 ex1 ex2 zx
      replace x := x.all hb
      replace R := R.all hb (Nat.le_trans (hB) (by omega))
      replace Q := Q.all hb (Nat.le_trans (hB') (by omega))
      replace HB := Lib.hid (HB.out.trans (hb.mono (by omega)))
      replace hsz := Nat.le_trans hsz hb.size
      clear hb
      rw [hg]
      have ex0 := x.cell 0
      have ex1 := x.cell 1
      have ex2 := x.cell 2
      have zx := x.lt
      go_wp2_with (first | (go_at_call 27; (with_reducible refine (isPattern_any _ _ _ B' cs _ Q).mono ?_); rintro e w' ⟨rfl, rfl⟩) | (go_at_call 29; (with_reducible refine (meetsIn_any m k cs.length _ m2 m8 k2 k8 p1 p8).mono ?_); rintro e w' ⟨rfl, rfl⟩))
      go_ret2
      exact ⟨rfl, HB.out⟩
set_option maxRecDepth 100000 in
set_option maxHeartbeats 1000000 in
theorem specDoesMeet_any (W H : Int) (A : Option Addr) (n c B : Nat) (xs : List Int) (A' : Option Addr) (n' c' B' : Nat) (cs : List Int) (w : World) (hR : Rd w B A n c xs) (hR' : Rd w B' A' n' c' cs) (hB : B ≤ w.heap.size) (hB' : B' ≤ w.heap.size) :
    Calls Try.prog 14 #[chartV W H (.slice A n c), .slice A' n' c'] w (Out w (.tuple #[.bool (meetV W H xs cs), .bool (meetOk W H xs cs)])) := by
  obtain rfl := hR'.len
  have hcn := hR'.len_lt
  cases hg : hasRingB W H xs with
  | false =>
    rw [show meetV W H xs cs = false by simp [meetV, meetOk, hg], show meetOk W H xs cs = false by simp [meetOk, hg]]
    have HB := Lib.hid ((Below.refl w.heap.size w).alloc (by first | (simp; done) | (simp; omega) | omega) (.cells #[.int .i64 W, .int .i64 H, .slice A n c] 26))
    have R := ((hR)).alloc (hB) (.cells #[.int .i64 W, .int .i64 H, .slice A n c] 26)
    have Q := ((hR')).alloc (hB') (.cells #[.int .i64 W, .int .i64 H, .slice A n c] 26)
    have x := (Blk.new w #[.int .i64 W, .int .i64 H, .slice A n c] 26).at_ (q := w.heap.size) (by simp)
    have hsz : w.heap.size + 1 ≤ (w.alloc (.cells #[.int .i64 W, .int .i64 H, .slice A n c] 26)).heap.size := by simp
    clear hR hR'
    go_enter Try.func14, Try.ntmps14
    go_wp2_with fail
    obtain ⟨W0, hW0⟩ : ∃ v, (w.alloc (.cells #[.int .i64 W, .int .i64 H, .slice A n c] 26)) = v := ⟨_, rfl⟩
    rw [hW0] at HB hsz R Q x ⊢
    clear hW0
    have ex0 := x.cell 0
    have ex1 := x.cell 1
    have ex2 := x.cell 2
    have zx := x.lt
    go_wp2_with fail
    refine (l8Good_any W H A n c B xs _ R (Nat.le_trans hB (by omega))).mono ?_
    rintro e w1 ⟨rfl, hb⟩
    clear ex0 ex1 ex2 zx
    replace x := x.all hb
    replace R := R.all hb (Nat.le_trans (hB) (by omega))
    replace Q := Q.all hb (Nat.le_trans (hB') (by omega))
    replace HB := Lib.hid (HB.out.trans (hb.mono (by omega)))
    replace hsz := Nat.le_trans hsz hb.size
    clear hb
    rw [hg]
    go_wp2
    go_ret2
    exact ⟨rfl, HB.out⟩
  | true =>
    obtain ⟨m, k, rfl, rfl, m2, m8, k2, k8, hl, _, h64, hl1⟩ := hasRing_nat hg
    have hN := ringN_bd m2 m8 k2 k8
    cases hpt : patB cs with
    | false =>
      rw [show meetV m k xs cs = false by simp [meetV, meetOk, hpt], show meetOk m k xs cs = false by simp [meetOk, hpt]]
      have HB := Lib.hid ((Below.refl w.heap.size w).alloc (by first | (simp; done) | (simp; omega) | omega) (.cells #[.int .i64 m, .int .i64 k, .slice A n c] 26))
      have R := ((hR)).alloc (hB) (.cells #[.int .i64 m, .int .i64 k, .slice A n c] 26)
      have Q := ((hR')).alloc (hB') (.cells #[.int .i64 m, .int .i64 k, .slice A n c] 26)
      have x := (Blk.new w #[.int .i64 m, .int .i64 k, .slice A n c] 26).at_ (q := w.heap.size) (by simp)
      have hsz : w.heap.size + 1 ≤ (w.alloc (.cells #[.int .i64 m, .int .i64 k, .slice A n c] 26)).heap.size := by simp
      clear hR hR'
      go_enter Try.func14, Try.ntmps14
      go_wp2_with fail
      obtain ⟨W0, hW0⟩ : ∃ v, (w.alloc (.cells #[.int .i64 m, .int .i64 k, .slice A n c] 26)) = v := ⟨_, rfl⟩
      rw [hW0] at HB hsz R Q x ⊢
      clear hW0
      have ex0 := x.cell 0
      have ex1 := x.cell 1
      have ex2 := x.cell 2
      have zx := x.lt
      go_wp2_with fail
      refine (l8Good_any m k A n c B xs _ R (Nat.le_trans hB (by omega))).mono ?_
      rintro e w1 ⟨rfl, hb⟩
      clear ex0 ex1 ex2 zx
      replace x := x.all hb
      replace R := R.all hb (Nat.le_trans (hB) (by omega))
      replace Q := Q.all hb (Nat.le_trans (hB') (by omega))
      replace HB := Lib.hid (HB.out.trans (hb.mono (by omega)))
      replace hsz := Nat.le_trans hsz hb.size
      clear hb
      rw [hg]
      have ex0 := x.cell 0
      have ex1 := x.cell 1
      have ex2 := x.cell 2
      have zx := x.lt
      go_wp2_with (go_at_call 33; (with_reducible refine (l8Pattern_any _ _ _ B' cs _ Q).mono ?_); rintro e w' ⟨rfl, rfl⟩)
      go_ret2
      exact ⟨rfl, HB.out⟩
    | true =>
      obtain ⟨p1, p8, _⟩ := patB_yes hpt
      have HR := Lib.hid (meet_rem (a := ringN m k) (b := cs.length))
      have hcs : ¬ cs = [] := fun e => by rw [e] at p1; simp at p1
      rw [show meetOk m k xs cs = true by simp [meetOk, hg, hpt], show meetV m k xs cs = decide (ringN m k % cs.length = 0) by simp [meetV, meetOk, hg, hpt]]
      rw [← HR.out]
      have HB := Lib.hid ((Below.refl w.heap.size w).alloc (by first | (simp; done) | (simp; omega) | omega) (.cells #[.int .i64 m, .int .i64 k, .slice A n c] 26))
      have R := ((hR)).alloc (hB) (.cells #[.int .i64 m, .int .i64 k, .slice A n c] 26)
      have Q := ((hR')).alloc (hB') (.cells #[.int .i64 m, .int .i64 k, .slice A n c] 26)
      have x := (Blk.new w #[.int .i64 m, .int .i64 k, .slice A n c] 26).at_ (q := w.heap.size) (by simp)
      have hsz : w.heap.size + 1 ≤ (w.alloc (.cells #[.int .i64 m, .int .i64 k, .slice A n c] 26)).heap.size := by simp
      clear hR hR'
      go_enter Try.func14, Try.ntmps14
      go_wp2_with fail
      obtain ⟨W0, hW0⟩ : ∃ v, (w.alloc (.cells #[.int .i64 m, .int .i64 k, .slice A n c] 26)) = v := ⟨_, rfl⟩
      rw [hW0] at HB hsz R Q x ⊢
      clear hW0
      have ex0 := x.cell 0
      have ex1 := x.cell 1
      have ex2 := x.cell 2
      have zx := x.lt
      go_wp2_with fail
      refine (l8Good_any m k A n c B xs _ R (Nat.le_trans hB (by omega))).mono ?_
      rintro e w1 ⟨rfl, hb⟩
      clear ex0 ex1 ex2 zx
      replace x := x.all hb
      replace R := R.all hb (Nat.le_trans (hB) (by omega))
      replace Q := Q.all hb (Nat.le_trans (hB') (by omega))
      replace HB := Lib.hid (HB.out.trans (hb.mono (by omega)))
      replace hsz := Nat.le_trans hsz hb.size
      clear hb
      rw [hg]
      have ex0 := x.cell 0
      have ex1 := x.cell 1
      have ex2 := x.cell 2
      have zx := x.lt
      go_wp2_with (first | (go_at_call 33; (with_reducible refine (l8Pattern_any _ _ _ B' cs _ Q).mono ?_); rintro e w' ⟨rfl, rfl⟩) | (go_at_call 35; (with_reducible refine (l8Length_any m k _ m2 m8 k2 k8).mono ?_); rintro e w' ⟨rfl, rfl⟩))
      go_ret2
      exact ⟨rfl, HB.out⟩
end Go.Proofs.Ytjfdcmdgpeeabaa
