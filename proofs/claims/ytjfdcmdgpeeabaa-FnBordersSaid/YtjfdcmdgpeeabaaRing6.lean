/- The walks of StripBorder and CornersOf, the program's and the model's. No condition. -/
import Derived.Test.YtjfdcmdgpeeabaaRing5
import Derived.Test.YtjfdcmdgpeeabaaPart2
import Derived.Deep.CutRange
namespace Go.Proofs.Ytjfdcmdgpeeabaa
open Go.RowKit

def stripOk (W H : Int) (xs : List Int) : Bool := goodB W H xs && decide (3 ≤ W ∧ 3 ≤ H)
def stripX (W H : Int) (xs : List Int) : List Int := if stripOk W H xs = true then partL W.toNat xs 1 1 (H.toNat - 2) (W.toNat - 2) else []
theorem strip_nat {W H : Int} {xs : List Int} (h : stripOk W H xs = true) : ∃ m k : Nat, W = m ∧ H = k ∧ 3 ≤ m ∧ m ≤ 8 ∧ 3 ≤ k ∧ k ≤ 8 ∧ Hid (xs.length = m * k) ∧ goodB m k xs = true ∧ xs.length ≤ 64 ∧ 1 ≤ xs.length := by
  simp only [stripOk, Bool.and_eq_true, decide_eq_true_eq] at h
  obtain ⟨hg, hW, hH⟩ := h
  obtain ⟨m, k, rfl, rfl, _, _, _, _, hl, h64, hl1, _⟩ := good_nat hg
  exact ⟨m, k, rfl, rfl, by omega, by omega, by omega, by omega, hl, hg, h64, hl1⟩
theorem stripX_len (W H : Int) (xs : List Int) : (stripX W H xs).length ≤ 1048576 := by
  unfold stripX
  split
  · rename_i h
    obtain ⟨m, k, rfl, rfl, _, _, _, _, _⟩ := strip_nat h
    rw [partL_len]
    simp only [Int.toNat_natCast]
    have : (k - 2) * (m - 2) ≤ 8 * 8 := Nat.mul_le_mul (by omega) (by omega)
    omega
  · simp
theorem strip_part {m k : Nat} {xs : List Int} (hg : goodB m k xs = true) : partOk m k xs 1 1 ((k : Int) - 2) ((m : Int) - 2) = stripOk m k xs := by
  unfold partOk stripOk withinB
  rw [hg]
  simp only [Bool.true_and, decide_eq_decide]
  omega
theorem part_bad {W H : Int} {xs : List Int} {a b c d : Int} (hg : goodB W H xs = false) : partOk W H xs a b c d = false := by unfold partOk; rw [hg]; rfl
theorem partX_yes {m k : Nat} {xs : List Int} (h : stripOk m k xs = true) (m3 : 3 ≤ m) (k3 : 3 ≤ k) : partX m k xs 1 1 ((k : Int) - 2) ((m : Int) - 2) = partL m xs 1 1 (k - 2) (m - 2) := by
  have hg : goodB m k xs = true := by simp [stripOk] at h; exact h.1
  rw [partX, strip_part hg, if_pos h]
  congr 1
  · omega
  · omega
theorem l2Part_11 (m kk b off cc B h k : Nat) (xs : List Int) (w : World) (hR : Rd w B (some ⟨b, off, none⟩) xs.length cc xs) (hB : B ≤ w.heap.size) (m8 : m ≤ 8) (kk8 : kk ≤ 8) (hl : Hid (xs.length = m * kk)) (h64 : m * kk ≤ 64)
    (hrh : 1 + h ≤ kk) (hck : 1 + k ≤ m) :
    Calls Try.prog 52 #[chartV m kk (.slice (some ⟨b, off, none⟩) xs.length cc), .int .i64 1, .int .i64 1, .int .i64 h, .int .i64 k] w (OwnChart w k h (partL m xs 1 1 h k)) :=
  l2Part_any m kk b off cc B 1 1 h k xs w hR hB m8 kk8 hl h64 hrh hck
theorem i64_one : I64 1 := ⟨by omega, by omega⟩
set_option maxRecDepth 100000 in
set_option maxHeartbeats 2000000 in
theorem implStripBorder_any (W H : Int) (A : Option Addr) (n c B : Nat) (xs : List Int) (w : World) (hR : Rd w B A n c xs) (hB : B ≤ w.heap.size) :
    Calls Try.prog 9 #[chartV W H (.slice A n c)] w (OutChart w (orZero (stripOk W H xs) (W - 2)) (orZero (stripOk W H xs) (H - 2)) (stripX W H xs) (stripOk W H xs)) := by
  cases hp : stripOk W H xs with
  | true =>
    rw [stripX, if_pos hp]
    obtain ⟨m, k, rfl, rfl, m3, m8, k3, k8, hl, hg, h64, hl1⟩ := strip_nat hp
    simp only [Int.toNat_natCast]
    have hw1 : IntKind.i64.wrap ((k : Int) - 2) = (k : Int) - 2 := IntWalk.i64_in _ (by omega)
    have hw2 : IntKind.i64.wrap ((m : Int) - 2) = (m : Int) - 2 := IntWalk.i64_in _ (by omega)
    have HC := Lib.hid (implPartOf_any m k A n c B xs 1 1 ((k : Int) - 2) ((m : Int) - 2))
    rw [strip_part hg, hp, partX_yes hp m3 k3, show orZero true ((m : Int) - 2) = (m : Int) - 2 from rfl, show orZero true ((k : Int) - 2) = (k : Int) - 2 from rfl] at HC
    have HB := Lib.hid (((Below.refl w.heap.size w).alloc (by first | (simp; done) | (simp; omega) | omega) (.cells #[.int .i64 m, .int .i64 k, .slice A n c] 26)).alloc (by first | (simp; done) | (simp; omega) | omega) (.cells #[.int .i64 0, .int .i64 0, .slice none 0 0] 26))
    have R := (((hR)).alloc (hB) (.cells #[.int .i64 m, .int .i64 k, .slice A n c] 26)).alloc ((by first | (simp; done) | (simp; omega) | omega)) (.cells #[.int .i64 0, .int .i64 0, .slice none 0 0] 26)
    have x := ((Blk.new w #[.int .i64 m, .int .i64 k, .slice A n c] 26).alloc (.cells #[.int .i64 0, .int .i64 0, .slice none 0 0] 26)).at_ (q := w.heap.size) (by simp)
    have r := (Blk.new (w.alloc (.cells #[.int .i64 m, .int .i64 k, .slice A n c] 26)) #[.int .i64 0, .int .i64 0, .slice none 0 0] 26).at_ (q := w.heap.size + 1) (by simp)
    have hsz : w.heap.size + 2 ≤ ((w.alloc (.cells #[.int .i64 m, .int .i64 k, .slice A n c] 26)).alloc (.cells #[.int .i64 0, .int .i64 0, .slice none 0 0] 26)).heap.size := by simp
    clear hR
    go_enter Try.func9, Try.ntmps9
    go_wp2_with fail
    obtain ⟨W0, hW0⟩ : ∃ v, ((w.alloc (.cells #[.int .i64 m, .int .i64 k, .slice A n c] 26)).alloc (.cells #[.int .i64 0, .int .i64 0, .slice none 0 0] 26)) = v := ⟨_, rfl⟩
    rw [hW0] at HB hsz R x r ⊢
    clear hW0
    have ex0 := x.cell 0
    have ex1 := x.cell 1
    have ex2 := x.cell 2
    have zx := x.lt
    have er0 := r.cell 0
    have er1 := r.cell 1
    have er2 := r.cell 2
    have zr := r.lt
    go_wp2_with fail
    refine (HC.out _ R (Nat.le_trans hB (by omega)) i64_one i64_one).mono ?_
    rintro e w1 ⟨A2, c2, rfl, own, hb⟩
    clear ex0 ex1 ex2 zx er0 er1 er2 zr
    replace x := x.all hb
    replace r := r.all hb
    replace R := R.all hb (Nat.le_trans (hB) (by omega))
    have O := own.mono (show w.heap.size ≤ _ by omega)
    clear own
    replace HB := Lib.hid (HB.out.trans (hb.mono (by omega)))
    replace hsz := Nat.le_trans hsz hb.size
    clear hb
    have ex0 := x.cell 0
    have ex1 := x.cell 1
    have ex2 := x.cell 2
    have zx := x.lt
    have er0 := r.cell 0
    have er1 := r.cell 1
    have er2 := r.cell 2
    have fr0 := r.frozen 0
    have fr1 := r.frozen 1
    have fr2 := r.frozen 2
    have zr := r.lt
    have F := fin3 (p := w.heap.size + 1) (a := .int .i64 ((m : Int) - 2)) (b := .int .i64 ((k : Int) - 2)) (c := .slice A2 (partL m xs 1 1 (k - 2) (m - 2)).length c2) O (row_ne' O.1 r (by decide)) HB.out (by omega)
    go_wp2_with fail
    exact bodyPost_ret (v := .tuple #[.agg #[.int .i64 ((m : Int) - 2), .int .i64 ((k : Int) - 2), .slice A2 (partL m xs 1 1 (k - 2) (m - 2)).length c2], .bool true]) (by simp [results, Try.results9, go_sem, er0, er1, er2]) rfl ⟨_, c2, rfl, F.1, F.2⟩
  | false =>
    rw [stripX, if_neg (by rw [hp]; decide)]
    cases hg : goodB W H xs with
    | true =>
      obtain ⟨m, k, rfl, rfl, m1, m8, k1, k8, hl, h64, hl1, _⟩ := good_nat hg
      have hw1 : IntKind.i64.wrap ((k : Int) - 2) = (k : Int) - 2 := IntWalk.i64_in _ (by omega)
      have hw2 : IntKind.i64.wrap ((m : Int) - 2) = (m : Int) - 2 := IntWalk.i64_in _ (by omega)
      have HC := Lib.hid (implPartOf_any m k A n c B xs 1 1 ((k : Int) - 2) ((m : Int) - 2))
      rw [partX, strip_part hg, hp, show orZero false ((m : Int) - 2) = 0 from rfl, show orZero false ((k : Int) - 2) = 0 from rfl] at HC
      have HB := Lib.hid (((Below.refl w.heap.size w).alloc (by first | (simp; done) | (simp; omega) | omega) (.cells #[.int .i64 m, .int .i64 k, .slice A n c] 26)).alloc (by first | (simp; done) | (simp; omega) | omega) (.cells #[.int .i64 0, .int .i64 0, .slice none 0 0] 26))
      have R := (((hR)).alloc (hB) (.cells #[.int .i64 m, .int .i64 k, .slice A n c] 26)).alloc ((by first | (simp; done) | (simp; omega) | omega)) (.cells #[.int .i64 0, .int .i64 0, .slice none 0 0] 26)
      have x := ((Blk.new w #[.int .i64 m, .int .i64 k, .slice A n c] 26).alloc (.cells #[.int .i64 0, .int .i64 0, .slice none 0 0] 26)).at_ (q := w.heap.size) (by simp)
      have r := (Blk.new (w.alloc (.cells #[.int .i64 m, .int .i64 k, .slice A n c] 26)) #[.int .i64 0, .int .i64 0, .slice none 0 0] 26).at_ (q := w.heap.size + 1) (by simp)
      have hsz : w.heap.size + 2 ≤ ((w.alloc (.cells #[.int .i64 m, .int .i64 k, .slice A n c] 26)).alloc (.cells #[.int .i64 0, .int .i64 0, .slice none 0 0] 26)).heap.size := by simp
      clear hR
      go_enter Try.func9, Try.ntmps9
      go_wp2_with fail
      obtain ⟨W0, hW0⟩ : ∃ v, ((w.alloc (.cells #[.int .i64 m, .int .i64 k, .slice A n c] 26)).alloc (.cells #[.int .i64 0, .int .i64 0, .slice none 0 0] 26)) = v := ⟨_, rfl⟩
      rw [hW0] at HB hsz R x r ⊢
      clear hW0
      have ex0 := x.cell 0
      have ex1 := x.cell 1
      have ex2 := x.cell 2
      have zx := x.lt
      have er0 := r.cell 0
      have er1 := r.cell 1
      have er2 := r.cell 2
      have zr := r.lt
      go_wp2_with fail
      refine (HC.out _ R (Nat.le_trans hB (by omega)) i64_one i64_one).mono ?_
      rintro e w1 ⟨A2, c2, rfl, own, hb⟩
      clear ex0 ex1 ex2 zx er0 er1 er2 zr
      replace x := x.all hb
      replace r := r.all hb
      replace R := R.all hb (Nat.le_trans (hB) (by omega))
      have O := own.mono (show w.heap.size ≤ _ by omega)
      clear own
      replace HB := Lib.hid (HB.out.trans (hb.mono (by omega)))
      replace hsz := Nat.le_trans hsz hb.size
      clear hb
      have O2 : Own w1 w.heap.size (.slice A2 0 c2) [] := O
      clear O
      have ex0 := x.cell 0
      have ex1 := x.cell 1
      have ex2 := x.cell 2
      have zx := x.lt
      have er0 := r.cell 0
      have er1 := r.cell 1
      have er2 := r.cell 2
      have fr0 := r.frozen 0
      have fr1 := r.frozen 1
      have fr2 := r.frozen 2
      have zr := r.lt
      have F := fin3 (p := w.heap.size + 1) (a := .int .i64 0) (b := .int .i64 0) (c := .slice A2 0 c2) O2 (row_ne' O2.1 r (by decide)) HB.out (by omega)
      go_wp2_with fail
      exact bodyPost_ret (v := .tuple #[.agg #[.int .i64 0, .int .i64 0, .slice A2 0 c2], .bool false]) (by simp [results, Try.results9, go_sem, er0, er1, er2]) rfl ⟨A2, c2, rfl, F.1, F.2⟩
    | false =>
      obtain ⟨h1, hw1⟩ : ∃ x, IntKind.i64.wrap (H - 2) = x := ⟨_, rfl⟩
      obtain ⟨h2, hw2⟩ : ∃ x, IntKind.i64.wrap (W - 2) = x := ⟨_, rfl⟩
      have HC := Lib.hid (implPartOf_any W H A n c B xs 1 1 h1 h2)
      rw [partX, part_bad hg, show orZero false h2 = 0 from rfl, show orZero false h1 = 0 from rfl] at HC
      have HB := Lib.hid (((Below.refl w.heap.size w).alloc (by first | (simp; done) | (simp; omega) | omega) (.cells #[.int .i64 W, .int .i64 H, .slice A n c] 26)).alloc (by first | (simp; done) | (simp; omega) | omega) (.cells #[.int .i64 0, .int .i64 0, .slice none 0 0] 26))
      have R := (((hR)).alloc (hB) (.cells #[.int .i64 W, .int .i64 H, .slice A n c] 26)).alloc ((by first | (simp; done) | (simp; omega) | omega)) (.cells #[.int .i64 0, .int .i64 0, .slice none 0 0] 26)
      have x := ((Blk.new w #[.int .i64 W, .int .i64 H, .slice A n c] 26).alloc (.cells #[.int .i64 0, .int .i64 0, .slice none 0 0] 26)).at_ (q := w.heap.size) (by simp)
      have r := (Blk.new (w.alloc (.cells #[.int .i64 W, .int .i64 H, .slice A n c] 26)) #[.int .i64 0, .int .i64 0, .slice none 0 0] 26).at_ (q := w.heap.size + 1) (by simp)
      have hsz : w.heap.size + 2 ≤ ((w.alloc (.cells #[.int .i64 W, .int .i64 H, .slice A n c] 26)).alloc (.cells #[.int .i64 0, .int .i64 0, .slice none 0 0] 26)).heap.size := by simp
      clear hR
      go_enter Try.func9, Try.ntmps9
      go_wp2_with fail
      obtain ⟨W0, hW0⟩ : ∃ v, ((w.alloc (.cells #[.int .i64 W, .int .i64 H, .slice A n c] 26)).alloc (.cells #[.int .i64 0, .int .i64 0, .slice none 0 0] 26)) = v := ⟨_, rfl⟩
      rw [hW0] at HB hsz R x r ⊢
      clear hW0
      have ex0 := x.cell 0
      have ex1 := x.cell 1
      have ex2 := x.cell 2
      have zx := x.lt
      have er0 := r.cell 0
      have er1 := r.cell 1
      have er2 := r.cell 2
      have zr := r.lt
      go_wp2_with fail
      refine (HC.out _ R (Nat.le_trans hB (by omega)) i64_one i64_one).mono ?_
      rintro e w1 ⟨A2, c2, rfl, own, hb⟩
      clear ex0 ex1 ex2 zx er0 er1 er2 zr
      replace x := x.all hb
      replace r := r.all hb
      replace R := R.all hb (Nat.le_trans (hB) (by omega))
      have O := own.mono (show w.heap.size ≤ _ by omega)
      clear own
      replace HB := Lib.hid (HB.out.trans (hb.mono (by omega)))
      replace hsz := Nat.le_trans hsz hb.size
      clear hb
      have O2 : Own w1 w.heap.size (.slice A2 0 c2) [] := O
      clear O
      have ex0 := x.cell 0
      have ex1 := x.cell 1
      have ex2 := x.cell 2
      have zx := x.lt
      have er0 := r.cell 0
      have er1 := r.cell 1
      have er2 := r.cell 2
      have fr0 := r.frozen 0
      have fr1 := r.frozen 1
      have fr2 := r.frozen 2
      have zr := r.lt
      have F := fin3 (p := w.heap.size + 1) (a := .int .i64 0) (b := .int .i64 0) (c := .slice A2 0 c2) O2 (row_ne' O2.1 r (by decide)) HB.out (by omega)
      go_wp2_with fail
      exact bodyPost_ret (v := .tuple #[.agg #[.int .i64 0, .int .i64 0, .slice A2 0 c2], .bool false]) (by simp [results, Try.results9, go_sem, er0, er1, er2]) rfl ⟨A2, c2, rfl, F.1, F.2⟩
set_option maxRecDepth 100000 in
set_option maxHeartbeats 2000000 in
theorem specStripBorder_any (W H : Int) (A : Option Addr) (n c B : Nat) (xs : List Int) (w : World) (hR : Rd w B A n c xs) (hB : B ≤ w.heap.size) :
    Calls Try.prog 17 #[chartV W H (.slice A n c)] w (OutChart w (orZero (stripOk W H xs) (W - 2)) (orZero (stripOk W H xs) (H - 2)) (stripX W H xs) (stripOk W H xs)) := by
  cases hp : stripOk W H xs with
  | true =>
    rw [stripX, if_pos hp]
    obtain ⟨m, k, rfl, rfl, m3, m8, k3, k8, hl, hg, h64, hl1⟩ := strip_nat hp
    simp only [Int.toNat_natCast]
    obtain rfl := hR.len
    obtain ⟨b, off, rfl, _, _⟩ := hR.cells (by omega)
    obtain ⟨M, hM⟩ : ∃ M : Nat, M = m - 2 := ⟨_, rfl⟩
    obtain ⟨K, hK⟩ : ∃ M : Nat, M = k - 2 := ⟨_, rfl⟩
    have hw1 : IntKind.i64.wrap ((k : Int) - 2) = (K : Int) := by rw [show (k : Int) - 2 = (K : Int) by omega]; exact IntWalk.i64_in _ (by omega)
    have hw2 : IntKind.i64.wrap ((m : Int) - 2) = (M : Int) := by rw [show (m : Int) - 2 = (M : Int) by omega]; exact IntWalk.i64_in _ (by omega)
    have hd1 : ¬ (m : Int) < 3 := by omega
    have hd2 : ¬ (k : Int) < 3 := by omega
    have hmM : 1 + M ≤ m := by omega
    have hkK : 1 + K ≤ k := by omega
    rw [show orZero true ((m : Int) - 2) = (M : Int) by simp only [orZero, if_true]; omega, show orZero true ((k : Int) - 2) = (K : Int) by simp only [orZero, if_true]; omega, ← hM, ← hK]
    clear hM hK
    have HC := Lib.hid (l2Part_11 m k b off c B K M xs)
    have HB := Lib.hid (((Below.refl w.heap.size w).alloc (by first | (simp; done) | (simp; omega) | omega) (.cells #[.int .i64 m, .int .i64 k, .slice (some ⟨b, off, none⟩) xs.length c] 26)).alloc (by first | (simp; done) | (simp; omega) | omega) (.cells #[.int .i64 0, .int .i64 0, .slice none 0 0] 26))
    have R := (((hR)).alloc (hB) (.cells #[.int .i64 m, .int .i64 k, .slice (some ⟨b, off, none⟩) xs.length c] 26)).alloc ((by first | (simp; done) | (simp; omega) | omega)) (.cells #[.int .i64 0, .int .i64 0, .slice none 0 0] 26)
    have x := ((Blk.new w #[.int .i64 m, .int .i64 k, .slice (some ⟨b, off, none⟩) xs.length c] 26).alloc (.cells #[.int .i64 0, .int .i64 0, .slice none 0 0] 26)).at_ (q := w.heap.size) (by simp)
    have r := (Blk.new (w.alloc (.cells #[.int .i64 m, .int .i64 k, .slice (some ⟨b, off, none⟩) xs.length c] 26)) #[.int .i64 0, .int .i64 0, .slice none 0 0] 26).at_ (q := w.heap.size + 1) (by simp)
    have hsz : w.heap.size + 2 ≤ ((w.alloc (.cells #[.int .i64 m, .int .i64 k, .slice (some ⟨b, off, none⟩) xs.length c] 26)).alloc (.cells #[.int .i64 0, .int .i64 0, .slice none 0 0] 26)).heap.size := by simp
    clear hR
    go_enter Try.func17, Try.ntmps17
    go_wp2_with fail
    obtain ⟨W0, hW0⟩ : ∃ v, ((w.alloc (.cells #[.int .i64 m, .int .i64 k, .slice (some ⟨b, off, none⟩) xs.length c] 26)).alloc (.cells #[.int .i64 0, .int .i64 0, .slice none 0 0] 26)) = v := ⟨_, rfl⟩
    rw [hW0] at HB hsz R x r ⊢
    clear hW0
    have ex0 := x.cell 0
    have ex1 := x.cell 1
    have ex2 := x.cell 2
    have zx := x.lt
    have er0 := r.cell 0
    have er1 := r.cell 1
    have er2 := r.cell 2
    have zr := r.lt
    go_wp2_with fail
    refine (l2Good_any m k _ _ c B xs _ R (Nat.le_trans hB (by omega))).mono ?_
    rintro e w1 ⟨rfl, hb⟩
    clear ex0 ex1 ex2 zx er0 er1 er2 zr
    replace x := x.all hb
    replace r := r.all hb
    replace R := R.all hb (Nat.le_trans (hB) (by omega))
    replace HB := Lib.hid (HB.out.trans (hb.mono (by omega)))
    replace hsz := Nat.le_trans hsz hb.size
    clear hb
    rw [hg]
    have ex0 := x.cell 0
    have ex1 := x.cell 1
    have ex2 := x.cell 2
    have zx := x.lt
    have er0 := r.cell 0
    have er1 := r.cell 1
    have er2 := r.cell 2
    have zr := r.lt
    go_wp2_with fail
    refine (HC.out _ R (Nat.le_trans hB (by omega)) m8 k8 hl (Nat.mul_le_mul m8 k8) hkK hmM).mono ?_
    rintro e w2 ⟨A2, c2, rfl, own, hb⟩
    clear ex0 ex1 ex2 zx er0 er1 er2 zr
    replace x := x.all hb
    replace r := r.all hb
    replace R := R.all hb (Nat.le_trans (hB) (by omega))
    have O := own.mono (show w.heap.size ≤ _ by omega)
    clear own
    replace HB := Lib.hid (HB.out.trans (hb.mono (by omega)))
    replace hsz := Nat.le_trans hsz hb.size
    clear hb
    have ex0 := x.cell 0
    have ex1 := x.cell 1
    have ex2 := x.cell 2
    have zx := x.lt
    have er0 := r.cell 0
    have er1 := r.cell 1
    have er2 := r.cell 2
    have fr0 := r.frozen 0
    have fr1 := r.frozen 1
    have fr2 := r.frozen 2
    have zr := r.lt
    have F := fin3 (p := w.heap.size + 1) (a := .int .i64 (M : Int)) (b := .int .i64 (K : Int)) (c := .slice A2 (partL m xs 1 1 K M).length c2) O (row_ne' O.1 r (by decide)) HB.out (by omega)
    go_wp2_with fail
    exact bodyPost_ret (v := .tuple #[.agg #[.int .i64 (M : Int), .int .i64 (K : Int), .slice A2 (partL m xs 1 1 K M).length c2], .bool true]) (by simp [results, Try.results17, go_sem, er0, er1, er2]) rfl ⟨_, c2, rfl, F.1, F.2⟩
  | false =>
    rw [stripX, if_neg (by rw [hp]; decide)]
    cases hg : goodB W H xs with
    | false =>
      have HB := Lib.hid (((Below.refl w.heap.size w).alloc (by first | (simp; done) | (simp; omega) | omega) (.cells #[.int .i64 W, .int .i64 H, .slice A n c] 26)).alloc (by first | (simp; done) | (simp; omega) | omega) (.cells #[.int .i64 0, .int .i64 0, .slice none 0 0] 26))
      have R := (((hR)).alloc (hB) (.cells #[.int .i64 W, .int .i64 H, .slice A n c] 26)).alloc ((by first | (simp; done) | (simp; omega) | omega)) (.cells #[.int .i64 0, .int .i64 0, .slice none 0 0] 26)
      have x := ((Blk.new w #[.int .i64 W, .int .i64 H, .slice A n c] 26).alloc (.cells #[.int .i64 0, .int .i64 0, .slice none 0 0] 26)).at_ (q := w.heap.size) (by simp)
      have r := (Blk.new (w.alloc (.cells #[.int .i64 W, .int .i64 H, .slice A n c] 26)) #[.int .i64 0, .int .i64 0, .slice none 0 0] 26).at_ (q := w.heap.size + 1) (by simp)
      have hsz : w.heap.size + 2 ≤ ((w.alloc (.cells #[.int .i64 W, .int .i64 H, .slice A n c] 26)).alloc (.cells #[.int .i64 0, .int .i64 0, .slice none 0 0] 26)).heap.size := by simp
      clear hR
      go_enter Try.func17, Try.ntmps17
      go_wp2_with fail
      obtain ⟨W0, hW0⟩ : ∃ v, ((w.alloc (.cells #[.int .i64 W, .int .i64 H, .slice A n c] 26)).alloc (.cells #[.int .i64 0, .int .i64 0, .slice none 0 0] 26)) = v := ⟨_, rfl⟩
      rw [hW0] at HB hsz R x r ⊢
      clear hW0
      have ex0 := x.cell 0
      have ex1 := x.cell 1
      have ex2 := x.cell 2
      have zx := x.lt
      have er0 := r.cell 0
      have er1 := r.cell 1
      have er2 := r.cell 2
      have zr := r.lt
      go_wp2_with fail
      refine (l2Good_any W H A n c B xs _ R (Nat.le_trans hB (by omega))).mono ?_
      rintro e w1 ⟨rfl, hb⟩
      clear ex0 ex1 ex2 zx er0 er1 er2 zr
      replace x := x.all hb
      replace r := r.all hb
      replace R := R.all hb (Nat.le_trans (hB) (by omega))
      replace HB := Lib.hid (HB.out.trans (hb.mono (by omega)))
      replace hsz := Nat.le_trans hsz hb.size
      clear hb
      rw [hg]
      have ex0 := x.cell 0
      have ex1 := x.cell 1
      have ex2 := x.cell 2
      have zx := x.lt
      have er0 := r.cell 0
      have er1 := r.cell 1
      have er2 := r.cell 2
      have fr0 := r.frozen 0
      have fr1 := r.frozen 1
      have fr2 := r.frozen 2
      have zr := r.lt
      have F := fin3 (p := w.heap.size + 1) (a := .int .i64 0) (b := .int .i64 0) (c := .slice none 0 0) (Own.nil w1 w.heap.size) (by simp [Value.ownBlock]) HB.out (by omega)
      go_wp2_with fail
      exact bodyPost_ret (v := .tuple #[.agg #[.int .i64 0, .int .i64 0, .slice none 0 0], .bool false]) (by simp [results, Try.results17, go_sem, er0, er1, er2]) rfl ⟨none, 0, rfl, F.1, F.2⟩
    | true =>
      have hlt : W < 3 ∨ (3 ≤ W ∧ H < 3) := by
        simp only [stripOk, hg, Bool.true_and, decide_eq_false_iff_not] at hp
        omega
      rcases hlt with h1 | ⟨h1, h2⟩
      · clear hp
        have HB := Lib.hid (((Below.refl w.heap.size w).alloc (by first | (simp; done) | (simp; omega) | omega) (.cells #[.int .i64 W, .int .i64 H, .slice A n c] 26)).alloc (by first | (simp; done) | (simp; omega) | omega) (.cells #[.int .i64 0, .int .i64 0, .slice none 0 0] 26))
        have R := (((hR)).alloc (hB) (.cells #[.int .i64 W, .int .i64 H, .slice A n c] 26)).alloc ((by first | (simp; done) | (simp; omega) | omega)) (.cells #[.int .i64 0, .int .i64 0, .slice none 0 0] 26)
        have x := ((Blk.new w #[.int .i64 W, .int .i64 H, .slice A n c] 26).alloc (.cells #[.int .i64 0, .int .i64 0, .slice none 0 0] 26)).at_ (q := w.heap.size) (by simp)
        have r := (Blk.new (w.alloc (.cells #[.int .i64 W, .int .i64 H, .slice A n c] 26)) #[.int .i64 0, .int .i64 0, .slice none 0 0] 26).at_ (q := w.heap.size + 1) (by simp)
        have hsz : w.heap.size + 2 ≤ ((w.alloc (.cells #[.int .i64 W, .int .i64 H, .slice A n c] 26)).alloc (.cells #[.int .i64 0, .int .i64 0, .slice none 0 0] 26)).heap.size := by simp
        clear hR
        go_enter Try.func17, Try.ntmps17
        go_wp2_with fail
        obtain ⟨W0, hW0⟩ : ∃ v, ((w.alloc (.cells #[.int .i64 W, .int .i64 H, .slice A n c] 26)).alloc (.cells #[.int .i64 0, .int .i64 0, .slice none 0 0] 26)) = v := ⟨_, rfl⟩
        rw [hW0] at HB hsz R x r ⊢
        clear hW0
        have ex0 := x.cell 0
        have ex1 := x.cell 1
        have ex2 := x.cell 2
        have zx := x.lt
        have er0 := r.cell 0
        have er1 := r.cell 1
        have er2 := r.cell 2
        have zr := r.lt
        go_wp2_with fail
        refine (l2Good_any W H A n c B xs _ R (Nat.le_trans hB (by omega))).mono ?_
        rintro e w1 ⟨rfl, hb⟩
        clear ex0 ex1 ex2 zx er0 er1 er2 zr
        replace x := x.all hb
        replace r := r.all hb
        replace R := R.all hb (Nat.le_trans (hB) (by omega))
        replace HB := Lib.hid (HB.out.trans (hb.mono (by omega)))
        replace hsz := Nat.le_trans hsz hb.size
        clear hb
        rw [hg]
        have ex0 := x.cell 0
        have ex1 := x.cell 1
        have ex2 := x.cell 2
        have zx := x.lt
        have er0 := r.cell 0
        have er1 := r.cell 1
        have er2 := r.cell 2
        have fr0 := r.frozen 0
        have fr1 := r.frozen 1
        have fr2 := r.frozen 2
        have zr := r.lt
        have F := fin3 (p := w.heap.size + 1) (a := .int .i64 0) (b := .int .i64 0) (c := .slice none 0 0) (Own.nil w1 w.heap.size) (by simp [Value.ownBlock]) HB.out (by omega)
        go_wp2_with fail
        exact bodyPost_ret (v := .tuple #[.agg #[.int .i64 0, .int .i64 0, .slice none 0 0], .bool false]) (by simp [results, Try.results17, go_sem, er0, er1, er2]) rfl ⟨none, 0, rfl, F.1, F.2⟩
      · clear hp
        have HB := Lib.hid (((Below.refl w.heap.size w).alloc (by first | (simp; done) | (simp; omega) | omega) (.cells #[.int .i64 W, .int .i64 H, .slice A n c] 26)).alloc (by first | (simp; done) | (simp; omega) | omega) (.cells #[.int .i64 0, .int .i64 0, .slice none 0 0] 26))
        have R := (((hR)).alloc (hB) (.cells #[.int .i64 W, .int .i64 H, .slice A n c] 26)).alloc ((by first | (simp; done) | (simp; omega) | omega)) (.cells #[.int .i64 0, .int .i64 0, .slice none 0 0] 26)
        have x := ((Blk.new w #[.int .i64 W, .int .i64 H, .slice A n c] 26).alloc (.cells #[.int .i64 0, .int .i64 0, .slice none 0 0] 26)).at_ (q := w.heap.size) (by simp)
        have r := (Blk.new (w.alloc (.cells #[.int .i64 W, .int .i64 H, .slice A n c] 26)) #[.int .i64 0, .int .i64 0, .slice none 0 0] 26).at_ (q := w.heap.size + 1) (by simp)
        have hsz : w.heap.size + 2 ≤ ((w.alloc (.cells #[.int .i64 W, .int .i64 H, .slice A n c] 26)).alloc (.cells #[.int .i64 0, .int .i64 0, .slice none 0 0] 26)).heap.size := by simp
        clear hR
        go_enter Try.func17, Try.ntmps17
        go_wp2_with fail
        obtain ⟨W0, hW0⟩ : ∃ v, ((w.alloc (.cells #[.int .i64 W, .int .i64 H, .slice A n c] 26)).alloc (.cells #[.int .i64 0, .int .i64 0, .slice none 0 0] 26)) = v := ⟨_, rfl⟩
        rw [hW0] at HB hsz R x r ⊢
        clear hW0
        have ex0 := x.cell 0
        have ex1 := x.cell 1
        have ex2 := x.cell 2
        have zx := x.lt
        have er0 := r.cell 0
        have er1 := r.cell 1
        have er2 := r.cell 2
        have zr := r.lt
        go_wp2_with fail
        refine (l2Good_any W H A n c B xs _ R (Nat.le_trans hB (by omega))).mono ?_
        rintro e w1 ⟨rfl, hb⟩
        clear ex0 ex1 ex2 zx er0 er1 er2 zr
        replace x := x.all hb
        replace r := r.all hb
        replace R := R.all hb (Nat.le_trans (hB) (by omega))
        replace HB := Lib.hid (HB.out.trans (hb.mono (by omega)))
        replace hsz := Nat.le_trans hsz hb.size
        clear hb
        rw [hg]
        have ex0 := x.cell 0
        have ex1 := x.cell 1
        have ex2 := x.cell 2
        have zx := x.lt
        have er0 := r.cell 0
        have er1 := r.cell 1
        have er2 := r.cell 2
        have fr0 := r.frozen 0
        have fr1 := r.frozen 1
        have fr2 := r.frozen 2
        have zr := r.lt
        have F := fin3 (p := w.heap.size + 1) (a := .int .i64 0) (b := .int .i64 0) (c := .slice none 0 0) (Own.nil w1 w.heap.size) (by simp [Value.ownBlock]) HB.out (by omega)
        go_wp2_with fail
        exact bodyPost_ret (v := .tuple #[.agg #[.int .i64 0, .int .i64 0, .slice none 0 0], .bool false]) (by simp [results, Try.results17, go_sem, er0, er1, er2]) rfl ⟨none, 0, rfl, F.1, F.2⟩

def cornersL (m k : Nat) (xs : List Int) : List Int := [elt m xs 0 0, elt m xs 0 (m - 1), elt m xs (k - 1) (m - 1), elt m xs (k - 1) 0]
def cornersX (W H : Int) (xs : List Int) : List Int := if hasRingB W H xs = true then cornersL W.toNat H.toNat xs else []
theorem cornersX_len (W H : Int) (xs : List Int) : (cornersX W H xs).length ≤ 100000 := by
  unfold cornersX
  split <;> simp [cornersL]
theorem cel_al {w : World} {b o : Nat} {v : Value} {ob : Obj} (hb : b < w.heap.size) (h : w.cell? ⟨b, o, none⟩ = some v) : (w.drew.alloc ob).cell? ⟨b, o, none⟩ = some v := (World.cell?_alloc_lt w.drew ob ⟨b, o, none⟩ hb).trans h
theorem cel_of {w : World} {B b off n c j : Nat} {xs : List Int} (h : Rd w B (some ⟨b, off, none⟩) n c xs) (hB : B ≤ w.heap.size) (hj : j < n) : ∃ x, Hid (xs.getD j 0 = x) ∧ I64 x ∧ Cel w b (off + j) (.int .i64 x) := by
  obtain ⟨_, _, x, e, hb, hc, h1, h2, hx⟩ := h.at hj
  cases e
  exact ⟨x, hx, ⟨h1, h2⟩, by omega, hc⟩
theorem own4 {w : World} {lo : Nat} {x1 x2 x3 x4 : Int} (h : lo ≤ w.heap.size) (i1 : I64 x1) (i2 : I64 x2) (i3 : I64 x3) (i4 : I64 x4) : Own (w.alloc (.cells #[.int .i64 x1, .int .i64 x2, .int .i64 x3, .int .i64 x4] 3)) lo (.slice (some ⟨w.heap.size, 0, none⟩) 4 4) [x1, x2, x3, x4] :=
  blk_own (xs := [x1, x2, x3, x4]) (Blk.new w _ _) h (by simp [maxLen]) (by simp; exact ⟨i1, i2, i3, i4⟩)
set_option maxRecDepth 100000 in
set_option maxHeartbeats 4000000 in
theorem implCornersOf_any (W H : Int) (A : Option Addr) (n c B : Nat) (xs : List Int) (w : World) (hR : Rd w B A n c xs) (hB : B ≤ w.heap.size) :
    Calls Try.prog 12 #[chartV W H (.slice A n c)] w (OutInts w (cornersX W H xs) (hasRingB W H xs)) := by
  cases hg : hasRingB W H xs with
  | true =>
    rw [cornersX, if_pos hg]
    obtain ⟨m, k, rfl, rfl, m2, m8, k2, k8, hl, _, h64, hl1⟩ := hasRing_nat hg
    simp only [Int.toNat_natCast]
    obtain rfl := hR.len
    obtain ⟨b, off, rfl, _, _⟩ := hR.cells (by omega)
    obtain ⟨M1, hM1⟩ : ∃ M : Nat, M + 1 = m := ⟨m - 1, by omega⟩
    obtain ⟨K1, hK1⟩ : ∃ M : Nat, M + 1 = k := ⟨k - 1, by omega⟩
    obtain ⟨x1, HX1, i1, C1⟩ := cel_of hR hB (show 0 < xs.length by omega)
    obtain ⟨x2, HX2, i2, C2⟩ := cel_of hR hB (show M1 < xs.length by have := at_lt hl.out (show 0 < k by omega) (show M1 < m by omega); simpa using this)
    obtain ⟨x3, HX3, i3, C3⟩ := cel_of hR hB (show K1 * m + M1 < xs.length from at_lt hl.out (show K1 < k by omega) (show M1 < m by omega))
    obtain ⟨x4, HX4, i4, C4⟩ := cel_of hR hB (show K1 * m < xs.length by have := at_lt hl.out (show K1 < k by omega) (show 0 < m by omega); simpa using this)
    have HY := Lib.hid (show cornersL m k xs = [x1, x2, x3, x4] by
      have e1 : m - 1 = M1 := by omega
      have e2 : k - 1 = K1 := by omega
      have y1 := HX1.out
      have y2 := HX2.out
      have y3 := HX3.out
      have y4 := HX4.out
      rw [cornersL, elt, elt, elt, elt, e1, e2, Nat.zero_mul, Nat.zero_add, Nat.zero_add, Nat.add_zero, y1, y2, y3, y4])
    rw [HY.out]
    rw [Nat.add_zero] at C1
    clear HX1 HX2 HX3 HX4
    have hw1 : IntKind.i64.wrap ((m : Int) - 1) = (M1 : Int) := by rw [show (m : Int) - 1 = (M1 : Int) by omega]; exact IntWalk.i64_in _ (by omega)
    have hw2 : IntKind.i64.wrap ((k : Int) - 1) = (K1 : Int) := by rw [show (k : Int) - 1 = (K1 : Int) by omega]; exact IntWalk.i64_in _ (by omega)
    have hcc := hR.cap
    have hcm := hR.max
    have hm0 : 0 < m := by omega
    have hM1m : M1 < m := by omega
    have hK1k : K1 < k := by omega
    replace C1 := C1.alloc (.cells #[.int .i64 m, .int .i64 k, .slice (some ⟨b, off, none⟩) xs.length c] 26)
    replace C2 := C2.alloc (.cells #[.int .i64 m, .int .i64 k, .slice (some ⟨b, off, none⟩) xs.length c] 26)
    replace C3 := C3.alloc (.cells #[.int .i64 m, .int .i64 k, .slice (some ⟨b, off, none⟩) xs.length c] 26)
    replace C4 := C4.alloc (.cells #[.int .i64 m, .int .i64 k, .slice (some ⟨b, off, none⟩) xs.length c] 26)
    have HB := Lib.hid ((Below.refl w.heap.size w).alloc (by first | (simp; done) | (simp; omega) | omega) (.cells #[.int .i64 m, .int .i64 k, .slice (some ⟨b, off, none⟩) xs.length c] 26))
    have R := ((hR)).alloc (hB) (.cells #[.int .i64 m, .int .i64 k, .slice (some ⟨b, off, none⟩) xs.length c] 26)
    have x := (Blk.new w #[.int .i64 m, .int .i64 k, .slice (some ⟨b, off, none⟩) xs.length c] 26).at_ (q := w.heap.size) (by simp)
    have hsz : w.heap.size + 1 ≤ (w.alloc (.cells #[.int .i64 m, .int .i64 k, .slice (some ⟨b, off, none⟩) xs.length c] 26)).heap.size := by simp
    clear hR
    go_enter Try.func12, Try.ntmps12
    go_wp2_with fail
    obtain ⟨W0, hW0⟩ : ∃ v, (w.alloc (.cells #[.int .i64 m, .int .i64 k, .slice (some ⟨b, off, none⟩) xs.length c] 26)) = v := ⟨_, rfl⟩
    rw [hW0] at HB hsz C1 C2 C3 C4 R x ⊢
    clear hW0
    have ex0 := x.cell 0
    have ex1 := x.cell 1
    have ex2 := x.cell 2
    have zx := x.lt
    go_wp2_with fail
    refine (hasRing_any m k _ _ c B xs _ R (Nat.le_trans hB (by omega))).mono ?_
    rintro e w1 ⟨rfl, hb⟩
    clear ex0 ex1 ex2 zx
    replace C1 := C1.all hb
    replace C2 := C2.all hb
    replace C3 := C3.all hb
    replace C4 := C4.all hb
    replace x := x.all hb
    replace R := R.all hb (Nat.le_trans (hB) (by omega))
    replace HB := Lib.hid (HB.out.trans (hb.mono (by omega)))
    replace hsz := Nat.le_trans hsz hb.size
    clear hb
    rw [hg]
    have HH := HB.out
    have e0 := x.cell 0
    have e1 := x.cell 1
    have e2 := x.cell 2
    go_wp2_with fail
    go_cut [4, 5] from 4 to 16 (fun s4 s5 wx => s4 = .slice (some ⟨b, off, none⟩) m c ∧ s5 = .slice (some ⟨b, off + K1 * m, none⟩) m (c - K1 * m) ∧ Blk wx w.heap.size 26 #[.int .i64 m, .int .i64 k, .slice (some ⟨b, off, none⟩) xs.length c] ∧ Cel wx b off (.int .i64 x1) ∧ Cel wx b (off + M1) (.int .i64 x2) ∧ Cel wx b (off + (K1 * m + M1)) (.int .i64 x3) ∧ Cel wx b (off + K1 * m) (.int .i64 x4) ∧ Below w.heap.size w wx)
    case first =>
      refine wp_region_noPanic ?_
      refine wp_region_held_drew (S := (fun w' => w'.cell? ⟨w.heap.size, 0, none⟩ = some (.int .i64 m) ∧ w'.cell? ⟨w.heap.size, 1, none⟩ = some (.int .i64 k) ∧ w'.cell? ⟨w.heap.size, 2, none⟩ = some (.slice (some ⟨b, off, none⟩) xs.length c))) (by kernel_rfl) (by go_keep) (fun hHeld => ?_)
      have HHz := belowD HH
      have xz : Blk w1.drew _ _ _ := x.all (low_drewN w1 1)
      have C1z := C1.drew
      have C2z := C2.drew
      have C3z := C3.drew
      have C4z := C4.drew
      obtain ⟨wd, hwd⟩ : ∃ v, w1.drew = v := ⟨_, rfl⟩
      rw [hwd] at hHeld HHz xz C1z C2z C3z C4z ⊢
      clear hwd
      refine wpAnyH_take (i := 0) (v := ?_) rfl (by kernel_rfl) (by kernel_rfl) (by kernel_rfl) (fun _ _ _ h => h) (Or.inl ⟨by rfl, ?_⟩) (by assumption) ?_
      rotate_left
      · intro w hSw; (try dsimp only at hSw); go_simp; (try with_reducible rfl)
      (try simp only [Act.put, List.getElem_toArray, List.getElem_cons_zero, List.setIfInBounds_toArray, List.set_cons_zero, List.set_cons_succ])
      refine wpAnyH_take (i := 2) (v := ?_) rfl (by kernel_rfl) (by kernel_rfl) (by kernel_rfl) (fun _ _ _ h => h) (Or.inl ⟨by rfl, ?_⟩) (by assumption) ?_
      rotate_left
      · intro w hSw; (try dsimp only at hSw); go_simp; (try with_reducible rfl)
      (try simp only [Act.put, List.getElem_toArray, List.getElem_cons_zero, List.getElem_cons_succ, List.setIfInBounds_toArray, List.set_cons_zero, List.set_cons_succ])
      refine wpAnyH_take (i := 3) (v := ?_) rfl (by kernel_rfl) (by kernel_rfl) (by kernel_rfl) (fun _ _ _ h => h) (Or.inl ⟨by rfl, ?_⟩) (by assumption) ?_
      rotate_left
      · intro w hSw; (try dsimp only at hSw); go_simp; (try with_reducible rfl)
      (try simp only [Act.put, List.getElem_toArray, List.getElem_cons_zero, List.getElem_cons_succ, List.setIfInBounds_toArray, List.set_cons_zero, List.set_cons_succ])
      refine wpAnyH_take (i := 4) (v := ?_) rfl (by kernel_rfl) (by kernel_rfl) (by kernel_rfl) (fun _ _ _ h => h) (Or.inl ⟨by rfl, ?_⟩) (by assumption) ?_
      rotate_left
      · intro w hSw; (try dsimp only at hSw); go_simp; (try with_reducible rfl)
      (try simp only [Act.put, List.getElem_toArray, List.getElem_cons_zero, List.getElem_cons_succ, List.setIfInBounds_toArray, List.set_cons_zero, List.set_cons_succ])
      refine wpAnyH_take (i := 5) (v := ?_) rfl (by kernel_rfl) (by kernel_rfl) (by kernel_rfl) (fun _ _ _ h => h) (Or.inl ⟨by rfl, ?_⟩) (by assumption) ?_
      rotate_left
      · intro w hSw; (try dsimp only at hSw); go_simp; (try with_reducible rfl)
      (try simp only [Act.put, List.getElem_toArray, List.getElem_cons_zero, List.getElem_cons_succ, List.setIfInBounds_toArray, List.set_cons_zero, List.set_cons_succ])
      clear hHeld
      refine wpAnyH_ready (rs := [1]) (by kernel_rfl) (by simp) ?_
      refine AllReadyH.cons rfl (fun K hK => ?_) AllReadyH.nil
      go_simp
      refine (rowOf_n m k 0 b off xs.length c _ hl.out hcc hcm (by omega) m8 (by omega) k8 _ _ _ rfl rfl rfl).mono ?_
      rintro e wq1 ⟨rfl, hb⟩
      replace xz := xz.all hb
      replace C1z := C1z.all hb
      replace C2z := C2z.all hb
      replace C3z := C3z.all hb
      replace C4z := C4z.all hb
      replace HHz := HHz.trans (hb.mono HHz.size)
      clear hb 
      refine hK.out _ _ (by exact ⟨xz.cell 0, xz.cell 1, xz.cell 2⟩) (fun hHeld => ?_)
      clear hK K
      (try simp only [Act.put, List.getElem_toArray, List.getElem_cons_zero, List.getElem_cons_succ, List.setIfInBounds_toArray, List.set_cons_zero, List.set_cons_succ])
      clear hHeld
      refine wpAnyH_ready (rs := [6]) (by kernel_rfl) (by simp) ?_
      refine AllReadyH.cons rfl (fun K hK => ?_) AllReadyH.nil
      go_simp
      refine (rowOf_n m k K1 b off xs.length c _ hl.out hcc hcm (by omega) m8 (by omega) k8 _ _ _ rfl rfl rfl).mono ?_
      rintro e wq2 ⟨rfl, hb⟩
      replace xz := xz.all hb
      replace C1z := C1z.all hb
      replace C2z := C2z.all hb
      replace C3z := C3z.all hb
      replace C4z := C4z.all hb
      replace HHz := HHz.trans (hb.mono HHz.size)
      clear hb 
      refine hK.out _ _ (by exact ⟨xz.cell 0, xz.cell 1, xz.cell 2⟩) (fun hHeld => ?_)
      clear hK K
      (try simp only [Act.put, List.getElem_toArray, List.getElem_cons_zero, List.getElem_cons_succ, List.setIfInBounds_toArray, List.set_cons_zero, List.set_cons_succ])
      refine wpAnyH_take (i := 7) (v := ?_) rfl (by kernel_rfl) (by kernel_rfl) (by kernel_rfl) (fun _ _ _ h => h) (Or.inl ⟨by rfl, ?_⟩) (by assumption) ?_
      rotate_left
      · intro w hSw; (try dsimp only at hSw); go_simp; (try with_reducible rfl)
      (try simp only [Act.put, List.getElem_toArray, List.getElem_cons_zero, List.getElem_cons_succ, List.setIfInBounds_toArray, List.set_cons_zero, List.set_cons_succ])
      refine wpAnyH_take (i := 8) (v := ?_) rfl (by kernel_rfl) (by kernel_rfl) (by kernel_rfl) (fun _ _ _ h => h) (Or.inl ⟨by rfl, ?_⟩) (by assumption) ?_
      rotate_left
      · intro w hSw; (try dsimp only at hSw); go_simp; (try with_reducible rfl)
      (try simp only [Act.put, List.getElem_toArray, List.getElem_cons_zero, List.getElem_cons_succ, List.setIfInBounds_toArray, List.set_cons_zero, List.set_cons_succ])
      refine wpAnyH_done (by kernel_rfl) ?_ _
      refine NoPanic.normal ?_
      go_wp2_with fail
      go_meet
      exact ⟨rfl, rfl, xz, C1z, C2z, C3z, C4z, HHz⟩
    case rest =>
      clear HB HH x C1 C2 C3 C4 e0 e1 e2 hsz R
      obtain ⟨rfl, rfl, x, C1, C2, C3, C4, HB⟩ := hcut
      have hz := HB.size
      have g1 := C1.2
      have g2 := C2.2
      have g3 : wc.cell? ⟨b, off + K1 * m + M1, none⟩ = some (.int .i64 x3) := by rw [Nat.add_assoc]; exact C3.2
      have g4 := C4.2
      have e0 := x.cell 0
      have hzx := x.lt
      obtain ⟨P2, hP2⟩ : ∃ q, off + K1 * m = q := ⟨_, rfl⟩
      rw [hP2] at g3 g4 ⊢
      clear hP2
      have HO := Lib.hid (own4 (w := wc.drew) hz i1 i2 i3 i4)
      have HBD := Lib.hid ((belowD HB).alloc hz (.cells #[.int .i64 x1, .int .i64 x2, .int .i64 x3, .int .i64 x4] 3))
      go_wp2
      go_region_held3 (fun w' => w'.cell? ⟨b, off, none⟩ = some (.int .i64 x1) ∧ w'.cell? ⟨b, off + M1, none⟩ = some (.int .i64 x2) ∧ w'.cell? ⟨b, P2 + M1, none⟩ = some (.int .i64 x3) ∧ w'.cell? ⟨b, P2, none⟩ = some (.int .i64 x4)) (first | exact ⟨g1, g2, g3, g4⟩ | exact ⟨cel_al C1.1 g1, cel_al C1.1 g2, cel_al C1.1 g3, cel_al C1.1 g4⟩ | go_keep) (fail)
      all_goals
        go_wp2
        go_ret2
        exact ⟨_, 4, rfl, HO.out, HBD.out⟩
  | false =>
    rw [cornersX, if_neg (by rw [hg]; decide)]
    have HB := Lib.hid ((Below.refl w.heap.size w).alloc (by first | (simp; done) | (simp; omega) | omega) (.cells #[.int .i64 W, .int .i64 H, .slice A n c] 26))
    have R := ((hR)).alloc (hB) (.cells #[.int .i64 W, .int .i64 H, .slice A n c] 26)
    have x := (Blk.new w #[.int .i64 W, .int .i64 H, .slice A n c] 26).at_ (q := w.heap.size) (by simp)
    have hsz : w.heap.size + 1 ≤ (w.alloc (.cells #[.int .i64 W, .int .i64 H, .slice A n c] 26)).heap.size := by simp
    clear hR
    go_enter Try.func12, Try.ntmps12
    go_wp2_with fail
    obtain ⟨W0, hW0⟩ : ∃ v, (w.alloc (.cells #[.int .i64 W, .int .i64 H, .slice A n c] 26)) = v := ⟨_, rfl⟩
    rw [hW0] at HB hsz R x ⊢
    clear hW0
    have ex0 := x.cell 0
    have ex1 := x.cell 1
    have ex2 := x.cell 2
    have zx := x.lt
    go_wp2_with fail
    refine (hasRing_any W H A n c B xs _ R (Nat.le_trans hB (by omega))).mono ?_
    rintro e w1 ⟨rfl, hb⟩
    clear ex0 ex1 ex2 zx
    replace x := x.all hb
    replace R := R.all hb (Nat.le_trans (hB) (by omega))
    replace HB := Lib.hid (HB.out.trans (hb.mono (by omega)))
    replace hsz := Nat.le_trans hsz hb.size
    clear hb
    rw [hg]
    go_wp2
    go_ret2
    exact ⟨none, 0, rfl, Own.nil _ _, HB.out⟩
theorem Z20_row {w : World} {q lo : Nat} {x1 x2 x3 x4 : Int} (h : Blk w q 3 #[.int .i64 x1, .int .i64 x2, .int .i64 x3, .int .i64 x4]) (hq : lo ≤ q) (i1 : I64 x1) (i2 : I64 x2) (i3 : I64 x3) (i4 : I64 x4) : Own w lo (.slice (some ⟨q, 0, none⟩) 4 4) [x1, x2, x3, x4] :=
  blk_own (xs := [x1, x2, x3, x4]) h hq (by simp [maxLen]) (by simp; exact ⟨i1, i2, i3, i4⟩)
end Go.Proofs.Ytjfdcmdgpeeabaa
