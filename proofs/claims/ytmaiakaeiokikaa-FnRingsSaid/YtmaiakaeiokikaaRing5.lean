/- The walks of RingOf, PutRing and DoesMeet, the program's and the model's. No condition. -/
import Derived.Test.YtmaiakaeiokikaaRing4b
import Derived.Test.YtmaiakaeiokikaaPart2
namespace Go.Proofs.Ytmaiakaeiokikaa
open Go.RowKit

theorem hasRing_nat {W H : Int} {xs : List Int} (h : hasRingB W H xs = true) : ∃ m k : Nat, W = m ∧ H = k ∧ 2 ≤ m ∧ m ≤ 8 ∧ 2 ≤ k ∧ k ≤ 8 ∧ Hid (xs.length = m * k) ∧ goodB m k xs = true ∧ xs.length ≤ 64 ∧ 1 ≤ xs.length := by
  simp only [hasRingB, Bool.and_eq_true] at h
  obtain ⟨⟨hg, hW⟩, hH⟩ := h
  obtain ⟨m, k, rfl, rfl, _, _, _, _, hl, h64, hl1, _⟩ := good_nat hg
  have h1 := inB_yes hW
  have h2 := inB_yes hH
  exact ⟨m, k, rfl, rfl, by omega, by omega, by omega, by omega, hl, hg, h64, hl1⟩
/-- The ring of a chart, where it has one. -/
def ringX (W H : Int) (xs : List Int) : List Int := if hasRingB W H xs = true then ringL W.toNat H.toNat xs else []
theorem ringX_len (W H : Int) (xs : List Int) : (ringX W H xs).length ≤ 28 := by
  unfold ringX
  split
  · rename_i h
    obtain ⟨m, k, rfl, rfl, m2, m8, k2, k8, _⟩ := hasRing_nat h
    have := ringN_bd m2 m8 k2 k8
    rw [ringL_len]
    simp only [Int.toNat_natCast]
    omega
  · simp
theorem ringX_len2 (W H : Int) (xs : List Int) : (ringX W H xs).length ≤ 100000 := Nat.le_trans (ringX_len W H xs) (by omega)
set_option maxRecDepth 100000 in
set_option maxHeartbeats 1000000 in
theorem implRingOf_any (W H : Int) (A : Option Addr) (n c B : Nat) (xs : List Int) (w : World) (hR : Rd w B A n c xs) (hB : B ≤ w.heap.size) :
    Calls Try.prog 6 #[chartV W H (.slice A n c)] w (OutInts w (ringX W H xs) (hasRingB W H xs)) := by
  cases hg : hasRingB W H xs with
  | true =>
    rw [ringX, if_pos hg]
    obtain ⟨m, k, rfl, rfl, m2, m8, k2, k8, hl, _, h64, hl1⟩ := hasRing_nat hg
    simp only [Int.toNat_natCast]
    obtain rfl := hR.len
    obtain ⟨b, off, rfl, _, _⟩ := hR.cells (by omega)
    exact implRingOf_yes m k b off c B xs w hR hB m2 m8 k2 k8 hl hg
  | false =>
    rw [ringX, if_neg (by rw [hg]; decide)]
    have HB := Lib.hid ((Below.refl w.heap.size w).alloc (by first | (simp; done) | (simp; omega) | omega) (.cells #[.int .i64 W, .int .i64 H, .slice A n c] 26))
    have R := ((hR)).alloc (hB) (.cells #[.int .i64 W, .int .i64 H, .slice A n c] 26)
    have x := (Blk.new w #[.int .i64 W, .int .i64 H, .slice A n c] 26).at_ (q := w.heap.size) (by simp)
    have hsz : w.heap.size + 1 ≤ (w.alloc (.cells #[.int .i64 W, .int .i64 H, .slice A n c] 26)).heap.size := by simp
    clear hR
    go_enter Try.func6, Try.ntmps6
    go_wp2_with fail
    obtain ⟨W0, hW0⟩ : ∃ v, (w.alloc (.cells #[.int .i64 W, .int .i64 H, .slice A n c] 26)) = v := ⟨_, rfl⟩
    rw [hW0] at HB hsz R x ⊢
    clear hW0
    have ex0 := x.cell 0
    have ex1 := x.cell 1
    have ex2 := x.cell 2
    have zx := x.lt
    go_wp2_with fail
    refine (hasRing_any W H A n c B xs _ R (Nat.le_trans hB (by omega))).mono ?_
    rintro e w1 ⟨rfl, hb⟩
    clear ex0 ex1 ex2 zx
    replace x := x.all hb
    replace R := R.all hb (Nat.le_trans (hB) (by omega))
    replace HB := Lib.hid (HB.out.trans (hb.mono (by omega)))
    replace hsz := Nat.le_trans hsz hb.size
    clear hb
    rw [hg]
    go_wp2
    go_ret2
    exact ⟨none, 0, rfl, Own.nil _ _, HB.out⟩
set_option maxRecDepth 100000 in
set_option maxHeartbeats 1000000 in
theorem specRingOf_any (W H : Int) (A : Option Addr) (n c B : Nat) (xs : List Int) (w : World) (hR : Rd w B A n c xs) (hB : B ≤ w.heap.size) :
    Calls Try.prog 7 #[chartV W H (.slice A n c)] w (OutInts w (ringX W H xs) (hasRingB W H xs)) := by
  cases hg : hasRingB W H xs with
  | true =>
    rw [ringX, if_pos hg]
    obtain ⟨m, k, rfl, rfl, m2, m8, k2, k8, hl, _, h64, hl1⟩ := hasRing_nat hg
    simp only [Int.toNat_natCast]
    obtain rfl := hR.len
    obtain ⟨b, off, rfl, _, _⟩ := hR.cells (by omega)
    have HB := Lib.hid ((Below.refl w.heap.size w).alloc (by first | (simp; done) | (simp; omega) | omega) (.cells #[.int .i64 m, .int .i64 k, .slice (some ⟨b, off, none⟩) xs.length c] 26))
    have R := ((hR)).alloc (hB) (.cells #[.int .i64 m, .int .i64 k, .slice (some ⟨b, off, none⟩) xs.length c] 26)
    have x := (Blk.new w #[.int .i64 m, .int .i64 k, .slice (some ⟨b, off, none⟩) xs.length c] 26).at_ (q := w.heap.size) (by simp)
    have hsz : w.heap.size + 1 ≤ (w.alloc (.cells #[.int .i64 m, .int .i64 k, .slice (some ⟨b, off, none⟩) xs.length c] 26)).heap.size := by simp
    clear hR
    go_enter Try.func7, Try.ntmps7
    go_wp2_with fail
    obtain ⟨W0, hW0⟩ : ∃ v, (w.alloc (.cells #[.int .i64 m, .int .i64 k, .slice (some ⟨b, off, none⟩) xs.length c] 26)) = v := ⟨_, rfl⟩
    rw [hW0] at HB hsz R x ⊢
    clear hW0
    have ex0 := x.cell 0
    have ex1 := x.cell 1
    have ex2 := x.cell 2
    have zx := x.lt
    go_wp2_with fail
    refine (l8Good_any m k _ _ c B xs _ R (Nat.le_trans hB (by omega))).mono ?_
    rintro e w1 ⟨rfl, hb⟩
    clear ex0 ex1 ex2 zx
    replace x := x.all hb
    replace R := R.all hb (Nat.le_trans (hB) (by omega))
    replace HB := Lib.hid (HB.out.trans (hb.mono (by omega)))
    replace hsz := Nat.le_trans hsz hb.size
    clear hb
    rw [hg]
    have ex0 := x.cell 0
    have ex1 := x.cell 1
    have ex2 := x.cell 2
    have zx := x.lt
    go_wp2_with fail
    refine (l8Ring_any m k b off c B xs _ R (Nat.le_trans hB (by omega)) m2 m8 k2 k8 hl).mono ?_
    rintro e w2 ⟨A2, c2, rfl, own, hb⟩
    clear ex0 ex1 ex2 zx
    replace x := x.all hb
    replace R := R.all hb (Nat.le_trans (hB) (by omega))
    have O := own.mono (show w.heap.size ≤ _ by omega)
    clear own
    replace HB := Lib.hid (HB.out.trans (hb.mono (by omega)))
    replace hsz := Nat.le_trans hsz hb.size
    clear hb
    go_wp2
    go_ret2
    exact ⟨A2, c2, rfl, O, HB.out⟩
  | false =>
    rw [ringX, if_neg (by rw [hg]; decide)]
    have HB := Lib.hid ((Below.refl w.heap.size w).alloc (by first | (simp; done) | (simp; omega) | omega) (.cells #[.int .i64 W, .int .i64 H, .slice A n c] 26))
    have R := ((hR)).alloc (hB) (.cells #[.int .i64 W, .int .i64 H, .slice A n c] 26)
    have x := (Blk.new w #[.int .i64 W, .int .i64 H, .slice A n c] 26).at_ (q := w.heap.size) (by simp)
    have hsz : w.heap.size + 1 ≤ (w.alloc (.cells #[.int .i64 W, .int .i64 H, .slice A n c] 26)).heap.size := by simp
    clear hR
    go_enter Try.func7, Try.ntmps7
    go_wp2_with fail
    obtain ⟨W0, hW0⟩ : ∃ v, (w.alloc (.cells #[.int .i64 W, .int .i64 H, .slice A n c] 26)) = v := ⟨_, rfl⟩
    rw [hW0] at HB hsz R x ⊢
    clear hW0
    have ex0 := x.cell 0
    have ex1 := x.cell 1
    have ex2 := x.cell 2
    have zx := x.lt
    go_wp2_with fail
    refine (l8Good_any W H A n c B xs _ R (Nat.le_trans hB (by omega))).mono ?_
    rintro e w1 ⟨rfl, hb⟩
    clear ex0 ex1 ex2 zx
    replace x := x.all hb
    replace R := R.all hb (Nat.le_trans (hB) (by omega))
    replace HB := Lib.hid (HB.out.trans (hb.mono (by omega)))
    replace hsz := Nat.le_trans hsz hb.size
    clear hb
    rw [hg]
    have O := Own.empty (w := w1) (lo := w.heap.size) (by omega)
    replace HB := Lib.hid (HB.out.alloc (by omega) (.cells #[] 3))
    go_wp2
    go_ret2
    exact ⟨_, 0, rfl, O, HB.out⟩

/-- A ring may be put into a chart. -/
def putOk8 (W H : Int) (xs cs : List Int) : Bool := hasRingB W H xs && (cs.all isColorB && decide (cs.length = ringN W.toNat H.toNat))
def putX8 (W H : Int) (xs cs : List Int) : List Int := if putOk8 W H xs cs = true then putRing W.toNat H.toNat xs cs else []
theorem putOk8_yes {W H : Int} {xs cs : List Int} (h : putOk8 W H xs cs = true) : hasRingB W H xs = true ∧ cs.all isColorB = true ∧ cs.length = ringN W.toNat H.toNat := by
  simpa [putOk8] using h
theorem putOk8_no {W H : Int} {xs cs : List Int} (h : putOk8 W H xs cs = false) : hasRingB W H xs = false ∨ (hasRingB W H xs = true ∧ cs.all isColorB = false) ∨ (hasRingB W H xs = true ∧ cs.all isColorB = true ∧ cs.length ≠ ringN W.toNat H.toNat) := by
  unfold putOk8 at h
  cases h1 : hasRingB W H xs with
  | false => exact .inl rfl
  | true =>
    cases h2 : cs.all isColorB with
    | false => exact .inr (.inl ⟨rfl, rfl⟩)
    | true =>
      rw [h1, h2] at h
      exact .inr (.inr ⟨rfl, rfl, by simpa using h⟩)
theorem putX8_len (W H : Int) (xs cs : List Int) : (putX8 W H xs cs).length ≤ 1048576 := by
  unfold putX8
  split
  · rename_i h
    obtain ⟨m, k, rfl, rfl, _, _, _, _, _, _, h64, _⟩ := hasRing_nat (putOk8_yes h).1
    rw [putRing_len]; omega
  · simp
set_option maxRecDepth 100000 in
set_option maxHeartbeats 2000000 in
theorem implPutRing_any (W H : Int) (A : Option Addr) (n c B : Nat) (xs : List Int) (A' : Option Addr) (n' c' B' : Nat) (cs : List Int) (w : World) (hR : Rd w B A n c xs) (hR' : Rd w B' A' n' c' cs) (hB : B ≤ w.heap.size) (hB' : B' ≤ w.heap.size) :
    Calls Try.prog 9 #[chartV W H (.slice A n c), .slice A' n' c'] w (OutChart w (orZero (putOk8 W H xs cs) W) (orZero (putOk8 W H xs cs) H) (putX8 W H xs cs) (putOk8 W H xs cs)) := by
  obtain rfl := hR'.len
  have hcn := hR'.len_lt
  cases hp : putOk8 W H xs cs with
  | true =>
    rw [putX8, if_pos hp]
    obtain ⟨hg, hca, hlen⟩ := putOk8_yes hp
    obtain ⟨m, k, rfl, rfl, m2, m8, k2, k8, hl, _, h64, hl1⟩ := hasRing_nat hg
    simp only [Int.toNat_natCast] at hlen ⊢
    have hN := ringN_bd m2 m8 k2 k8
    obtain rfl := hR.len
    obtain ⟨b, off, rfl, _, _⟩ := hR.cells (by omega)
    obtain ⟨b', off', rfl, _, _⟩ := hR'.cells (by omega)
    have HLEN := Lib.hid hlen
    have hle : ((cs.length : Int) != (ringN m k : Int)) = false := by rw [hlen]; simp
    clear hlen hp
    have HB := Lib.hid (((Below.refl w.heap.size w).alloc (by first | (simp; done) | (simp; omega) | omega) (.cells #[.int .i64 m, .int .i64 k, .slice (some ⟨b, off, none⟩) xs.length c] 26)).alloc (by first | (simp; done) | (simp; omega) | omega) (.cells #[.int .i64 0, .int .i64 0, .slice none 0 0] 26))
    have R := (((hR)).alloc (hB) (.cells #[.int .i64 m, .int .i64 k, .slice (some ⟨b, off, none⟩) xs.length c] 26)).alloc ((by first | (simp; done) | (simp; omega) | omega)) (.cells #[.int .i64 0, .int .i64 0, .slice none 0 0] 26)
    have Q := (((hR')).alloc (hB') (.cells #[.int .i64 m, .int .i64 k, .slice (some ⟨b, off, none⟩) xs.length c] 26)).alloc ((by first | (simp; done) | (simp; omega) | omega)) (.cells #[.int .i64 0, .int .i64 0, .slice none 0 0] 26)
    have x := ((Blk.new w #[.int .i64 m, .int .i64 k, .slice (some ⟨b, off, none⟩) xs.length c] 26).alloc (.cells #[.int .i64 0, .int .i64 0, .slice none 0 0] 26)).at_ (q := w.heap.size) (by simp)
    have r := (Blk.new (w.alloc (.cells #[.int .i64 m, .int .i64 k, .slice (some ⟨b, off, none⟩) xs.length c] 26)) #[.int .i64 0, .int .i64 0, .slice none 0 0] 26).at_ (q := w.heap.size + 1) (by simp)
    have hsz : w.heap.size + 2 ≤ ((w.alloc (.cells #[.int .i64 m, .int .i64 k, .slice (some ⟨b, off, none⟩) xs.length c] 26)).alloc (.cells #[.int .i64 0, .int .i64 0, .slice none 0 0] 26)).heap.size := by simp
    clear hR hR'
    go_enter Try.func9, Try.ntmps9
    go_wp2_with fail
    obtain ⟨W0, hW0⟩ : ∃ v, ((w.alloc (.cells #[.int .i64 m, .int .i64 k, .slice (some ⟨b, off, none⟩) xs.length c] 26)).alloc (.cells #[.int .i64 0, .int .i64 0, .slice none 0 0] 26)) = v := ⟨_, rfl⟩
    rw [hW0] at HB hsz R Q x r ⊢
    clear hW0
    have ex0 := x.cell 0
    have ex1 := x.cell 1
    have ex2 := x.cell 2
    have zx := x.lt
    have er0 := r.cell 0
    have er1 := r.cell 1
    have er2 := r.cell 2
    have zr := r.lt
    go_wp2_with fail
    refine (hasRing_any m k _ _ c B xs _ R (Nat.le_trans hB (by omega))).mono ?_
    rintro e w1 ⟨rfl, hb⟩
    clear ex0 ex1 ex2 zx er0 er1 er2 zr
    replace x := x.all hb
    replace r := r.all hb
    replace R := R.all hb (Nat.le_trans (hB) (by omega))
    replace Q := Q.all hb (Nat.le_trans (hB') (by omega))
    replace HB := Lib.hid (HB.out.trans (hb.mono (by omega)))
    replace hsz := Nat.le_trans hsz hb.size
    clear hb
    rw [hg]
    have ex0 := x.cell 0
    have ex1 := x.cell 1
    have ex2 := x.cell 2
    have zx := x.lt
    have er0 := r.cell 0
    have er1 := r.cell 1
    have er2 := r.cell 2
    have zr := r.lt
    go_wp2_with (first | (go_at_call 28; (with_reducible refine (areColors_any _ _ _ B' cs _ Q).mono ?_); rintro e w' ⟨rfl, rfl⟩) | (go_at_call 24; (with_reducible refine (knotsAround_any m k _ m2 m8 k2 k8).mono ?_); rintro e w' ⟨rfl, rfl⟩))
    refine (withRing_any m k b off c B b' off' c' B' xs cs _ R Q (Nat.le_trans hB (by omega)) (Nat.le_trans hB' (by omega)) m2 m8 k2 k8 hl (by rw [HLEN.out]; omega)).mono ?_
    rintro e w2 ⟨A2, c2, rfl, own, hb⟩
    clear ex0 ex1 ex2 zx er0 er1 er2 zr
    replace x := x.all hb
    replace r := r.all hb
    replace R := R.all hb (Nat.le_trans (hB) (by omega))
    replace Q := Q.all hb (Nat.le_trans (hB') (by omega))
    have O := own.mono (show w.heap.size ≤ _ by omega)
    clear own
    replace HB := Lib.hid (HB.out.trans (hb.mono (by omega)))
    replace hsz := Nat.le_trans hsz hb.size
    clear hb
    have ex0 := x.cell 0
    have ex1 := x.cell 1
    have ex2 := x.cell 2
    have zx := x.lt
    have er0 := r.cell 0
    have er1 := r.cell 1
    have er2 := r.cell 2
    have fr0 := r.frozen 0
    have fr1 := r.frozen 1
    have fr2 := r.frozen 2
    have zr := r.lt
    have F := fin3 (p := w.heap.size + 1) (a := .int .i64 m) (b := .int .i64 k) (c := .slice A2 (putRing m k xs cs).length c2) O (row_ne' O.1 r (by decide)) HB.out (by omega)
    go_wp2_with fail
    exact bodyPost_ret (v := .tuple #[.agg #[.int .i64 m, .int .i64 k, .slice A2 (putRing m k xs cs).length c2], .bool true]) (by simp [results, Try.results9, go_sem, er0, er1, er2]) rfl ⟨_, c2, rfl, F.1, F.2⟩
  | false =>
    rw [putX8, if_neg (by rw [hp]; decide)]
    rcases putOk8_no hp with hg | ⟨hg, hca⟩ | ⟨hg, hca, hlen⟩
    · clear hp
      have HB := Lib.hid (((Below.refl w.heap.size w).alloc (by first | (simp; done) | (simp; omega) | omega) (.cells #[.int .i64 W, .int .i64 H, .slice A n c] 26)).alloc (by first | (simp; done) | (simp; omega) | omega) (.cells #[.int .i64 0, .int .i64 0, .slice none 0 0] 26))
      have R := (((hR)).alloc (hB) (.cells #[.int .i64 W, .int .i64 H, .slice A n c] 26)).alloc ((by first | (simp; done) | (simp; omega) | omega)) (.cells #[.int .i64 0, .int .i64 0, .slice none 0 0] 26)
      have Q := (((hR')).alloc (hB') (.cells #[.int .i64 W, .int .i64 H, .slice A n c] 26)).alloc ((by first | (simp; done) | (simp; omega) | omega)) (.cells #[.int .i64 0, .int .i64 0, .slice none 0 0] 26)
      have x := ((Blk.new w #[.int .i64 W, .int .i64 H, .slice A n c] 26).alloc (.cells #[.int .i64 0, .int .i64 0, .slice none 0 0] 26)).at_ (q := w.heap.size) (by simp)
      have r := (Blk.new (w.alloc (.cells #[.int .i64 W, .int .i64 H, .slice A n c] 26)) #[.int .i64 0, .int .i64 0, .slice none 0 0] 26).at_ (q := w.heap.size + 1) (by simp)
      have hsz : w.heap.size + 2 ≤ ((w.alloc (.cells #[.int .i64 W, .int .i64 H, .slice A n c] 26)).alloc (.cells #[.int .i64 0, .int .i64 0, .slice none 0 0] 26)).heap.size := by simp
      clear hR hR'
      go_enter Try.func9, Try.ntmps9
      go_wp2_with fail
      obtain ⟨W0, hW0⟩ : ∃ v, ((w.alloc (.cells #[.int .i64 W, .int .i64 H, .slice A n c] 26)).alloc (.cells #[.int .i64 0, .int .i64 0, .slice none 0 0] 26)) = v := ⟨_, rfl⟩
      rw [hW0] at HB hsz R Q x r ⊢
      clear hW0
      have ex0 := x.cell 0
      have ex1 := x.cell 1
      have ex2 := x.cell 2
      have zx := x.lt
      have er0 := r.cell 0
      have er1 := r.cell 1
      have er2 := r.cell 2
      have zr := r.lt
      go_wp2_with fail
      refine (hasRing_any W H A n c B xs _ R (Nat.le_trans hB (by omega))).mono ?_
      rintro e w1 ⟨rfl, hb⟩
      clear ex0 ex1 ex2 zx er0 er1 er2 zr
      replace x := x.all hb
      replace r := r.all hb
      replace R := R.all hb (Nat.le_trans (hB) (by omega))
      replace Q := Q.all hb (Nat.le_trans (hB') (by omega))
      replace HB := Lib.hid (HB.out.trans (hb.mono (by omega)))
      replace hsz := Nat.le_trans hsz hb.size
      clear hb
      rw [hg]
      have ex0 := x.cell 0
      have ex1 := x.cell 1
      have ex2 := x.cell 2
      have zx := x.lt
      have er0 := r.cell 0
      have er1 := r.cell 1
      have er2 := r.cell 2
      have fr0 := r.frozen 0
      have fr1 := r.frozen 1
      have fr2 := r.frozen 2
      have zr := r.lt
      have F := fin3 (p := w.heap.size + 1) (a := .int .i64 0) (b := .int .i64 0) (c := .slice none 0 0) (Own.nil w1 w.heap.size) (by simp [Value.ownBlock]) HB.out (by omega)
      go_wp2_with fail
      exact bodyPost_ret (v := .tuple #[.agg #[.int .i64 0, .int .i64 0, .slice none 0 0], .bool false]) (by simp [results, Try.results9, go_sem, er0, er1, er2]) rfl ⟨none, 0, rfl, F.1, F.2⟩
    · clear hp
      obtain ⟨m, k, rfl, rfl, m2, m8, k2, k8, hl, _, h64, hl1⟩ := hasRing_nat hg
      have HB := Lib.hid (((Below.refl w.heap.size w).alloc (by first | (simp; done) | (simp; omega) | omega) (.cells #[.int .i64 m, .int .i64 k, .slice A n c] 26)).alloc (by first | (simp; done) | (simp; omega) | omega) (.cells #[.int .i64 0, .int .i64 0, .slice none 0 0] 26))
      have R := (((hR)).alloc (hB) (.cells #[.int .i64 m, .int .i64 k, .slice A n c] 26)).alloc ((by first | (simp; done) | (simp; omega) | omega)) (.cells #[.int .i64 0, .int .i64 0, .slice none 0 0] 26)
      have Q := (((hR')).alloc (hB') (.cells #[.int .i64 m, .int .i64 k, .slice A n c] 26)).alloc ((by first | (simp; done) | (simp; omega) | omega)) (.cells #[.int .i64 0, .int .i64 0, .slice none 0 0] 26)
      have x := ((Blk.new w #[.int .i64 m, .int .i64 k, .slice A n c] 26).alloc (.cells #[.int .i64 0, .int .i64 0, .slice none 0 0] 26)).at_ (q := w.heap.size) (by simp)
      have r := (Blk.new (w.alloc (.cells #[.int .i64 m, .int .i64 k, .slice A n c] 26)) #[.int .i64 0, .int .i64 0, .slice none 0 0] 26).at_ (q := w.heap.size + 1) (by simp)
      have hsz : w.heap.size + 2 ≤ ((w.alloc (.cells #[.int .i64 m, .int .i64 k, .slice A n c] 26)).alloc (.cells #[.int .i64 0, .int .i64 0, .slice none 0 0] 26)).heap.size := by simp
      clear hR hR'
      go_enter Try.func9, Try.ntmps9
      go_wp2_with fail
      obtain ⟨W0, hW0⟩ : ∃ v, ((w.alloc (.cells #[.int .i64 m, .int .i64 k, .slice A n c] 26)).alloc (.cells #[.int .i64 0, .int .i64 0, .slice none 0 0] 26)) = v := ⟨_, rfl⟩
      rw [hW0] at HB hsz R Q x r ⊢
      clear hW0
      have ex0 := x.cell 0
      have ex1 := x.cell 1
      have ex2 := x.cell 2
      have zx := x.lt
      have er0 := r.cell 0
      have er1 := r.cell 1
      have er2 := r.cell 2
      have zr := r.lt
      go_wp2_with fail
      refine (hasRing_any m k A n c B xs _ R (Nat.le_trans hB (by omega))).mono ?_
      rintro e w1 ⟨rfl, hb⟩
      clear ex0 ex1 ex2 zx er0 er1 er2 zr
      replace x := x.all hb
      replace r := r.all hb
      replace R := R.all hb (Nat.le_trans (hB) (by omega))
      replace Q := Q.all hb (Nat.le_trans (hB') (by omega))
      replace HB := Lib.hid (HB.out.trans (hb.mono (by omega)))
      replace hsz := Nat.le_trans hsz hb.size
      clear hb
      rw [hg]
      cases hle : ((cs.length : Int) != (ringN m k : Int)) <;> skip
      all_goals
        have ex0 := x.cell 0
        have ex1 := x.cell 1
        have ex2 := x.cell 2
        have zx := x.lt
        have er0 := r.cell 0
        have er1 := r.cell 1
        have er2 := r.cell 2
        have fr0 := r.frozen 0
        have fr1 := r.frozen 1
        have fr2 := r.frozen 2
        have zr := r.lt
        have F := fin3 (p := w.heap.size + 1) (a := .int .i64 0) (b := .int .i64 0) (c := .slice none 0 0) (Own.nil w1 w.heap.size) (by simp [Value.ownBlock]) HB.out (by omega)
        go_wp2_with (first | (go_at_call 28; (with_reducible refine (areColors_any _ _ _ B' cs _ Q).mono ?_); rintro e w' ⟨rfl, rfl⟩) | (go_at_call 24; (with_reducible refine (knotsAround_any m k _ m2 m8 k2 k8).mono ?_); rintro e w' ⟨rfl, rfl⟩))
        exact bodyPost_ret (v := .tuple #[.agg #[.int .i64 0, .int .i64 0, .slice none 0 0], .bool false]) (by simp [results, Try.results9, go_sem, er0, er1, er2]) rfl ⟨none, 0, rfl, F.1, F.2⟩
    · clear hp
      obtain ⟨m, k, rfl, rfl, m2, m8, k2, k8, hl, _, h64, hl1⟩ := hasRing_nat hg
      simp only [Int.toNat_natCast] at hlen
      have hle : ((cs.length : Int) != (ringN m k : Int)) = true := by simp; omega
      clear hlen
      have HB := Lib.hid (((Below.refl w.heap.size w).alloc (by first | (simp; done) | (simp; omega) | omega) (.cells #[.int .i64 m, .int .i64 k, .slice A n c] 26)).alloc (by first | (simp; done) | (simp; omega) | omega) (.cells #[.int .i64 0, .int .i64 0, .slice none 0 0] 26))
      have R := (((hR)).alloc (hB) (.cells #[.int .i64 m, .int .i64 k, .slice A n c] 26)).alloc ((by first | (simp; done) | (simp; omega) | omega)) (.cells #[.int .i64 0, .int .i64 0, .slice none 0 0] 26)
      have Q := (((hR')).alloc (hB') (.cells #[.int .i64 m, .int .i64 k, .slice A n c] 26)).alloc ((by first | (simp; done) | (simp; omega) | omega)) (.cells #[.int .i64 0, .int .i64 0, .slice none 0 0] 26)
      have x := ((Blk.new w #[.int .i64 m, .int .i64 k, .slice A n c] 26).alloc (.cells #[.int .i64 0, .int .i64 0, .slice none 0 0] 26)).at_ (q := w.heap.size) (by simp)
      have r := (Blk.new (w.alloc (.cells #[.int .i64 m, .int .i64 k, .slice A n c] 26)) #[.int .i64 0, .int .i64 0, .slice none 0 0] 26).at_ (q := w.heap.size + 1) (by simp)
      have hsz : w.heap.size + 2 ≤ ((w.alloc (.cells #[.int .i64 m, .int .i64 k, .slice A n c] 26)).alloc (.cells #[.int .i64 0, .int .i64 0, .slice none 0 0] 26)).heap.size := by simp
      clear hR hR'
      go_enter Try.func9, Try.ntmps9
      go_wp2_with fail
      obtain ⟨W0, hW0⟩ : ∃ v, ((w.alloc (.cells #[.int .i64 m, .int .i64 k, .slice A n c] 26)).alloc (.cells #[.int .i64 0, .int .i64 0, .slice none 0 0] 26)) = v := ⟨_, rfl⟩
      rw [hW0] at HB hsz R Q x r ⊢
      clear hW0
      have ex0 := x.cell 0
      have ex1 := x.cell 1
      have ex2 := x.cell 2
      have zx := x.lt
      have er0 := r.cell 0
      have er1 := r.cell 1
      have er2 := r.cell 2
      have zr := r.lt
      go_wp2_with fail
      refine (hasRing_any m k A n c B xs _ R (Nat.le_trans hB (by omega))).mono ?_
      rintro e w1 ⟨rfl, hb⟩
      clear ex0 ex1 ex2 zx er0 er1 er2 zr
      replace x := x.all hb
      replace r := r.all hb
      replace R := R.all hb (Nat.le_trans (hB) (by omega))
      replace Q := Q.all hb (Nat.le_trans (hB') (by omega))
      replace HB := Lib.hid (HB.out.trans (hb.mono (by omega)))
      replace hsz := Nat.le_trans hsz hb.size
      clear hb
      rw [hg]
      have ex0 := x.cell 0
      have ex1 := x.cell 1
      have ex2 := x.cell 2
      have zx := x.lt
      have er0 := r.cell 0
      have er1 := r.cell 1
      have er2 := r.cell 2
      have fr0 := r.frozen 0
      have fr1 := r.frozen 1
      have fr2 := r.frozen 2
      have zr := r.lt
      have F := fin3 (p := w.heap.size + 1) (a := .int .i64 0) (b := .int .i64 0) (c := .slice none 0 0) (Own.nil w1 w.heap.size) (by simp [Value.ownBlock]) HB.out (by omega)
      go_wp2_with (first | (go_at_call 28; (with_reducible refine (areColors_any _ _ _ B' cs _ Q).mono ?_); rintro e w' ⟨rfl, rfl⟩) | (go_at_call 24; (with_reducible refine (knotsAround_any m k _ m2 m8 k2 k8).mono ?_); rintro e w' ⟨rfl, rfl⟩))
      exact bodyPost_ret (v := .tuple #[.agg #[.int .i64 0, .int .i64 0, .slice none 0 0], .bool false]) (by simp [results, Try.results9, go_sem, er0, er1, er2]) rfl ⟨none, 0, rfl, F.1, F.2⟩
set_option maxRecDepth 100000 in
set_option maxHeartbeats 2000000 in
theorem specPutRing_any (W H : Int) (A : Option Addr) (n c B : Nat) (xs : List Int) (A' : Option Addr) (n' c' B' : Nat) (cs : List Int) (w : World) (hR : Rd w B A n c xs) (hR' : Rd w B' A' n' c' cs) (hB : B ≤ w.heap.size) (hB' : B' ≤ w.heap.size) :
    Calls Try.prog 14 #[chartV W H (.slice A n c), .slice A' n' c'] w (OutChart w (orZero (putOk8 W H xs cs) W) (orZero (putOk8 W H xs cs) H) (putX8 W H xs cs) (putOk8 W H xs cs)) := by
  obtain rfl := hR'.len
  have hcn := hR'.len_lt
  cases hp : putOk8 W H xs cs with
  | true =>
    rw [putX8, if_pos hp]
    obtain ⟨hg, hca, hlen⟩ := putOk8_yes hp
    obtain ⟨m, k, rfl, rfl, m2, m8, k2, k8, hl, _, h64, hl1⟩ := hasRing_nat hg
    simp only [Int.toNat_natCast] at hlen ⊢
    have hN := ringN_bd m2 m8 k2 k8
    obtain rfl := hR.len
    obtain ⟨b, off, rfl, _, _⟩ := hR.cells (by omega)
    obtain ⟨b', off', rfl, _, _⟩ := hR'.cells (by omega)
    have HLEN := Lib.hid hlen
    have hle : ((cs.length : Int) != (ringN m k : Int)) = false := by rw [hlen]; simp
    clear hlen hp
    have HB := Lib.hid (((Below.refl w.heap.size w).alloc (by first | (simp; done) | (simp; omega) | omega) (.cells #[.int .i64 m, .int .i64 k, .slice (some ⟨b, off, none⟩) xs.length c] 26)).alloc (by first | (simp; done) | (simp; omega) | omega) (.cells #[.int .i64 0, .int .i64 0, .slice none 0 0] 26))
    have R := (((hR)).alloc (hB) (.cells #[.int .i64 m, .int .i64 k, .slice (some ⟨b, off, none⟩) xs.length c] 26)).alloc ((by first | (simp; done) | (simp; omega) | omega)) (.cells #[.int .i64 0, .int .i64 0, .slice none 0 0] 26)
    have Q := (((hR')).alloc (hB') (.cells #[.int .i64 m, .int .i64 k, .slice (some ⟨b, off, none⟩) xs.length c] 26)).alloc ((by first | (simp; done) | (simp; omega) | omega)) (.cells #[.int .i64 0, .int .i64 0, .slice none 0 0] 26)
    have x := ((Blk.new w #[.int .i64 m, .int .i64 k, .slice (some ⟨b, off, none⟩) xs.length c] 26).alloc (.cells #[.int .i64 0, .int .i64 0, .slice none 0 0] 26)).at_ (q := w.heap.size) (by simp)
    have r := (Blk.new (w.alloc (.cells #[.int .i64 m, .int .i64 k, .slice (some ⟨b, off, none⟩) xs.length c] 26)) #[.int .i64 0, .int .i64 0, .slice none 0 0] 26).at_ (q := w.heap.size + 1) (by simp)
    have hsz : w.heap.size + 2 ≤ ((w.alloc (.cells #[.int .i64 m, .int .i64 k, .slice (some ⟨b, off, none⟩) xs.length c] 26)).alloc (.cells #[.int .i64 0, .int .i64 0, .slice none 0 0] 26)).heap.size := by simp
    clear hR hR'
    go_enter Try.func14, Try.ntmps14
    go_wp2_with fail
    obtain ⟨W0, hW0⟩ : ∃ v, ((w.alloc (.cells #[.int .i64 m, .int .i64 k, .slice (some ⟨b, off, none⟩) xs.length c] 26)).alloc (.cells #[.int .i64 0, .int .i64 0, .slice none 0 0] 26)) = v := ⟨_, rfl⟩
    rw [hW0] at HB hsz R Q x r ⊢
    clear hW0
    have ex0 := x.cell 0
    have ex1 := x.cell 1
    have ex2 := x.cell 2
    have zx := x.lt
    have er0 := r.cell 0
    have er1 := r.cell 1
    have er2 := r.cell 2
    have zr := r.lt
    go_wp2_with fail
    refine (l8Good_any m k _ _ c B xs _ R (Nat.le_trans hB (by omega))).mono ?_
    rintro e w1 ⟨rfl, hb⟩
    clear ex0 ex1 ex2 zx er0 er1 er2 zr
    replace x := x.all hb
    replace r := r.all hb
    replace R := R.all hb (Nat.le_trans (hB) (by omega))
    replace Q := Q.all hb (Nat.le_trans (hB') (by omega))
    replace HB := Lib.hid (HB.out.trans (hb.mono (by omega)))
    replace hsz := Nat.le_trans hsz hb.size
    clear hb
    rw [hg]
    have ex0 := x.cell 0
    have ex1 := x.cell 1
    have ex2 := x.cell 2
    have zx := x.lt
    have er0 := r.cell 0
    have er1 := r.cell 1
    have er2 := r.cell 2
    have zr := r.lt
    go_wp2_with (first | (go_at_call 38; (with_reducible refine (l8Colors_any _ _ _ B' cs _ Q).mono ?_); rintro e w' ⟨rfl, rfl⟩) | (go_at_call 35; (with_reducible refine (l8Length_any m k _ m2 m8 k2 k8).mono ?_); rintro e w' ⟨rfl, rfl⟩))
    refine (l8Put_any m k b off c B b' off' c' B' xs cs _ R Q (Nat.le_trans hB (by omega)) (Nat.le_trans hB' (by omega)) m2 m8 k2 k8 hl (by rw [HLEN.out]; omega)).mono ?_
    rintro e w2 ⟨A2, c2, rfl, own, hb⟩
    clear ex0 ex1 ex2 zx er0 er1 er2 zr
    replace x := x.all hb
    replace r := r.all hb
    replace R := R.all hb (Nat.le_trans (hB) (by omega))
    replace Q := Q.all hb (Nat.le_trans (hB') (by omega))
    have O := own.mono (show w.heap.size ≤ _ by omega)
    clear own
    replace HB := Lib.hid (HB.out.trans (hb.mono (by omega)))
    replace hsz := Nat.le_trans hsz hb.size
    clear hb
    have ex0 := x.cell 0
    have ex1 := x.cell 1
    have ex2 := x.cell 2
    have zx := x.lt
    have er0 := r.cell 0
    have er1 := r.cell 1
    have er2 := r.cell 2
    have fr0 := r.frozen 0
    have fr1 := r.frozen 1
    have fr2 := r.frozen 2
    have zr := r.lt
    have F := fin3 (p := w.heap.size + 1) (a := .int .i64 m) (b := .int .i64 k) (c := .slice A2 (putRing m k xs cs).length c2) O (row_ne' O.1 r (by decide)) HB.out (by omega)
    go_wp2_with fail
    exact bodyPost_ret (v := .tuple #[.agg #[.int .i64 m, .int .i64 k, .slice A2 (putRing m k xs cs).length c2], .bool true]) (by simp [results, Try.results14, go_sem, er0, er1, er2]) rfl ⟨_, c2, rfl, F.1, F.2⟩
  | false =>
    rw [putX8, if_neg (by rw [hp]; decide)]
    rcases putOk8_no hp with hg | ⟨hg, hca⟩ | ⟨hg, hca, hlen⟩
    · clear hp
      have HB := Lib.hid (((Below.refl w.heap.size w).alloc (by first | (simp; done) | (simp; omega) | omega) (.cells #[.int .i64 W, .int .i64 H, .slice A n c] 26)).alloc (by first | (simp; done) | (simp; omega) | omega) (.cells #[.int .i64 0, .int .i64 0, .slice none 0 0] 26))
      have R := (((hR)).alloc (hB) (.cells #[.int .i64 W, .int .i64 H, .slice A n c] 26)).alloc ((by first | (simp; done) | (simp; omega) | omega)) (.cells #[.int .i64 0, .int .i64 0, .slice none 0 0] 26)
      have Q := (((hR')).alloc (hB') (.cells #[.int .i64 W, .int .i64 H, .slice A n c] 26)).alloc ((by first | (simp; done) | (simp; omega) | omega)) (.cells #[.int .i64 0, .int .i64 0, .slice none 0 0] 26)
      have x := ((Blk.new w #[.int .i64 W, .int .i64 H, .slice A n c] 26).alloc (.cells #[.int .i64 0, .int .i64 0, .slice none 0 0] 26)).at_ (q := w.heap.size) (by simp)
      have r := (Blk.new (w.alloc (.cells #[.int .i64 W, .int .i64 H, .slice A n c] 26)) #[.int .i64 0, .int .i64 0, .slice none 0 0] 26).at_ (q := w.heap.size + 1) (by simp)
      have hsz : w.heap.size + 2 ≤ ((w.alloc (.cells #[.int .i64 W, .int .i64 H, .slice A n c] 26)).alloc (.cells #[.int .i64 0, .int .i64 0, .slice none 0 0] 26)).heap.size := by simp
      clear hR hR'
      go_enter Try.func14, Try.ntmps14
      go_wp2_with fail
      obtain ⟨W0, hW0⟩ : ∃ v, ((w.alloc (.cells #[.int .i64 W, .int .i64 H, .slice A n c] 26)).alloc (.cells #[.int .i64 0, .int .i64 0, .slice none 0 0] 26)) = v := ⟨_, rfl⟩
      rw [hW0] at HB hsz R Q x r ⊢
      clear hW0
      have ex0 := x.cell 0
      have ex1 := x.cell 1
      have ex2 := x.cell 2
      have zx := x.lt
      have er0 := r.cell 0
      have er1 := r.cell 1
      have er2 := r.cell 2
      have zr := r.lt
      go_wp2_with fail
      refine (l8Good_any W H A n c B xs _ R (Nat.le_trans hB (by omega))).mono ?_
      rintro e w1 ⟨rfl, hb⟩
      clear ex0 ex1 ex2 zx er0 er1 er2 zr
      replace x := x.all hb
      replace r := r.all hb
      replace R := R.all hb (Nat.le_trans (hB) (by omega))
      replace Q := Q.all hb (Nat.le_trans (hB') (by omega))
      replace HB := Lib.hid (HB.out.trans (hb.mono (by omega)))
      replace hsz := Nat.le_trans hsz hb.size
      clear hb
      rw [hg]
      have ex0 := x.cell 0
      have ex1 := x.cell 1
      have ex2 := x.cell 2
      have zx := x.lt
      have er0 := r.cell 0
      have er1 := r.cell 1
      have er2 := r.cell 2
      have fr0 := r.frozen 0
      have fr1 := r.frozen 1
      have fr2 := r.frozen 2
      have zr := r.lt
      have F := fin3 (p := w.heap.size + 1) (a := .int .i64 0) (b := .int .i64 0) (c := .slice none 0 0) (Own.nil w1 w.heap.size) (by simp [Value.ownBlock]) HB.out (by omega)
      go_wp2_with fail
      exact bodyPost_ret (v := .tuple #[.agg #[.int .i64 0, .int .i64 0, .slice none 0 0], .bool false]) (by simp [results, Try.results14, go_sem, er0, er1, er2]) rfl ⟨none, 0, rfl, F.1, F.2⟩
    · clear hp
      obtain ⟨m, k, rfl, rfl, m2, m8, k2, k8, hl, _, h64, hl1⟩ := hasRing_nat hg
      have HB := Lib.hid (((Below.refl w.heap.size w).alloc (by first | (simp; done) | (simp; omega) | omega) (.cells #[.int .i64 m, .int .i64 k, .slice A n c] 26)).alloc (by first | (simp; done) | (simp; omega) | omega) (.cells #[.int .i64 0, .int .i64 0, .slice none 0 0] 26))
      have R := (((hR)).alloc (hB) (.cells #[.int .i64 m, .int .i64 k, .slice A n c] 26)).alloc ((by first | (simp; done) | (simp; omega) | omega)) (.cells #[.int .i64 0, .int .i64 0, .slice none 0 0] 26)
      have Q := (((hR')).alloc (hB') (.cells #[.int .i64 m, .int .i64 k, .slice A n c] 26)).alloc ((by first | (simp; done) | (simp; omega) | omega)) (.cells #[.int .i64 0, .int .i64 0, .slice none 0 0] 26)
      have x := ((Blk.new w #[.int .i64 m, .int .i64 k, .slice A n c] 26).alloc (.cells #[.int .i64 0, .int .i64 0, .slice none 0 0] 26)).at_ (q := w.heap.size) (by simp)
      have r := (Blk.new (w.alloc (.cells #[.int .i64 m, .int .i64 k, .slice A n c] 26)) #[.int .i64 0, .int .i64 0, .slice none 0 0] 26).at_ (q := w.heap.size + 1) (by simp)
      have hsz : w.heap.size + 2 ≤ ((w.alloc (.cells #[.int .i64 m, .int .i64 k, .slice A n c] 26)).alloc (.cells #[.int .i64 0, .int .i64 0, .slice none 0 0] 26)).heap.size := by simp
      clear hR hR'
      go_enter Try.func14, Try.ntmps14
      go_wp2_with fail
      obtain ⟨W0, hW0⟩ : ∃ v, ((w.alloc (.cells #[.int .i64 m, .int .i64 k, .slice A n c] 26)).alloc (.cells #[.int .i64 0, .int .i64 0, .slice none 0 0] 26)) = v := ⟨_, rfl⟩
      rw [hW0] at HB hsz R Q x r ⊢
      clear hW0
      have ex0 := x.cell 0
      have ex1 := x.cell 1
      have ex2 := x.cell 2
      have zx := x.lt
      have er0 := r.cell 0
      have er1 := r.cell 1
      have er2 := r.cell 2
      have zr := r.lt
      go_wp2_with fail
      refine (l8Good_any m k A n c B xs _ R (Nat.le_trans hB (by omega))).mono ?_
      rintro e w1 ⟨rfl, hb⟩
      clear ex0 ex1 ex2 zx er0 er1 er2 zr
      replace x := x.all hb
      replace r := r.all hb
      replace R := R.all hb (Nat.le_trans (hB) (by omega))
      replace Q := Q.all hb (Nat.le_trans (hB') (by omega))
      replace HB := Lib.hid (HB.out.trans (hb.mono (by omega)))
      replace hsz := Nat.le_trans hsz hb.size
      clear hb
      rw [hg]
      cases hle : ((cs.length : Int) != (ringN m k : Int)) <;> skip
      all_goals
        have ex0 := x.cell 0
        have ex1 := x.cell 1
        have ex2 := x.cell 2
        have zx := x.lt
        have er0 := r.cell 0
        have er1 := r.cell 1
        have er2 := r.cell 2
        have fr0 := r.frozen 0
        have fr1 := r.frozen 1
        have fr2 := r.frozen 2
        have zr := r.lt
        have F := fin3 (p := w.heap.size + 1) (a := .int .i64 0) (b := .int .i64 0) (c := .slice none 0 0) (Own.nil w1 w.heap.size) (by simp [Value.ownBlock]) HB.out (by omega)
        go_wp2_with (first | (go_at_call 38; (with_reducible refine (l8Colors_any _ _ _ B' cs _ Q).mono ?_); rintro e w' ⟨rfl, rfl⟩) | (go_at_call 35; (with_reducible refine (l8Length_any m k _ m2 m8 k2 k8).mono ?_); rintro e w' ⟨rfl, rfl⟩))
        exact bodyPost_ret (v := .tuple #[.agg #[.int .i64 0, .int .i64 0, .slice none 0 0], .bool false]) (by simp [results, Try.results14, go_sem, er0, er1, er2]) rfl ⟨none, 0, rfl, F.1, F.2⟩
    · clear hp
      obtain ⟨m, k, rfl, rfl, m2, m8, k2, k8, hl, _, h64, hl1⟩ := hasRing_nat hg
      simp only [Int.toNat_natCast] at hlen
      have hle : ((cs.length : Int) != (ringN m k : Int)) = true := by simp; omega
      clear hlen
      have HB := Lib.hid (((Below.refl w.heap.size w).alloc (by first | (simp; done) | (simp; omega) | omega) (.cells #[.int .i64 m, .int .i64 k, .slice A n c] 26)).alloc (by first | (simp; done) | (simp; omega) | omega) (.cells #[.int .i64 0, .int .i64 0, .slice none 0 0] 26))
      have R := (((hR)).alloc (hB) (.cells #[.int .i64 m, .int .i64 k, .slice A n c] 26)).alloc ((by first | (simp; done) | (simp; omega) | omega)) (.cells #[.int .i64 0, .int .i64 0, .slice none 0 0] 26)
      have Q := (((hR')).alloc (hB') (.cells #[.int .i64 m, .int .i64 k, .slice A n c] 26)).alloc ((by first | (simp; done) | (simp; omega) | omega)) (.cells #[.int .i64 0, .int .i64 0, .slice none 0 0] 26)
      have x := ((Blk.new w #[.int .i64 m, .int .i64 k, .slice A n c] 26).alloc (.cells #[.int .i64 0, .int .i64 0, .slice none 0 0] 26)).at_ (q := w.heap.size) (by simp)
      have r := (Blk.new (w.alloc (.cells #[.int .i64 m, .int .i64 k, .slice A n c] 26)) #[.int .i64 0, .int .i64 0, .slice none 0 0] 26).at_ (q := w.heap.size + 1) (by simp)
      have hsz : w.heap.size + 2 ≤ ((w.alloc (.cells #[.int .i64 m, .int .i64 k, .slice A n c] 26)).alloc (.cells #[.int .i64 0, .int .i64 0, .slice none 0 0] 26)).heap.size := by simp
      clear hR hR'
      go_enter Try.func14, Try.ntmps14
      go_wp2_with fail
      obtain ⟨W0, hW0⟩ : ∃ v, ((w.alloc (.cells #[.int .i64 m, .int .i64 k, .slice A n c] 26)).alloc (.cells #[.int .i64 0, .int .i64 0, .slice none 0 0] 26)) = v := ⟨_, rfl⟩
      rw [hW0] at HB hsz R Q x r ⊢
      clear hW0
      have ex0 := x.cell 0
      have ex1 := x.cell 1
      have ex2 := x.cell 2
      have zx := x.lt
      have er0 := r.cell 0
      have er1 := r.cell 1
      have er2 := r.cell 2
      have zr := r.lt
      go_wp2_with fail
      refine (l8Good_any m k A n c B xs _ R (Nat.le_trans hB (by omega))).mono ?_
      rintro e w1 ⟨rfl, hb⟩
      clear ex0 ex1 ex2 zx er0 er1 er2 zr
      replace x := x.all hb
      replace r := r.all hb
      replace R := R.all hb (Nat.le_trans (hB) (by omega))
      replace Q := Q.all hb (Nat.le_trans (hB') (by omega))
      replace HB := Lib.hid (HB.out.trans (hb.mono (by omega)))
      replace hsz := Nat.le_trans hsz hb.size
      clear hb
      rw [hg]
      have ex0 := x.cell 0
      have ex1 := x.cell 1
      have ex2 := x.cell 2
      have zx := x.lt
      have er0 := r.cell 0
      have er1 := r.cell 1
      have er2 := r.cell 2
      have fr0 := r.frozen 0
      have fr1 := r.frozen 1
      have fr2 := r.frozen 2
      have zr := r.lt
      have F := fin3 (p := w.heap.size + 1) (a := .int .i64 0) (b := .int .i64 0) (c := .slice none 0 0) (Own.nil w1 w.heap.size) (by simp [Value.ownBlock]) HB.out (by omega)
      go_wp2_with (first | (go_at_call 38; (with_reducible refine (l8Colors_any _ _ _ B' cs _ Q).mono ?_); rintro e w' ⟨rfl, rfl⟩) | (go_at_call 35; (with_reducible refine (l8Length_any m k _ m2 m8 k2 k8).mono ?_); rintro e w' ⟨rfl, rfl⟩))
      exact bodyPost_ret (v := .tuple #[.agg #[.int .i64 0, .int .i64 0, .slice none 0 0], .bool false]) (by simp [results, Try.results14, go_sem, er0, er1, er2]) rfl ⟨none, 0, rfl, F.1, F.2⟩

def meetOk (W H : Int) (xs ps : List Int) : Bool := hasRingB W H xs && patB ps
def meetV (W H : Int) (xs ps : List Int) : Bool := meetOk W H xs ps && decide (ringN W.toNat H.toNat % ps.length = 0)
theorem meet_rem {a b : Nat} : (Int.tmod (a : Int) (b : Int) == 0) = decide (a % b = 0) := by
  rw [show Int.tmod (a : Int) (b : Int) = ((a % b : Nat) : Int) from rfl]
  generalize a % b = r
  cases r <;> rfl
end Go.Proofs.Ytmaiakaeiokikaa
