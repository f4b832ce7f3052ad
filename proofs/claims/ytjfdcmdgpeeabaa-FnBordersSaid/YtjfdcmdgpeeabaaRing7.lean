/- The walks of AddBorder, the program's and the model's. No condition. -/
import Derived.Test.YtjfdcmdgpeeabaaRing5
import Derived.Test.YtjfdcmdgpeeabaaBlank
import Derived.Test.YtjfdcmdgpeeabaaPlain
import Derived.Test.YtjfdcmdgpeeabaaPut
import Derived.Test.YtjfdcmdgpeeabaaPutSpec
import Derived.Deep.CutRange
namespace Go.Proofs.Ytjfdcmdgpeeabaa
open Go.RowKit

/-- A border may be added. -/
def addSides (W H : Int) : Bool := isSideB (W + 2) && isSideB (H + 2)
def addOk (W H : Int) (xs ps : List Int) : Bool := goodB W H xs && patB ps && addSides W H && decide (ringN (W.toNat + 2) (H.toNat + 2) % ps.length = 0)
/-- The chart in the middle of a plain one. -/
def midL (m k : Nat) (xs : List Int) (q : Int) : List Int := putL (m + 2) (k + 2) m k (List.replicate ((m + 2) * (k + 2)) q) xs 1 1
def addL (m k : Nat) (xs ps : List Int) : List Int := putRing (m + 2) (k + 2) (midL m k xs 0) ps
def addX (W H : Int) (xs ps : List Int) : List Int := if addOk W H xs ps = true then addL W.toNat H.toNat xs ps else []
theorem midL_len (m k : Nat) (xs : List Int) (q : Int) : (midL m k xs q).length = (m + 2) * (k + 2) := by rw [midL, putL_len, Nat.mul_comm]
theorem addL_len (m k : Nat) (xs ps : List Int) : (addL m k xs ps).length = (m + 2) * (k + 2) := by rw [addL, putRing_len, midL_len]
theorem midL_in {m k i j : Nat} {xs : List Int} {q : Int} (hi : i < k) (hj : j < m) : (midL m k xs q).getD ((i + 1) * (m + 2) + (j + 1)) 0 = elt m xs i j := by
  rw [midL, putL, gridL_get (by omega) (by omega), putE, if_pos (by omega), Nat.add_sub_cancel, Nat.add_sub_cancel]
/-- What the plain chart's color was does not show. -/
theorem mid_color {m k : Nat} {xs ps : List Int} (q : Int) (m8 : m + 2 ≤ 8) (k8 : k + 2 ≤ 8) (m1 : 1 ≤ m) (k1 : 1 ≤ k) : putRing (m + 2) (k + 2) (midL m k xs q) ps = addL m k xs ps := by
  refine putRing_agree (by omega) (by omega) (by rw [midL_len, midL_len]) fun z hz => ?_
  by_cases hlt : z < (k + 2) * (m + 2)
  · obtain ⟨h1, h2, h3⟩ := place_of hlt
    rw [h3, inner_iff (by omega) m8 (by omega) k8 h1 h2] at hz
    simp only [Classical.not_not] at hz
    obtain ⟨a1, a2, a3, a4⟩ := hz
    have e1 : z / (m + 2) = (z / (m + 2) - 1) + 1 := by omega
    have e2 : z % (m + 2) = (z % (m + 2) - 1) + 1 := by omega
    rw [h3, e1, e2, midL_in (by omega) (by omega), midL_in (by omega) (by omega)]
  · rw [List.getD_eq_getElem?_getD, List.getD_eq_getElem?_getD, List.getElem?_eq_none (by rw [midL_len, Nat.mul_comm]; omega), List.getElem?_eq_none (by rw [midL_len, Nat.mul_comm]; omega)]
theorem addX_len (W H : Int) (xs ps : List Int) : (addX W H xs ps).length ≤ 1048576 := by
  unfold addX
  split
  · rename_i h
    simp only [addOk, addSides, Bool.and_eq_true] at h
    obtain ⟨m, k, rfl, rfl, _, m8, _, k8, _⟩ := good_nat h.1.1.1
    rw [addL_len]
    simp only [Int.toNat_natCast]
    have : (m + 2) * (k + 2) ≤ 10 * 10 := Nat.mul_le_mul (by omega) (by omega)
    omega
  · simp
/-- How it can fail. -/
theorem add_cases {W H : Int} {xs ps : List Int} : goodB W H xs = false ∨ (∃ m k : Nat, W = m ∧ H = k ∧ goodB m k xs = true ∧ 1 ≤ m ∧ m ≤ 8 ∧ 1 ≤ k ∧ k ≤ 8 ∧ Hid (xs.length = m * k) ∧ xs.length ≤ 64 ∧ 1 ≤ xs.length ∧
    (patB ps = false ∨ (patB ps = true ∧ 1 ≤ ps.length ∧ ps.length ≤ 8 ∧ ps.all isColorB = true ∧ ((addSides m k = false) ∨ (addSides m k = true ∧ m + 2 ≤ 8 ∧ k + 2 ≤ 8))))) := by
  cases hg : goodB W H xs with
  | false => exact .inl rfl
  | true =>
    obtain ⟨m, k, rfl, rfl, m1, m8, k1, k8, hl, h64, hl1, _⟩ := good_nat hg
    refine .inr ⟨m, k, rfl, rfl, hg, m1, m8, k1, k8, hl, h64, hl1, ?_⟩
    cases hp : patB ps with
    | false => exact .inl rfl
    | true =>
      obtain ⟨p1, p8, pc⟩ := patB_yes hp
      refine .inr ⟨rfl, p1, p8, pc, ?_⟩
      cases ha : addSides m k with
      | false => exact .inl rfl
      | true =>
        simp only [addSides, Bool.and_eq_true] at ha
        have h1 := isSideB_yes ha.1
        have h2 := isSideB_yes ha.2
        exact .inr ⟨rfl, by omega, by omega⟩
theorem addSides_no {m k : Nat} (h : addSides m k = false) (M K : Nat) (hM : M = m + 2) (hK : K = k + 2) : (isSideB (M : Int) && isSideB (K : Int)) = false := by
  subst hM; subst hK
  simpa [addSides] using h
theorem side_of {n : Nat} (h1 : 1 ≤ n) (h8 : n ≤ 8) : isSideB (n : Int) = true := by simp [isSideB]; omega
theorem color0 {ps : List Int} (p1 : 1 ≤ ps.length) (h : ps.all isColorB = true) : isColorB (ps.getD 0 0) = true := by
  rw [List.all_eq_true] at h
  exact h _ (by rw [getD_at (by omega)]; exact List.getElem_mem _)
theorem good_plain {M K : Nat} {q : Int} (m1 : 1 ≤ M) (m8 : M ≤ 8) (k1 : 1 ≤ K) (k8 : K ≤ 8) (hq : isColorB q = true) : goodB M K (List.replicate (M * K) q) = true := by
  refine good_ok (side_of m1 m8) (side_of k1 k8) (by simp) ?_
  rw [List.all_eq_true]
  intro x hx
  rw [List.mem_replicate] at hx
  rw [hx.2]; exact hq
theorem put_mid {m k : Nat} {xs : List Int} {q : Int} (m1 : 1 ≤ m) (m8 : m + 2 ≤ 8) (k1 : 1 ≤ k) (k8 : k + 2 ≤ 8) (hg : goodB m k xs = true) (hq : isColorB q = true) (M K : Nat) (hM : M = m + 2) (hK : K = k + 2) :
    putOk M K (List.replicate (M * K) q) m k xs 1 1 = true ∧ putX M K (List.replicate (M * K) q) m k xs 1 1 = midL m k xs q := by
  have h : putOk M K (List.replicate (M * K) q) m k xs 1 1 = true := by
    unfold putOk withinB
    rw [good_plain (by omega) (by omega) (by omega) (by omega) hq, hg]
    simp; omega
  refine ⟨h, ?_⟩
  rw [putX, if_pos h]
  subst hM; subst hK
  rfl
theorem i64_1 : I64 1 := ⟨by omega, by omega⟩
theorem plain_letters {M K : Nat} {q : Int} (hq : isColorB q = true) (d : Bool) (hd : (isSideB (M : Int) && isSideB (K : Int)) = d) : plainOk M K q = d ∧ plainL M K q = (if d = true then List.replicate (M * K) q else []) := by
  have h : plainOk M K q = d := by unfold plainOk; rw [hd, hq, Bool.and_true]
  refine ⟨h, ?_⟩
  rw [plainL, h]
  rfl
theorem cel_of8 {w : World} {B b off n c : Nat} {xs : List Int} (h : Rd w B (some ⟨b, off, none⟩) n c xs) (hB : B ≤ w.heap.size) (hj : 0 < n) : ∃ x, Hid (xs.getD 0 0 = x) ∧ I64 x ∧ Cel w b off (.int .i64 x) := by
  obtain ⟨_, _, x, e, hb, hc, h1, h2, hx⟩ := h.at hj
  cases e
  exact ⟨x, hx, ⟨h1, h2⟩, by omega, hc⟩
theorem l2Put_11 (m kk pm pk b off cc B b' off' cc' B' : Nat) (xs ys : List Int) (w : World) (hR : Rd w B (some ⟨b, off, none⟩) xs.length cc xs) (hR' : Rd w B' (some ⟨b', off', none⟩) ys.length cc' ys) (hB : B ≤ w.heap.size) (hB' : B' ≤ w.heap.size)
    (m8 : m ≤ 8) (kk8 : kk ≤ 8) (pm1 : 1 ≤ pm) (hl : Hid (xs.length = m * kk)) (hl' : Hid (ys.length = pm * pk)) (h64 : m * kk ≤ 64) (h64' : pm * pk ≤ 64) (hl1 : 1 ≤ xs.length) (hr : 1 + pk ≤ kk) (hq : 1 + pm ≤ m) :
    Calls Try.prog 37 #[chartV m kk (.slice (some ⟨b, off, none⟩) xs.length cc), chartV pm pk (.slice (some ⟨b', off', none⟩) ys.length cc'), .int .i64 1, .int .i64 1] w (OwnChart w m kk (putL m kk pm pk xs ys 1 1)) :=
  l2Put_any m kk pm pk b off cc B b' off' cc' B' 1 1 xs ys w hR hR' hB hB' m8 kk8 pm1 hl hl' h64 h64' hl1 hr hq
set_option maxRecDepth 100000 in
set_option maxHeartbeats 8000000 in
theorem implAddBorder_any (W H : Int) (A : Option Addr) (n c B : Nat) (xs : List Int) (A' : Option Addr) (n' c' B' : Nat) (cs : List Int) (w : World) (hR : Rd w B A n c xs) (hR' : Rd w B' A' n' c' cs) (hB : B ≤ w.heap.size) (hB' : B' ≤ w.heap.size) :
    Calls Try.prog 6 #[chartV W H (.slice A n c), .slice A' n' c'] w (OutChart w (orZero (addOk W H xs cs) (W + 2)) (orZero (addOk W H xs cs) (H + 2)) (addX W H xs cs) (addOk W H xs cs)) := by
  obtain rfl := hR'.len
  have hcn := hR'.len_lt
  rcases add_cases (W := W) (H := H) (xs := xs) (ps := cs) with hg | ⟨m, k, rfl, rfl, hg, m1, m8, k1, k8, hl, h64, hl1, hp⟩
  · have hno : addOk W H xs cs = false := by simp [addOk, hg]
    rw [addX, hno]
    have HB := Lib.hid (((Below.refl w.heap.size w).alloc (by first | (simp; done) | (simp; omega) | omega) (.cells #[.int .i64 W, .int .i64 H, .slice A n c] 26)).alloc (by first | (simp; done) | (simp; omega) | omega) (.cells #[.int .i64 0, .int .i64 0, .slice none 0 0] 26))
    have R := (((hR)).alloc (hB) (.cells #[.int .i64 W, .int .i64 H, .slice A n c] 26)).alloc ((by first | (simp; done) | (simp; omega) | omega)) (.cells #[.int .i64 0, .int .i64 0, .slice none 0 0] 26)
    have Q := (((hR')).alloc (hB') (.cells #[.int .i64 W, .int .i64 H, .slice A n c] 26)).alloc ((by first | (simp; done) | (simp; omega) | omega)) (.cells #[.int .i64 0, .int .i64 0, .slice none 0 0] 26)
    have x := ((Blk.new w #[.int .i64 W, .int .i64 H, .slice A n c] 26).alloc (.cells #[.int .i64 0, .int .i64 0, .slice none 0 0] 26)).at_ (q := w.heap.size) (by simp)
    have r := (Blk.new (w.alloc (.cells #[.int .i64 W, .int .i64 H, .slice A n c] 26)) #[.int .i64 0, .int .i64 0, .slice none 0 0] 26).at_ (q := w.heap.size + 1) (by simp)
    have hsz : w.heap.size + 2 ≤ ((w.alloc (.cells #[.int .i64 W, .int .i64 H, .slice A n c] 26)).alloc (.cells #[.int .i64 0, .int .i64 0, .slice none 0 0] 26)).heap.size := by simp
    clear hR hR'
    go_enter Try.func6, Try.ntmps6
    go_wp2_with fail
    obtain ⟨W0, hW0⟩ : ∃ v, ((w.alloc (.cells #[.int .i64 W, .int .i64 H, .slice A n c] 26)).alloc (.cells #[.int .i64 0, .int .i64 0, .slice none 0 0] 26)) = v := ⟨_, rfl⟩
    rw [hW0] at HB hsz R Q x r ⊢
    clear hW0
    have ex0 := x.cell 0
    have ex1 := x.cell 1
    have ex2 := x.cell 2
    have zx := x.lt
    have er0 := r.cell 0
    have er1 := r.cell 1
    have er2 := r.cell 2
    have zr := r.lt
    go_wp2_with fail
    refine (implIsChart_any W H A n c B xs _ R (Nat.le_trans hB (by omega))).mono ?_
    rintro e w1 ⟨rfl, hb⟩
    clear ex0 ex1 ex2 zx er0 er1 er2 zr
    replace x := x.all hb
    replace r := r.all hb
    replace R := R.all hb (Nat.le_trans (hB) (by omega))
    replace Q := Q.all hb (Nat.le_trans (hB') (by omega))
    replace HB := Lib.hid (HB.out.trans (hb.mono (by omega)))
    replace hsz := Nat.le_trans hsz hb.size
    clear hb
    rw [hg]
    have ex0 := x.cell 0
    have ex1 := x.cell 1
    have ex2 := x.cell 2
    have zx := x.lt
    have er0 := r.cell 0
    have er1 := r.cell 1
    have er2 := r.cell 2
    have fr0 := r.frozen 0
    have fr1 := r.frozen 1
    have fr2 := r.frozen 2
    have zr := r.lt
    have F := fin3 (p := w.heap.size + 1) (a := .int .i64 0) (b := .int .i64 0) (c := .slice none 0 0) (Own.nil w1 w.heap.size) (by simp [Value.ownBlock]) HB.out (by omega)
    go_wp2_with fail
    exact bodyPost_ret (v := .tuple #[.agg #[.int .i64 0, .int .i64 0, .slice none 0 0], .bool false]) (by simp [results, Try.results6, go_sem, er0, er1, er2]) rfl ⟨none, 0, rfl, F.1, F.2⟩
  · rcases hp with hp | ⟨hp, p1, p8, pc, hs⟩
    · have hno : addOk m k xs cs = false := by simp [addOk, hp]
      rw [addX, hno]
      have HB := Lib.hid (((Below.refl w.heap.size w).alloc (by first | (simp; done) | (simp; omega) | omega) (.cells #[.int .i64 m, .int .i64 k, .slice A n c] 26)).alloc (by first | (simp; done) | (simp; omega) | omega) (.cells #[.int .i64 0, .int .i64 0, .slice none 0 0] 26))
      have R := (((hR)).alloc (hB) (.cells #[.int .i64 m, .int .i64 k, .slice A n c] 26)).alloc ((by first | (simp; done) | (simp; omega) | omega)) (.cells #[.int .i64 0, .int .i64 0, .slice none 0 0] 26)
      have Q := (((hR')).alloc (hB') (.cells #[.int .i64 m, .int .i64 k, .slice A n c] 26)).alloc ((by first | (simp; done) | (simp; omega) | omega)) (.cells #[.int .i64 0, .int .i64 0, .slice none 0 0] 26)
      have x := ((Blk.new w #[.int .i64 m, .int .i64 k, .slice A n c] 26).alloc (.cells #[.int .i64 0, .int .i64 0, .slice none 0 0] 26)).at_ (q := w.heap.size) (by simp)
      have r := (Blk.new (w.alloc (.cells #[.int .i64 m, .int .i64 k, .slice A n c] 26)) #[.int .i64 0, .int .i64 0, .slice none 0 0] 26).at_ (q := w.heap.size + 1) (by simp)
      have hsz : w.heap.size + 2 ≤ ((w.alloc (.cells #[.int .i64 m, .int .i64 k, .slice A n c] 26)).alloc (.cells #[.int .i64 0, .int .i64 0, .slice none 0 0] 26)).heap.size := by simp
      clear hR hR'
      go_enter Try.func6, Try.ntmps6
      go_wp2_with fail
      obtain ⟨W0, hW0⟩ : ∃ v, ((w.alloc (.cells #[.int .i64 m, .int .i64 k, .slice A n c] 26)).alloc (.cells #[.int .i64 0, .int .i64 0, .slice none 0 0] 26)) = v := ⟨_, rfl⟩
      rw [hW0] at HB hsz R Q x r ⊢
      clear hW0
      have ex0 := x.cell 0
      have ex1 := x.cell 1
      have ex2 := x.cell 2
      have zx := x.lt
      have er0 := r.cell 0
      have er1 := r.cell 1
      have er2 := r.cell 2
      have zr := r.lt
      go_wp2_with fail
      refine (implIsChart_any m k A n c B xs _ R (Nat.le_trans hB (by omega))).mono ?_
      rintro e w1 ⟨rfl, hb⟩
      clear ex0 ex1 ex2 zx er0 er1 er2 zr
      replace x := x.all hb
      replace r := r.all hb
      replace R := R.all hb (Nat.le_trans (hB) (by omega))
      replace Q := Q.all hb (Nat.le_trans (hB') (by omega))
      replace HB := Lib.hid (HB.out.trans (hb.mono (by omega)))
      replace hsz := Nat.le_trans hsz hb.size
      clear hb
      rw [hg]
      have ex0 := x.cell 0
      have ex1 := x.cell 1
      have ex2 := x.cell 2
      have zx := x.lt
      have er0 := r.cell 0
      have er1 := r.cell 1
      have er2 := r.cell 2
      have fr0 := r.frozen 0
      have fr1 := r.frozen 1
      have fr2 := r.frozen 2
      have zr := r.lt
      have F := fin3 (p := w.heap.size + 1) (a := .int .i64 0) (b := .int .i64 0) (c := .slice none 0 0) (Own.nil w1 w.heap.size) (by simp [Value.ownBlock]) HB.out (by omega)
      go_wp2_with (go_at_call 27; (with_reducible refine (isPattern_any _ _ _ B' cs _ Q).mono ?_); rintro e w' ⟨rfl, rfl⟩)
      exact bodyPost_ret (v := .tuple #[.agg #[.int .i64 0, .int .i64 0, .slice none 0 0], .bool false]) (by simp [results, Try.results6, go_sem, er0, er1, er2]) rfl ⟨none, 0, rfl, F.1, F.2⟩
    · obtain rfl := hR.len
      obtain ⟨b, off, rfl, hbB, _⟩ := hR.cells (by omega)
      obtain ⟨b', off', rfl, hbB', _⟩ := hR'.cells (by omega)
      obtain ⟨M, hM⟩ : ∃ M : Nat, M = m + 2 := ⟨_, rfl⟩
      obtain ⟨K, hK⟩ : ∃ M : Nat, M = k + 2 := ⟨_, rfl⟩
      have hw1 : IntKind.i64.wrap ((m : Int) + 2) = (M : Int) := by rw [show (m : Int) + 2 = (M : Int) by omega]; exact IntWalk.i64_in _ (by omega)
      have hw2 : IntKind.i64.wrap ((k : Int) + 2) = (K : Int) := by rw [show (k : Int) + 2 = (K : Int) by omega]; exact IntWalk.i64_in _ (by omega)
      have hMi : (m : Int) + 2 = (M : Int) := by omega
      have hKi : (k : Int) + 2 = (K : Int) := by omega
      have HM := Lib.hid hM
      have HK := Lib.hid hK
      obtain ⟨d, hd⟩ : ∃ d, (isSideB (M : Int) && isSideB (K : Int)) = d := ⟨_, rfl⟩
      have HD := Lib.hid hd
      have hdd : addSides m k = d := by rw [← hd, addSides, hMi, hKi]
      rw [hMi, hKi]
      have HMI := Lib.hid hMi
      have HKI := Lib.hid hKi
      clear hMi hKi hM hK hd
      obtain ⟨p0, HP0, ip0, CP⟩ := cel_of8 hR' hB' (show 0 < cs.length by omega)
      have hpc0 : isColorB p0 = true := by rw [← HP0.out]; exact color0 p1 pc
      obtain ⟨hpl1, hpl2⟩ := plain_letters (M := M) (K := K) hpc0 d HD.out
      have HPL := Lib.hid (implPlainChart_any M K p0)
      rw [hpl1, hpl2] at HPL
      obtain ⟨L, hL⟩ : ∃ L, (if d = true then List.replicate (M * K) p0 else []) = L := ⟨_, rfl⟩
      rw [hL] at HPL
      obtain ⟨oM, hoM⟩ : ∃ x, orZero d (M : Int) = x := ⟨_, rfl⟩
      obtain ⟨oK, hoK⟩ : ∃ x, orZero d (K : Int) = x := ⟨_, rfl⟩
      rw [hoM, hoK] at HPL
      have HOM := Lib.hid hoM
      have HOK := Lib.hid hoK
      clear hoM hoK
      have hcp : 0 < cs.length := by omega
      clear hpl1 hpl2
      replace CP := CP.alloc (.cells #[.int .i64 m, .int .i64 k, .slice (some ⟨b, off, none⟩) xs.length c] 26)
      replace CP := CP.alloc (.cells #[.int .i64 0, .int .i64 0, .slice none 0 0] 26)
      have HB := Lib.hid (((Below.refl w.heap.size w).alloc (by first | (simp; done) | (simp; omega) | omega) (.cells #[.int .i64 m, .int .i64 k, .slice (some ⟨b, off, none⟩) xs.length c] 26)).alloc (by first | (simp; done) | (simp; omega) | omega) (.cells #[.int .i64 0, .int .i64 0, .slice none 0 0] 26))
      have R := (((hR)).alloc (hB) (.cells #[.int .i64 m, .int .i64 k, .slice (some ⟨b, off, none⟩) xs.length c] 26)).alloc ((by first | (simp; done) | (simp; omega) | omega)) (.cells #[.int .i64 0, .int .i64 0, .slice none 0 0] 26)
      have Q := (((hR')).alloc (hB') (.cells #[.int .i64 m, .int .i64 k, .slice (some ⟨b, off, none⟩) xs.length c] 26)).alloc ((by first | (simp; done) | (simp; omega) | omega)) (.cells #[.int .i64 0, .int .i64 0, .slice none 0 0] 26)
      have x := ((Blk.new w #[.int .i64 m, .int .i64 k, .slice (some ⟨b, off, none⟩) xs.length c] 26).alloc (.cells #[.int .i64 0, .int .i64 0, .slice none 0 0] 26)).at_ (q := w.heap.size) (by simp)
      have r := (Blk.new (w.alloc (.cells #[.int .i64 m, .int .i64 k, .slice (some ⟨b, off, none⟩) xs.length c] 26)) #[.int .i64 0, .int .i64 0, .slice none 0 0] 26).at_ (q := w.heap.size + 1) (by simp)
      have hsz : w.heap.size + 2 ≤ ((w.alloc (.cells #[.int .i64 m, .int .i64 k, .slice (some ⟨b, off, none⟩) xs.length c] 26)).alloc (.cells #[.int .i64 0, .int .i64 0, .slice none 0 0] 26)).heap.size := by simp
      clear hR hR'
      go_enter Try.func6, Try.ntmps6
      go_wp2_with fail
      obtain ⟨W0, hW0⟩ : ∃ v, ((w.alloc (.cells #[.int .i64 m, .int .i64 k, .slice (some ⟨b, off, none⟩) xs.length c] 26)).alloc (.cells #[.int .i64 0, .int .i64 0, .slice none 0 0] 26)) = v := ⟨_, rfl⟩
      rw [hW0] at HB hsz CP R Q x r ⊢
      clear hW0
      have ex0 := x.cell 0
      have ex1 := x.cell 1
      have ex2 := x.cell 2
      have zx := x.lt
      have er0 := r.cell 0
      have er1 := r.cell 1
      have er2 := r.cell 2
      have zr := r.lt
      go_wp2_with fail
      refine (implIsChart_any m k _ _ c B xs _ R (Nat.le_trans hB (by omega))).mono ?_
      rintro e w1 ⟨rfl, hb⟩
      clear ex0 ex1 ex2 zx er0 er1 er2 zr
      replace CP := CP.all hb
      replace x := x.all hb
      replace r := r.all hb
      replace R := R.all hb (Nat.le_trans (hB) (by omega))
      replace Q := Q.all hb (Nat.le_trans (hB') (by omega))
      replace HB := Lib.hid (HB.out.trans (hb.mono (by omega)))
      replace hsz := Nat.le_trans hsz hb.size
      clear hb
      rw [hg]
      have ex0 := x.cell 0
      have ex1 := x.cell 1
      have ex2 := x.cell 2
      have zx := x.lt
      have er0 := r.cell 0
      have er1 := r.cell 1
      have er2 := r.cell 2
      have zr := r.lt
      have hcB : b' < w1.heap.size := CP.1
      have cp := CP.2
      have HH := HB.out
      go_wp2_with (go_at_call 27; (with_reducible refine (isPattern_any _ _ _ B' cs _ Q).mono ?_); rintro e w' ⟨rfl, rfl⟩)
      go_cut [6, 7] from 6 to 29 (fun s6 s7 wx => ∃ (q : Nat) (A1 : Option Addr) (c1 : Nat), s6 = .pointer (some ⟨q, 0, none⟩) ∧ s7 = .bool d ∧ w.heap.size ≤ q ∧ w.heap.size < q ∧ w.heap.size + 1 < q ∧ Own wx w.heap.size (.slice A1 L.length c1) L ∧ Blk wx w.heap.size 26 #[.int .i64 m, .int .i64 k, .slice (some ⟨b, off, none⟩) xs.length c] ∧ Blk wx (w.heap.size + 1) 26 #[.int .i64 0, .int .i64 0, .slice none 0 0] ∧ Rd wx B (some ⟨b, off, none⟩) xs.length c xs ∧ Rd wx B' (some ⟨b', off', none⟩) cs.length c' cs ∧ Blk wx q 26 #[.int .i64 oM, .int .i64 oK, .slice A1 L.length c1] ∧ Below w.heap.size w wx)
      case first =>
        refine' (fun (key0 : Bool → (_ : Prop)) => ?main) ?key0
        case main =>
          refine wp_region_noPanic ?_
          refine wp_region_held_drew (S := (fun w' => w'.cell? ⟨w.heap.size, 0, none⟩ = some (.int .i64 m) ∧ w'.cell? ⟨w.heap.size, 1, none⟩ = some (.int .i64 k) ∧ w'.cell? ⟨w.heap.size, 2, none⟩ = some (.slice (some ⟨b, off, none⟩) xs.length c) ∧ w'.cell? ⟨b', off', none⟩ = some (.int .i64 p0))) (by kernel_rfl) (by go_keep) (fun hHeld => ?_)
          have HHz := belowD HH
          have xz : Blk w1.drew _ _ _ := x.all (low_drewN w1 1)
          have rz : Blk w1.drew _ _ _ := r.all (low_drewN w1 1)
          have Rz := R.drew
          have Qz := Q.drew
          have CPz := CP.drew
          obtain ⟨wd, hwd⟩ : ∃ v, w1.drew = v := ⟨_, rfl⟩
          rw [hwd] at hHeld HHz xz rz Rz Qz CPz ⊢
          clear hwd
          refine wpAnyH_take (i := 0) (v := ?_) rfl (by kernel_rfl) (by kernel_rfl) (by kernel_rfl) (fun _ _ _ h => h) (Or.inl ⟨by rfl, ?_⟩) (by assumption) ?_
          rotate_left
          · intro w hSw; (try dsimp only at hSw); go_simp; (try with_reducible rfl)
          (try simp only [Act.put, List.getElem_toArray, List.getElem_cons_zero, List.setIfInBounds_toArray, List.set_cons_zero, List.set_cons_succ])
          refine wpAnyH_take (i := 1) (v := ?_) rfl (by kernel_rfl) (by kernel_rfl) (by kernel_rfl) (fun _ _ _ h => h) (Or.inl ⟨by rfl, ?_⟩) (by assumption) ?_
          rotate_left
          · intro w hSw; (try dsimp only at hSw); go_simp; (try with_reducible rfl)
          (try simp only [Act.put, List.getElem_toArray, List.getElem_cons_zero, List.getElem_cons_succ, List.setIfInBounds_toArray, List.set_cons_zero, List.set_cons_succ])
          refine wpAnyH_take (i := 2) (v := ?_) rfl (by kernel_rfl) (by kernel_rfl) (by kernel_rfl) (fun _ _ _ h => h) (Or.inl ⟨by rfl, ?_⟩) (by assumption) ?_
          rotate_left
          · intro w hSw; (try dsimp only at hSw); go_simp; (try with_reducible rfl)
          (try simp only [Act.put, List.getElem_toArray, List.getElem_cons_zero, List.getElem_cons_succ, List.setIfInBounds_toArray, List.set_cons_zero, List.set_cons_succ])
          refine wpAnyH_take (i := 3) (v := ?_) rfl (by kernel_rfl) (by kernel_rfl) (by kernel_rfl) (fun _ _ _ h => h) (Or.inl ⟨by rfl, ?_⟩) (by assumption) ?_
          rotate_left
          · intro w hSw; (try dsimp only at hSw); go_simp; (try with_reducible rfl)
          (try simp only [Act.put, List.getElem_toArray, List.getElem_cons_zero, List.getElem_cons_succ, List.setIfInBounds_toArray, List.set_cons_zero, List.set_cons_succ])
          refine wpAnyH_take (i := 4) (v := ?_) rfl (by kernel_rfl) (by kernel_rfl) (by kernel_rfl) (fun _ _ _ h => h) (Or.inl ⟨by rfl, ?_⟩) (by assumption) ?_
          rotate_left
          · intro w hSw; (try dsimp only at hSw); go_simp; (try with_reducible rfl)
          (try simp only [Act.put, List.getElem_toArray, List.getElem_cons_zero, List.getElem_cons_succ, List.setIfInBounds_toArray, List.set_cons_zero, List.set_cons_succ])
          refine wpAnyH_take (i := 5) (v := ?_) rfl (by kernel_rfl) (by kernel_rfl) (by kernel_rfl) (fun _ _ _ h => h) (Or.inl ⟨by rfl, ?_⟩) (by assumption) ?_
          rotate_left
          · intro w hSw; (try dsimp only at hSw); go_simp; (try with_reducible rfl)
          (try simp only [Act.put, List.getElem_toArray, List.getElem_cons_zero, List.getElem_cons_succ, List.setIfInBounds_toArray, List.set_cons_zero, List.set_cons_succ])
          refine wpAnyH_take (i := 6) (v := ?_) rfl (by kernel_rfl) (by kernel_rfl) (by kernel_rfl) (fun _ _ _ h => h) (Or.inl ⟨by rfl, ?_⟩) (by assumption) ?_
          rotate_left
          · intro w hSw; (try dsimp only at hSw); go_simp; (try with_reducible rfl)
          (try simp only [Act.put, List.getElem_toArray, List.getElem_cons_zero, List.getElem_cons_succ, List.setIfInBounds_toArray, List.set_cons_zero, List.set_cons_succ])
          refine wpAnyH_take (i := 7) (v := ?_) rfl (by kernel_rfl) (by kernel_rfl) (by kernel_rfl) (fun _ _ _ h => h) (Or.inl ⟨by rfl, ?_⟩) (by assumption) ?_
          rotate_left
          · intro w hSw; (try dsimp only at hSw); go_simp; (try with_reducible rfl)
          (try simp only [Act.put, List.getElem_toArray, List.getElem_cons_zero, List.getElem_cons_succ, List.setIfInBounds_toArray, List.set_cons_zero, List.set_cons_succ])
          refine wpAnyH_take (i := 8) (v := ?_) rfl (by kernel_rfl) (by kernel_rfl) (by kernel_rfl) (fun _ _ _ h => h) (Or.inl ⟨by rfl, ?_⟩) (by assumption) ?_
          rotate_left
          · intro w hSw; (try dsimp only at hSw); go_simp; (try with_reducible rfl)
          (try simp only [Act.put, List.getElem_toArray, List.getElem_cons_zero, List.getElem_cons_succ, List.setIfInBounds_toArray, List.set_cons_zero, List.set_cons_succ])
          clear hHeld
          refine wpAnyH_ready (rs := [9, 13]) (by kernel_rfl) (by simp) ?_
          refine AllReadyH.cons rfl (fun KQ hKQ => ?_) ?_
          · skip
            go_simp
            refine (HPL.out _).mono ?_
            rintro e wq1 ⟨A1, c1, rfl, own, hb⟩
            replace xz := xz.all hb
            replace rz := rz.all hb
            replace Rz := Rz.all hb (Nat.le_trans hB HHz.size)
            replace Qz := Qz.all hb (Nat.le_trans hB' HHz.size)
            replace CPz := CPz.all hb
            have O1 := (own).mono HHz.size
            replace HHz := HHz.trans (hb.mono HHz.size)
            clear hb own
            refine hKQ.out _ _ (by exact ⟨xz.cell 0, xz.cell 1, xz.cell 2, CPz.2⟩) (fun hHeld => ?_)
            clear hKQ KQ
            (try simp only [Act.put, List.getElem_toArray, List.getElem_cons_zero, List.getElem_cons_succ, List.setIfInBounds_toArray, List.set_cons_zero, List.set_cons_succ])
            refine wpAnyH_take (i := 10) (v := ?_) rfl (by kernel_rfl) (by kernel_rfl) (by kernel_rfl) (fun _ _ _ h => h) (Or.inl ⟨by rfl, ?_⟩) (by assumption) ?_
            rotate_left
            · intro w hSw; (try dsimp only at hSw); go_simp; (try with_reducible rfl)
            (try simp only [Act.put, List.getElem_toArray, List.getElem_cons_zero, List.getElem_cons_succ, List.setIfInBounds_toArray, List.set_cons_zero, List.set_cons_succ])
            refine wpAnyH_take (i := 11) (v := ?_) rfl (by kernel_rfl) (by kernel_rfl) (by kernel_rfl) (fun _ _ _ h => h) (Or.inl ⟨by rfl, ?_⟩) (by assumption) ?_
            rotate_left
            · intro w hSw; (try dsimp only at hSw); go_simp; (try with_reducible rfl)
            (try simp only [Act.put, List.getElem_toArray, List.getElem_cons_zero, List.getElem_cons_succ, List.setIfInBounds_toArray, List.set_cons_zero, List.set_cons_succ])
            refine wpAnyH_take (i := 12) (v := ?_) rfl (by kernel_rfl) (by kernel_rfl) (by kernel_rfl) (fun _ _ _ h => h) (Or.inl ⟨by rfl, ?_⟩) (by assumption) ?_
            rotate_left
            · intro w hSw; (try dsimp only at hSw); go_simp; (try with_reducible rfl)
            (try simp only [Act.put, List.getElem_toArray, List.getElem_cons_zero, List.getElem_cons_succ, List.setIfInBounds_toArray, List.set_cons_zero, List.set_cons_succ])
            clear hHeld
            refine wpAnyH_ready (rs := [13]) (by kernel_rfl) (by simp) ?_
            refine AllReadyH.cons rfl (fun KQ hKQ => ?_) AllReadyH.nil
            go_simp
            have hal := (Below.refl wq1.heap.size wq1).alloc (Nat.le_refl _) (.cells #[.int .i64 0, .int .i64 0, .slice none 0 0] 26)
            have hlq13x := xz.lt
            have hlq13r := rz.lt
            replace xz := xz.all hal
            replace rz := rz.all hal
            replace Rz := Rz.all hal (Nat.le_trans hB HHz.size)
            replace Qz := Qz.all hal (Nat.le_trans hB' HHz.size)
            replace CPz := CPz.all hal
            replace O1 := O1.all hal
            have hqq13 : w.heap.size ≤ wq1.heap.size := HHz.size
            have Z13 : Blk _ (wq1.heap.size) _ _ := Blk.new wq1 #[.int .i64 0, .int .i64 0, .slice none 0 0] 26
            replace HHz := HHz.alloc HHz.size (.cells #[.int .i64 0, .int .i64 0, .slice none 0 0] 26)
            obtain ⟨q13, hq⟩ : ∃ q, wq1.heap.size = q := ⟨_, rfl⟩
            rw [hq] at Z13 hlq13x hlq13r hqq13 ⊢
            obtain ⟨wq2, hw⟩ : ∃ v, wq1.alloc (.cells #[.int .i64 0, .int .i64 0, .slice none 0 0] 26) = v := ⟨_, rfl⟩
            rw [hw] at HHz xz rz Rz Qz CPz O1 Z13 ⊢
            clear hal hw hq
            refine hKQ.out _ _ (by exact ⟨xz.cell 0, xz.cell 1, xz.cell 2, CPz.2⟩) (fun hHeld => ?_)
            clear hKQ KQ
            (try simp only [Act.put, List.getElem_toArray, List.getElem_cons_zero, List.getElem_cons_succ, List.setIfInBounds_toArray, List.set_cons_zero, List.set_cons_succ])
            revert hHeld; revert hqq13; revert hlq13x; revert hlq13r; revert Z13; revert O1; revert CPz; revert Qz; revert Rz; revert rz; revert xz; revert HHz; revert q13; revert c1; revert A1; revert wq2
            exact key0 true
          refine AllReadyH.cons rfl (fun KQ hKQ => ?_) AllReadyH.nil
          go_simp
          have hal := (Below.refl wd.heap.size wd).alloc (Nat.le_refl _) (.cells #[.int .i64 0, .int .i64 0, .slice none 0 0] 26)
          have hlq13x := xz.lt
          have hlq13r := rz.lt
          replace xz := xz.all hal
          replace rz := rz.all hal
          replace Rz := Rz.all hal (Nat.le_trans hB HHz.size)
          replace Qz := Qz.all hal (Nat.le_trans hB' HHz.size)
          replace CPz := CPz.all hal
          have hqq13 : w.heap.size ≤ wd.heap.size := HHz.size
          have Z13 : Blk _ (wd.heap.size) _ _ := Blk.new wd #[.int .i64 0, .int .i64 0, .slice none 0 0] 26
          replace HHz := HHz.alloc HHz.size (.cells #[.int .i64 0, .int .i64 0, .slice none 0 0] 26)
          obtain ⟨q13, hq⟩ : ∃ q, wd.heap.size = q := ⟨_, rfl⟩
          rw [hq] at Z13 hlq13x hlq13r hqq13 ⊢
          obtain ⟨wq3, hw⟩ : ∃ v, wd.alloc (.cells #[.int .i64 0, .int .i64 0, .slice none 0 0] 26) = v := ⟨_, rfl⟩
          rw [hw] at HHz xz rz Rz Qz CPz Z13 ⊢
          clear hal hw hq
          refine hKQ.out _ _ (by exact ⟨xz.cell 0, xz.cell 1, xz.cell 2, CPz.2⟩) (fun hHeld => ?_)
          clear hKQ KQ
          (try simp only [Act.put, List.getElem_toArray, List.getElem_cons_zero, List.getElem_cons_succ, List.setIfInBounds_toArray, List.set_cons_zero, List.set_cons_succ])
          clear hHeld
          refine wpAnyH_ready (rs := [9]) (by kernel_rfl) (by simp) ?_
          refine AllReadyH.cons rfl (fun KQ hKQ => ?_) AllReadyH.nil
          go_simp
          refine (HPL.out _).mono ?_
          rintro e wq4 ⟨A1, c1, rfl, own, hb⟩
          replace xz := xz.all hb
          replace rz := rz.all hb
          replace Rz := Rz.all hb (Nat.le_trans hB HHz.size)
          replace Qz := Qz.all hb (Nat.le_trans hB' HHz.size)
          replace CPz := CPz.all hb
          replace Z13 := Z13.all hb
          have O1 := (own).mono HHz.size
          replace HHz := HHz.trans (hb.mono HHz.size)
          clear hb own
          refine hKQ.out _ _ (by exact ⟨xz.cell 0, xz.cell 1, xz.cell 2, CPz.2⟩) (fun hHeld => ?_)
          clear hKQ KQ
          (try simp only [Act.put, List.getElem_toArray, List.getElem_cons_zero, List.getElem_cons_succ, List.setIfInBounds_toArray, List.set_cons_zero, List.set_cons_succ])
          refine wpAnyH_take (i := 10) (v := ?_) rfl (by kernel_rfl) (by kernel_rfl) (by kernel_rfl) (fun _ _ _ h => h) (Or.inl ⟨by rfl, ?_⟩) (by assumption) ?_
          rotate_left
          · intro w hSw; (try dsimp only at hSw); go_simp; (try with_reducible rfl)
          (try simp only [Act.put, List.getElem_toArray, List.getElem_cons_zero, List.getElem_cons_succ, List.setIfInBounds_toArray, List.set_cons_zero, List.set_cons_succ])
          refine wpAnyH_take (i := 11) (v := ?_) rfl (by kernel_rfl) (by kernel_rfl) (by kernel_rfl) (fun _ _ _ h => h) (Or.inl ⟨by rfl, ?_⟩) (by assumption) ?_
          rotate_left
          · intro w hSw; (try dsimp only at hSw); go_simp; (try with_reducible rfl)
          (try simp only [Act.put, List.getElem_toArray, List.getElem_cons_zero, List.getElem_cons_succ, List.setIfInBounds_toArray, List.set_cons_zero, List.set_cons_succ])
          refine wpAnyH_take (i := 12) (v := ?_) rfl (by kernel_rfl) (by kernel_rfl) (by kernel_rfl) (fun _ _ _ h => h) (Or.inl ⟨by rfl, ?_⟩) (by assumption) ?_
          rotate_left
          · intro w hSw; (try dsimp only at hSw); go_simp; (try with_reducible rfl)
          (try simp only [Act.put, List.getElem_toArray, List.getElem_cons_zero, List.getElem_cons_succ, List.setIfInBounds_toArray, List.set_cons_zero, List.set_cons_succ])
          revert hHeld; revert hqq13; revert hlq13x; revert hlq13r; revert Z13; revert O1; revert CPz; revert Qz; revert Rz; revert rz; revert xz; revert HHz; revert q13; revert c1; revert A1; revert wq4
          exact key0 true
        case key0 =>
          intro _ wq2 A1 c1 q13 HHz xz rz Rz Qz CPz O1 Z13 hlq13r hlq13x hqq13 hHeld
          clear hHeld
          refine wpAnyH_ready (rs := [14]) (by kernel_rfl) (by simp) ?_
          refine AllReadyH.cons rfl (fun KQ hKQ => ?_) AllReadyH.nil
          have zz0 := Z13.cell 0
          have zz1 := Z13.cell 1
          have zz2 := Z13.cell 2
          have zf0 := Z13.frozen 0
          have zf1 := Z13.frozen 1
          have zf2 := Z13.frozen 2
          go_simp
          replace HHz := below_far3 HHz hqq13 (a := .int .i64 oM) (b := .int .i64 oK) (c := .slice A1 L.length c1)
          replace xz := xz.far3b (p := q13) (a := .int .i64 oM) (b := .int .i64 oK) (c := .slice A1 L.length c1) (by omega)
          replace rz := rz.far3b (p := q13) (a := .int .i64 oM) (b := .int .i64 oK) (c := .slice A1 L.length c1) (by omega)
          replace Rz := Rz.keep3 (p := q13) (by omega) (a := .int .i64 oM) (b := .int .i64 oK) (c := .slice A1 L.length c1)
          replace Qz := Qz.keep3 (p := q13) (by omega) (a := .int .i64 oM) (b := .int .i64 oK) (c := .slice A1 L.length c1)
          replace CPz := CPz.far3b (p := q13) (by omega) (a := .int .i64 oM) (b := .int .i64 oK) (c := .slice A1 L.length c1)
          replace O1 := O1.far3b (row_ne' O1.1 Z13 (by decide)) (a := .int .i64 oM) (b := .int .i64 oK) (c := .slice A1 L.length c1)
          replace Z13 : Blk _ _ _ #[.int .i64 oM, .int .i64 oK, .slice A1 L.length c1] := Z13.put3b
          clear zz0 zf0 zz1 zf1 zz2 zf2
          obtain ⟨wq5, hw⟩ : ∃ v, ((wq2.setCell ⟨q13, 0, none⟩ (.int .i64 oM)).setCell ⟨q13, 1, none⟩ (.int .i64 oK)).setCell ⟨q13, 2, none⟩ (.slice A1 L.length c1) = v := ⟨_, rfl⟩
          rw [hw] at HHz xz rz Rz Qz CPz O1 Z13 ⊢
          clear hw
          refine hKQ.out _ _ (by exact ⟨xz.cell 0, xz.cell 1, xz.cell 2, CPz.2⟩) (fun hHeld => ?_)
          clear hKQ KQ
          (try simp only [Act.put, List.getElem_toArray, List.getElem_cons_zero, List.getElem_cons_succ, List.setIfInBounds_toArray, List.set_cons_zero, List.set_cons_succ])
          refine wpAnyH_take (i := 15) (v := ?_) rfl (by kernel_rfl) (by kernel_rfl) (by kernel_rfl) (fun _ _ _ h => h) (Or.inl ⟨by rfl, ?_⟩) (by assumption) ?_
          rotate_left
          · intro w hSw; (try dsimp only at hSw); go_simp; (try with_reducible rfl)
          (try simp only [Act.put, List.getElem_toArray, List.getElem_cons_zero, List.getElem_cons_succ, List.setIfInBounds_toArray, List.set_cons_zero, List.set_cons_succ])
          refine wpAnyH_done (by kernel_rfl) ?_ _
          refine NoPanic.normal ?_
          go_wp2_with fail
          go_meet
          exact ⟨q13, A1, c1, rfl, rfl, hqq13, hlq13x, hlq13r, O1, xz, rz, Rz, Qz, Z13, HHz⟩
      case rest =>
        clear HB HH x r R Q CP hsz hcB cp ex0 ex1 ex2 zx er0 er1 er2 zr HPL
        obtain ⟨q, A1, c1, rfl, rfl, hq0, hqx, hqr, O, x, r, R, Q, z, HB⟩ := hcut
        obtain ⟨w2, hw2_⟩ : ∃ w2, w2 = wc := ⟨_, rfl⟩
        subst hw2_
        replace HB := Lib.hid HB
        have hsz : w.heap.size + 2 ≤ w2.heap.size := by have := r.lt; omega
        have hqz := z.lt
        cases d with
        | false =>
          have hno := Lib.hid (show addOk m k xs cs = false by simp [addOk, hdd])
          have ex0 := x.cell 0
          have ex1 := x.cell 1
          have ex2 := x.cell 2
          have zx := x.lt
          have er0 := r.cell 0
          have er1 := r.cell 1
          have er2 := r.cell 2
          have fr0 := r.frozen 0
          have fr1 := r.frozen 1
          have fr2 := r.frozen 2
          have zr := r.lt
          have ez0 := z.cell 0
          have ez1 := z.cell 1
          have ez2 := z.cell 2
          have zz := z.lt
          have F := fin3 (p := w.heap.size + 1) (a := .int .i64 0) (b := .int .i64 0) (c := .slice none 0 0) (Own.nil w2 w.heap.size) (by simp [Value.ownBlock]) HB.out (by omega)
          go_wp2_with fail
          exact bodyPost_ret (v := .tuple #[.agg #[.int .i64 0, .int .i64 0, .slice none 0 0], .bool false]) (by simp [results, Try.results6, go_sem, er0, er1, er2]) rfl (by rw [addX, hno.out]; exact ⟨none, 0, rfl, F.1, F.2⟩)
        | true =>
          have hMK : m + 2 ≤ 8 ∧ k + 2 ≤ 8 := by
            rcases hs with h | h
            · rw [hdd] at h; cases h
            · exact h.2
          obtain ⟨M8, K8⟩ := hMK
          have hM8 : M ≤ 8 := by rw [HM.out]; exact M8
          have hK8 : K ≤ 8 := by rw [HK.out]; exact K8
          have hM2 : 2 ≤ M := by rw [HM.out]; omega
          have hK2 : 2 ≤ K := by rw [HK.out]; omega
          obtain rfl : oM = (M : Int) := by rw [← HOM.out]; rfl
          obtain rfl : oK = (K : Int) := by rw [← HOK.out]; rfl
          have HL := Lib.hid (show List.replicate (M * K) p0 = L by rw [← hL]; rfl)
          clear hL
          replace z : Blk w2 q 26 #[.int .i64 M, .int .i64 K, .slice A1 L.length c1] := z
          have hN := ringN_bd hM2 hM8 hK2 hK8
          cases hm : decide (ringN M K % cs.length = 0) with
          | false =>
            have hno := Lib.hid (show addOk m k xs cs = false by
              have e : decide (ringN (m + 2) (k + 2) % cs.length = 0) = false := by rw [← HM.out, ← HK.out]; exact hm
              simp [addOk] at e ⊢; intro _ _ _; exact e)
            have HMT := Lib.hid (fun W => meetsIn_any M K cs.length W hM2 hM8 hK2 hK8 p1 p8)
            rw [hm] at HMT
            have ex0 := x.cell 0
            have ex1 := x.cell 1
            have ex2 := x.cell 2
            have zx := x.lt
            have er0 := r.cell 0
            have er1 := r.cell 1
            have er2 := r.cell 2
            have fr0 := r.frozen 0
            have fr1 := r.frozen 1
            have fr2 := r.frozen 2
            have zr := r.lt
            have ez0 := z.cell 0
            have ez1 := z.cell 1
            have ez2 := z.cell 2
            have zz := z.lt
            have F := fin3 (p := w.heap.size + 1) (a := .int .i64 0) (b := .int .i64 0) (c := .slice none 0 0) (Own.nil w2 w.heap.size) (by simp [Value.ownBlock]) HB.out (by omega)
            go_wp2_with (go_at_call 29; (with_reducible refine (HMT.out _).mono ?_); rintro e w' ⟨rfl, rfl⟩)
            exact bodyPost_ret (v := .tuple #[.agg #[.int .i64 0, .int .i64 0, .slice none 0 0], .bool false]) (by simp [results, Try.results6, go_sem, er0, er1, er2]) rfl (by rw [addX, hno.out]; exact ⟨none, 0, rfl, F.1, F.2⟩)
          | true =>
            have hyes := Lib.hid (show addOk m k xs cs = true by
              have e : decide (ringN (m + 2) (k + 2) % cs.length = 0) = true := by rw [← HM.out, ← HK.out]; exact hm
              unfold addOk; rw [hg, hp, hdd]; simpa using e)
            have HMT := Lib.hid (fun W => meetsIn_any M K cs.length W hM2 hM8 hK2 hK8 p1 p8)
            rw [hm] at HMT
            obtain ⟨hpo, hpx⟩ := put_mid (xs := xs) m1 M8 k1 K8 hg hpc0 M K HM.out HK.out
            rw [HL.out] at hpo hpx
            have HPP := Lib.hid (fun B0 W h1 h2 h3 h4 => implPutPart_any M K A1 L.length c1 B0 L m k (some ⟨b, off, none⟩) xs.length c B xs 1 1 W h1 h2 h3 h4 i64_1 i64_1)
            rw [hpo, hpx, show orZero true (M : Int) = M from rfl, show orZero true (K : Int) = K from rfl] at HPP
            have HCOL := Lib.hid (mid_color (m := m) (k := k) (xs := xs) (ps := cs) p0 M8 K8 m1 k1)
            have HLEN := Lib.hid (midL_len m k xs p0)
            rw [← HM.out, ← HK.out] at HLEN
            have ex0 := x.cell 0
            have ex1 := x.cell 1
            have ex2 := x.cell 2
            have zx := x.lt
            have er0 := r.cell 0
            have er1 := r.cell 1
            have er2 := r.cell 2
            have zr := r.lt
            have ez0 := z.cell 0
            have ez1 := z.cell 1
            have ez2 := z.cell 2
            have zz := z.lt
            go_wp2_with (go_at_call 29; (with_reducible refine (HMT.out _).mono ?_); rintro e w' ⟨rfl, rfl⟩)
            refine (HPP.out _ _ O.rd R (Nat.le_refl _) (Nat.le_trans hB (by omega))).mono ?_
            rintro e w3 ⟨A3, c3, rfl, own, hb⟩
            clear ex0 ex1 ex2 zx er0 er1 er2 zr ez0 ez1 ez2 zz
            replace O := O.all hb
            replace x := x.all hb
            replace r := r.all hb
            replace z := z.all hb
            replace R := R.all hb (Nat.le_trans (hB) (by omega))
            replace Q := Q.all hb (Nat.le_trans (hB') (by omega))
            have O3 := own.mono (show w.heap.size ≤ _ by omega)
            clear own
            replace HB := Lib.hid (HB.out.trans (hb.mono (by omega)))
            replace hsz := Nat.le_trans hsz hb.size
            clear hb
            clear O
            have ex0 := x.cell 0
            have ex1 := x.cell 1
            have ex2 := x.cell 2
            have zx := x.lt
            have er0 := r.cell 0
            have er1 := r.cell 1
            have er2 := r.cell 2
            have zr := r.lt
            have ez0 := z.cell 0
            have ez1 := z.cell 1
            have ez2 := z.cell 2
            have fz0 := z.frozen 0
            have fz1 := z.frozen 1
            have fz2 := z.frozen 2
            have zz := z.lt
            go_wp2_with fail
            clear ex0 ex1 ex2 zx er0 er1 er2 zr ez0 ez1 ez2 fz0 fz1 fz2 zz
            replace x := x.far3b (p := q) (by omega) (a := .int .i64 M) (b := .int .i64 K) (c := .slice A3 (midL m k xs p0).length c3)
            replace r := r.far3b (p := q) (by omega) (a := .int .i64 M) (b := .int .i64 K) (c := .slice A3 (midL m k xs p0).length c3)
            replace O3 := O3.far3b (row_ne' O3.1 z (by decide)) (a := .int .i64 M) (b := .int .i64 K) (c := .slice A3 (midL m k xs p0).length c3)
            replace R := R.keep3 (p := q) (by omega) (a := .int .i64 M) (b := .int .i64 K) (c := .slice A3 (midL m k xs p0).length c3)
            replace Q := Q.keep3 (p := q) (by omega) (a := .int .i64 M) (b := .int .i64 K) (c := .slice A3 (midL m k xs p0).length c3)
            replace HB := Lib.hid (below_far3 HB.out (p := q) (by omega) (a := .int .i64 M) (b := .int .i64 K) (c := .slice A3 (midL m k xs p0).length c3))
            replace z : Blk _ _ _ #[.int .i64 M, .int .i64 K, .slice A3 (midL m k xs p0).length c3] := z.put3b
            replace hsz : w.heap.size + 2 ≤ (((w3.setCell ⟨q, 0, none⟩ (.int .i64 M)).setCell ⟨q, 1, none⟩ (.int .i64 K)).setCell ⟨q, 2, none⟩ (.slice A3 (midL m k xs p0).length c3)).heap.size := by simpa using hsz
            obtain ⟨w4, hw_⟩ : ∃ v, ((w3.setCell ⟨q, 0, none⟩ (.int .i64 M)).setCell ⟨q, 1, none⟩ (.int .i64 K)).setCell ⟨q, 2, none⟩ (.slice A3 (midL m k xs p0).length c3) = v := ⟨_, rfl⟩
            rw [hw_] at HB hsz O3 x r z R Q ⊢
            clear hw_
            obtain ⟨g3, rfl, hg3, _⟩ := O3.some_ (by rw [HLEN.out]; exact Nat.mul_le_mul (show 1 ≤ M by omega) (show 1 ≤ K by omega))
            have ex0 := x.cell 0
            have ex1 := x.cell 1
            have ex2 := x.cell 2
            have zx := x.lt
            have er0 := r.cell 0
            have er1 := r.cell 1
            have er2 := r.cell 2
            have zr := r.lt
            have ez0 := z.cell 0
            have ez1 := z.cell 1
            have ez2 := z.cell 2
            have zz := z.lt
            go_wp2_with fail
            refine (withRing_any M K g3 0 c3 _ b' off' c' B' (midL m k xs p0) cs _ O3.rd Q (Nat.le_refl _) (Nat.le_trans hB' (by omega)) hM2 hM8 hK2 hK8 HLEN (by omega)).mono ?_
            rintro e w5 ⟨A4, c4, rfl, own, hb⟩
            clear ex0 ex1 ex2 zx er0 er1 er2 zr ez0 ez1 ez2 zz
            replace O3 := O3.all hb
            replace x := x.all hb
            replace r := r.all hb
            replace z := z.all hb
            replace R := R.all hb (Nat.le_trans (hB) (by omega))
            replace Q := Q.all hb (Nat.le_trans (hB') (by omega))
            have O4 := own.mono (show w.heap.size ≤ _ by omega)
            clear own
            replace HB := Lib.hid (HB.out.trans (hb.mono (by omega)))
            replace hsz := Nat.le_trans hsz hb.size
            clear hb
            have ex0 := x.cell 0
            have ex1 := x.cell 1
            have ex2 := x.cell 2
            have zx := x.lt
            have er0 := r.cell 0
            have er1 := r.cell 1
            have er2 := r.cell 2
            have fr0 := r.frozen 0
            have fr1 := r.frozen 1
            have fr2 := r.frozen 2
            have zr := r.lt
            have ez0 := z.cell 0
            have ez1 := z.cell 1
            have ez2 := z.cell 2
            have zz := z.lt
            have F := fin3 (p := w.heap.size + 1) (a := .int .i64 M) (b := .int .i64 K) (c := .slice A4 (putRing M K (midL m k xs p0) cs).length c4) O4 (row_ne' O4.1 r (by decide)) HB.out (by omega)
            go_wp2_with fail
            exact bodyPost_ret (v := .tuple #[.agg #[.int .i64 M, .int .i64 K, .slice A4 (putRing M K (midL m k xs p0) cs).length c4], .bool true]) (by simp [results, Try.results6, go_sem, er0, er1, er2]) rfl (by rw [addX, hyes.out, if_pos rfl]; simp only [Int.toNat_natCast]; rw [← HCOL.out, ← HM.out, ← HK.out]; exact ⟨_, c4, rfl, F.1, F.2⟩)
set_option maxRecDepth 100000 in
set_option maxHeartbeats 8000000 in
theorem specAddBorder_any (W H : Int) (A : Option Addr) (n c B : Nat) (xs : List Int) (A' : Option Addr) (n' c' B' : Nat) (cs : List Int) (w : World) (hR : Rd w B A n c xs) (hR' : Rd w B' A' n' c' cs) (hB : B ≤ w.heap.size) (hB' : B' ≤ w.heap.size) :
    Calls Try.prog 7 #[chartV W H (.slice A n c), .slice A' n' c'] w (OutChart w (orZero (addOk W H xs cs) (W + 2)) (orZero (addOk W H xs cs) (H + 2)) (addX W H xs cs) (addOk W H xs cs)) := by
  obtain rfl := hR'.len
  have hcn := hR'.len_lt
  rcases add_cases (W := W) (H := H) (xs := xs) (ps := cs) with hg | ⟨m, k, rfl, rfl, hg, m1, m8, k1, k8, hl, h64, hl1, hp⟩
  · have hno : addOk W H xs cs = false := by simp [addOk, hg]
    rw [addX, hno]
    have HB := Lib.hid (((Below.refl w.heap.size w).alloc (by first | (simp; done) | (simp; omega) | omega) (.cells #[.int .i64 W, .int .i64 H, .slice A n c] 26)).alloc (by first | (simp; done) | (simp; omega) | omega) (.cells #[.int .i64 0, .int .i64 0, .slice none 0 0] 26))
    have R := (((hR)).alloc (hB) (.cells #[.int .i64 W, .int .i64 H, .slice A n c] 26)).alloc ((by first | (simp; done) | (simp; omega) | omega)) (.cells #[.int .i64 0, .int .i64 0, .slice none 0 0] 26)
    have Q := (((hR')).alloc (hB') (.cells #[.int .i64 W, .int .i64 H, .slice A n c] 26)).alloc ((by first | (simp; done) | (simp; omega) | omega)) (.cells #[.int .i64 0, .int .i64 0, .slice none 0 0] 26)
    have x := ((Blk.new w #[.int .i64 W, .int .i64 H, .slice A n c] 26).alloc (.cells #[.int .i64 0, .int .i64 0, .slice none 0 0] 26)).at_ (q := w.heap.size) (by simp)
    have r := (Blk.new (w.alloc (.cells #[.int .i64 W, .int .i64 H, .slice A n c] 26)) #[.int .i64 0, .int .i64 0, .slice none 0 0] 26).at_ (q := w.heap.size + 1) (by simp)
    have hsz : w.heap.size + 2 ≤ ((w.alloc (.cells #[.int .i64 W, .int .i64 H, .slice A n c] 26)).alloc (.cells #[.int .i64 0, .int .i64 0, .slice none 0 0] 26)).heap.size := by simp
    clear hR hR'
    go_enter Try.func7, Try.ntmps7
    go_wp2_with fail
    obtain ⟨W0, hW0⟩ : ∃ v, ((w.alloc (.cells #[.int .i64 W, .int .i64 H, .slice A n c] 26)).alloc (.cells #[.int .i64 0, .int .i64 0, .slice none 0 0] 26)) = v := ⟨_, rfl⟩
    rw [hW0] at HB hsz R Q x r ⊢
    clear hW0
    have ex0 := x.cell 0
    have ex1 := x.cell 1
    have ex2 := x.cell 2
    have zx := x.lt
    have er0 := r.cell 0
    have er1 := r.cell 1
    have er2 := r.cell 2
    have zr := r.lt
    go_wp2_with fail
    refine (l2Good_any W H A n c B xs _ R (Nat.le_trans hB (by omega))).mono ?_
    rintro e w1 ⟨rfl, hb⟩
    clear ex0 ex1 ex2 zx er0 er1 er2 zr
    replace x := x.all hb
    replace r := r.all hb
    replace R := R.all hb (Nat.le_trans (hB) (by omega))
    replace Q := Q.all hb (Nat.le_trans (hB') (by omega))
    replace HB := Lib.hid (HB.out.trans (hb.mono (by omega)))
    replace hsz := Nat.le_trans hsz hb.size
    clear hb
    rw [hg]
    have ex0 := x.cell 0
    have ex1 := x.cell 1
    have ex2 := x.cell 2
    have zx := x.lt
    have er0 := r.cell 0
    have er1 := r.cell 1
    have er2 := r.cell 2
    have fr0 := r.frozen 0
    have fr1 := r.frozen 1
    have fr2 := r.frozen 2
    have zr := r.lt
    have F := fin3 (p := w.heap.size + 1) (a := .int .i64 0) (b := .int .i64 0) (c := .slice none 0 0) (Own.nil w1 w.heap.size) (by simp [Value.ownBlock]) HB.out (by omega)
    go_wp2_with fail
    exact bodyPost_ret (v := .tuple #[.agg #[.int .i64 0, .int .i64 0, .slice none 0 0], .bool false]) (by simp [results, Try.results7, go_sem, er0, er1, er2]) rfl ⟨none, 0, rfl, F.1, F.2⟩
  · rcases hp with hp | ⟨hp, p1, p8, pc, hs⟩
    · have hno : addOk m k xs cs = false := by simp [addOk, hp]
      rw [addX, hno]
      have HB := Lib.hid (((Below.refl w.heap.size w).alloc (by first | (simp; done) | (simp; omega) | omega) (.cells #[.int .i64 m, .int .i64 k, .slice A n c] 26)).alloc (by first | (simp; done) | (simp; omega) | omega) (.cells #[.int .i64 0, .int .i64 0, .slice none 0 0] 26))
      have R := (((hR)).alloc (hB) (.cells #[.int .i64 m, .int .i64 k, .slice A n c] 26)).alloc ((by first | (simp; done) | (simp; omega) | omega)) (.cells #[.int .i64 0, .int .i64 0, .slice none 0 0] 26)
      have Q := (((hR')).alloc (hB') (.cells #[.int .i64 m, .int .i64 k, .slice A n c] 26)).alloc ((by first | (simp; done) | (simp; omega) | omega)) (.cells #[.int .i64 0, .int .i64 0, .slice none 0 0] 26)
      have x := ((Blk.new w #[.int .i64 m, .int .i64 k, .slice A n c] 26).alloc (.cells #[.int .i64 0, .int .i64 0, .slice none 0 0] 26)).at_ (q := w.heap.size) (by simp)
      have r := (Blk.new (w.alloc (.cells #[.int .i64 m, .int .i64 k, .slice A n c] 26)) #[.int .i64 0, .int .i64 0, .slice none 0 0] 26).at_ (q := w.heap.size + 1) (by simp)
      have hsz : w.heap.size + 2 ≤ ((w.alloc (.cells #[.int .i64 m, .int .i64 k, .slice A n c] 26)).alloc (.cells #[.int .i64 0, .int .i64 0, .slice none 0 0] 26)).heap.size := by simp
      clear hR hR'
      go_enter Try.func7, Try.ntmps7
      go_wp2_with fail
      obtain ⟨W0, hW0⟩ : ∃ v, ((w.alloc (.cells #[.int .i64 m, .int .i64 k, .slice A n c] 26)).alloc (.cells #[.int .i64 0, .int .i64 0, .slice none 0 0] 26)) = v := ⟨_, rfl⟩
      rw [hW0] at HB hsz R Q x r ⊢
      clear hW0
      have ex0 := x.cell 0
      have ex1 := x.cell 1
      have ex2 := x.cell 2
      have zx := x.lt
      have er0 := r.cell 0
      have er1 := r.cell 1
      have er2 := r.cell 2
      have zr := r.lt
      go_wp2_with fail
      refine (l2Good_any m k A n c B xs _ R (Nat.le_trans hB (by omega))).mono ?_
      rintro e w1 ⟨rfl, hb⟩
      clear ex0 ex1 ex2 zx er0 er1 er2 zr
      replace x := x.all hb
      replace r := r.all hb
      replace R := R.all hb (Nat.le_trans (hB) (by omega))
      replace Q := Q.all hb (Nat.le_trans (hB') (by omega))
      replace HB := Lib.hid (HB.out.trans (hb.mono (by omega)))
      replace hsz := Nat.le_trans hsz hb.size
      clear hb
      rw [hg]
      have ex0 := x.cell 0
      have ex1 := x.cell 1
      have ex2 := x.cell 2
      have zx := x.lt
      have er0 := r.cell 0
      have er1 := r.cell 1
      have er2 := r.cell 2
      have fr0 := r.frozen 0
      have fr1 := r.frozen 1
      have fr2 := r.frozen 2
      have zr := r.lt
      have F := fin3 (p := w.heap.size + 1) (a := .int .i64 0) (b := .int .i64 0) (c := .slice none 0 0) (Own.nil w1 w.heap.size) (by simp [Value.ownBlock]) HB.out (by omega)
      go_wp2_with (go_at_call 33; (with_reducible refine (l8Pattern_any _ _ _ B' cs _ Q).mono ?_); rintro e w' ⟨rfl, rfl⟩)
      exact bodyPost_ret (v := .tuple #[.agg #[.int .i64 0, .int .i64 0, .slice none 0 0], .bool false]) (by simp [results, Try.results7, go_sem, er0, er1, er2]) rfl ⟨none, 0, rfl, F.1, F.2⟩
    · obtain rfl := hR.len
      obtain ⟨b, off, rfl, hbB, _⟩ := hR.cells (by omega)
      obtain ⟨b', off', rfl, hbB', _⟩ := hR'.cells (by omega)
      obtain ⟨M, hM⟩ : ∃ M : Nat, M = m + 2 := ⟨_, rfl⟩
      obtain ⟨K, hK⟩ : ∃ M : Nat, M = k + 2 := ⟨_, rfl⟩
      have hw1 : IntKind.i64.wrap ((m : Int) + 2) = (M : Int) := by rw [show (m : Int) + 2 = (M : Int) by omega]; exact IntWalk.i64_in _ (by omega)
      have hw2 : IntKind.i64.wrap ((k : Int) + 2) = (K : Int) := by rw [show (k : Int) + 2 = (K : Int) by omega]; exact IntWalk.i64_in _ (by omega)
      have hMi : (m : Int) + 2 = (M : Int) := by omega
      have hKi : (k : Int) + 2 = (K : Int) := by omega
      have HM := Lib.hid hM
      have HK := Lib.hid hK
      obtain ⟨d, hd⟩ : ∃ d, (isSideB (M : Int) && isSideB (K : Int)) = d := ⟨_, rfl⟩
      have HD := Lib.hid hd
      have hdd : addSides m k = d := by rw [← hd, addSides, hMi, hKi]
      rw [hMi, hKi]
      have HMI := Lib.hid hMi
      have HKI := Lib.hid hKi
      clear hMi hKi hM hK hd
      have HPL := Lib.hid (blank8_any M K)
      rw [HD.out] at HPL
      obtain ⟨L, hL⟩ : ∃ L, (if d = true then List.replicate (M * K) (0 : Int) else []) = L := ⟨_, rfl⟩
      rw [hL] at HPL
      obtain ⟨oM, hoM⟩ : ∃ x, orZero d (M : Int) = x := ⟨_, rfl⟩
      obtain ⟨oK, hoK⟩ : ∃ x, orZero d (K : Int) = x := ⟨_, rfl⟩
      rw [hoM, hoK] at HPL
      have HOM := Lib.hid hoM
      have HOK := Lib.hid hoK
      clear hoM hoK
      have HB := Lib.hid (((Below.refl w.heap.size w).alloc (by first | (simp; done) | (simp; omega) | omega) (.cells #[.int .i64 m, .int .i64 k, .slice (some ⟨b, off, none⟩) xs.length c] 26)).alloc (by first | (simp; done) | (simp; omega) | omega) (.cells #[.int .i64 0, .int .i64 0, .slice none 0 0] 26))
      have R := (((hR)).alloc (hB) (.cells #[.int .i64 m, .int .i64 k, .slice (some ⟨b, off, none⟩) xs.length c] 26)).alloc ((by first | (simp; done) | (simp; omega) | omega)) (.cells #[.int .i64 0, .int .i64 0, .slice none 0 0] 26)
      have Q := (((hR')).alloc (hB') (.cells #[.int .i64 m, .int .i64 k, .slice (some ⟨b, off, none⟩) xs.length c] 26)).alloc ((by first | (simp; done) | (simp; omega) | omega)) (.cells #[.int .i64 0, .int .i64 0, .slice none 0 0] 26)
      have x := ((Blk.new w #[.int .i64 m, .int .i64 k, .slice (some ⟨b, off, none⟩) xs.length c] 26).alloc (.cells #[.int .i64 0, .int .i64 0, .slice none 0 0] 26)).at_ (q := w.heap.size) (by simp)
      have r := (Blk.new (w.alloc (.cells #[.int .i64 m, .int .i64 k, .slice (some ⟨b, off, none⟩) xs.length c] 26)) #[.int .i64 0, .int .i64 0, .slice none 0 0] 26).at_ (q := w.heap.size + 1) (by simp)
      have hsz : w.heap.size + 2 ≤ ((w.alloc (.cells #[.int .i64 m, .int .i64 k, .slice (some ⟨b, off, none⟩) xs.length c] 26)).alloc (.cells #[.int .i64 0, .int .i64 0, .slice none 0 0] 26)).heap.size := by simp
      clear hR hR'
      go_enter Try.func7, Try.ntmps7
      go_wp2_with fail
      obtain ⟨W0, hW0⟩ : ∃ v, ((w.alloc (.cells #[.int .i64 m, .int .i64 k, .slice (some ⟨b, off, none⟩) xs.length c] 26)).alloc (.cells #[.int .i64 0, .int .i64 0, .slice none 0 0] 26)) = v := ⟨_, rfl⟩
      rw [hW0] at HB hsz R Q x r ⊢
      clear hW0
      have ex0 := x.cell 0
      have ex1 := x.cell 1
      have ex2 := x.cell 2
      have zx := x.lt
      have er0 := r.cell 0
      have er1 := r.cell 1
      have er2 := r.cell 2
      have zr := r.lt
      go_wp2_with fail
      refine (l2Good_any m k _ _ c B xs _ R (Nat.le_trans hB (by omega))).mono ?_
      rintro e w1 ⟨rfl, hb⟩
      clear ex0 ex1 ex2 zx er0 er1 er2 zr
      replace x := x.all hb
      replace r := r.all hb
      replace R := R.all hb (Nat.le_trans (hB) (by omega))
      replace Q := Q.all hb (Nat.le_trans (hB') (by omega))
      replace HB := Lib.hid (HB.out.trans (hb.mono (by omega)))
      replace hsz := Nat.le_trans hsz hb.size
      clear hb
      rw [hg]
      have ex0 := x.cell 0
      have ex1 := x.cell 1
      have ex2 := x.cell 2
      have zx := x.lt
      have er0 := r.cell 0
      have er1 := r.cell 1
      have er2 := r.cell 2
      have zr := r.lt
      go_wp2_with (go_at_call 33; (with_reducible refine (l8Pattern_any _ _ _ B' cs _ Q).mono ?_); rintro e w' ⟨rfl, rfl⟩)
      refine (HPL.out _).mono ?_
      rintro e w2 ⟨A1, c1, rfl, own, hb⟩
      clear ex0 ex1 ex2 zx er0 er1 er2 zr
      replace x := x.all hb
      replace r := r.all hb
      replace R := R.all hb (Nat.le_trans (hB) (by omega))
      replace Q := Q.all hb (Nat.le_trans (hB') (by omega))
      have O := own.mono (show w.heap.size ≤ _ by omega)
      clear own
      replace HB := Lib.hid (HB.out.trans (hb.mono (by omega)))
      replace hsz := Nat.le_trans hsz hb.size
      clear hb
      cases d with
      | false =>
        have hno := Lib.hid (show addOk m k xs cs = false by simp [addOk, hdd])
        replace O := O.alloc (.cells #[.int .i64 oM, .int .i64 oK, .slice A1 L.length c1] 26)
        have hlqx := x.lt
        replace x := x.alloc (.cells #[.int .i64 oM, .int .i64 oK, .slice A1 L.length c1] 26)
        have hlqr := r.lt
        replace r := r.alloc (.cells #[.int .i64 oM, .int .i64 oK, .slice A1 L.length c1] 26)
        replace R := R.alloc (Nat.le_trans (hB) (by omega)) (.cells #[.int .i64 oM, .int .i64 oK, .slice A1 L.length c1] 26)
        replace Q := Q.alloc (Nat.le_trans (hB') (by omega)) (.cells #[.int .i64 oM, .int .i64 oK, .slice A1 L.length c1] 26)
        have z := Blk.new w2 #[.int .i64 oM, .int .i64 oK, .slice A1 L.length c1] 26
        replace HB := Lib.hid (HB.out.alloc (by omega) (.cells #[.int .i64 oM, .int .i64 oK, .slice A1 L.length c1] 26))
        have hqq : w.heap.size + 2 ≤ w2.heap.size := hsz
        replace hsz : w.heap.size + 2 ≤ (w2.alloc (.cells #[.int .i64 oM, .int .i64 oK, .slice A1 L.length c1] 26)).heap.size := by simp; omega
        have ex0 := x.cell 0
        have ex1 := x.cell 1
        have ex2 := x.cell 2
        have zx := x.lt
        have er0 := r.cell 0
        have er1 := r.cell 1
        have er2 := r.cell 2
        have zr := r.lt
        go_upto_region 4 with fail
        clear ex0 ex1 ex2 zx er0 er1 er2 zr
        obtain ⟨w3, hw_⟩ : ∃ v, w2.alloc (.cells #[.int .i64 oM, .int .i64 oK, .slice A1 L.length c1] 26) = v := ⟨_, rfl⟩
        rw [hw_] at HB hsz O x r R Q z ⊢
        obtain ⟨q, hq_⟩ : ∃ q, w2.heap.size = q := ⟨_, rfl⟩
        rw [hq_] at z hqq hlqx hlqr ⊢
        clear hw_ hq_
        have ex0 := x.cell 0
        have ex1 := x.cell 1
        have ex2 := x.cell 2
        have zx := x.lt
        have er0 := r.cell 0
        have er1 := r.cell 1
        have er2 := r.cell 2
        have fr0 := r.frozen 0
        have fr1 := r.frozen 1
        have fr2 := r.frozen 2
        have zr := r.lt
        have ez0 := z.cell 0
        have ez1 := z.cell 1
        have ez2 := z.cell 2
        have zz := z.lt
        have F := fin3 (p := w.heap.size + 1) (a := .int .i64 0) (b := .int .i64 0) (c := .slice none 0 0) (Own.nil w3 w.heap.size) (by simp [Value.ownBlock]) HB.out (by omega)
        go_wp2_with fail
        exact bodyPost_ret (v := .tuple #[.agg #[.int .i64 0, .int .i64 0, .slice none 0 0], .bool false]) (by simp [results, Try.results7, go_sem, er0, er1, er2]) rfl (by rw [addX, hno.out]; exact ⟨none, 0, rfl, F.1, F.2⟩)
      | true =>
        have hMK : m + 2 ≤ 8 ∧ k + 2 ≤ 8 := by
          rcases hs with h | h
          · rw [hdd] at h; cases h
          · exact h.2
        obtain ⟨M8, K8⟩ := hMK
        have hM8 : M ≤ 8 := by rw [HM.out]; exact M8
        have hK8 : K ≤ 8 := by rw [HK.out]; exact K8
        have hM2 : 2 ≤ M := by rw [HM.out]; omega
        have hK2 : 2 ≤ K := by rw [HK.out]; omega
        obtain rfl : oM = (M : Int) := by rw [← HOM.out]; rfl
        obtain rfl : oK = (K : Int) := by rw [← HOK.out]; rfl
        have HL := Lib.hid (show List.replicate (M * K) (0 : Int) = L by rw [← hL]; rfl)
        have hLL : Hid (L.length = M * K) := Lib.hid (by rw [← HL.out]; simp)
        clear hL
        have hN := ringN_bd hM2 hM8 hK2 hK8
        have hcs : ¬ cs = [] := fun e => by rw [e] at p1; simp at p1
        have hMK1 : 1 ≤ L.length := by rw [hLL.out]; exact Nat.mul_le_mul (show 1 ≤ M by omega) (show 1 ≤ K by omega)
        obtain ⟨g1, rfl, hg1, _⟩ := O.some_ hMK1
        replace O := O.alloc (.cells #[.int .i64 M, .int .i64 K, .slice (some ⟨g1, 0, none⟩) L.length c1] 26)
        have hlqx := x.lt
        replace x := x.alloc (.cells #[.int .i64 M, .int .i64 K, .slice (some ⟨g1, 0, none⟩) L.length c1] 26)
        have hlqr := r.lt
        replace r := r.alloc (.cells #[.int .i64 M, .int .i64 K, .slice (some ⟨g1, 0, none⟩) L.length c1] 26)
        replace R := R.alloc (Nat.le_trans (hB) (by omega)) (.cells #[.int .i64 M, .int .i64 K, .slice (some ⟨g1, 0, none⟩) L.length c1] 26)
        replace Q := Q.alloc (Nat.le_trans (hB') (by omega)) (.cells #[.int .i64 M, .int .i64 K, .slice (some ⟨g1, 0, none⟩) L.length c1] 26)
        have z := Blk.new w2 #[.int .i64 M, .int .i64 K, .slice (some ⟨g1, 0, none⟩) L.length c1] 26
        replace HB := Lib.hid (HB.out.alloc (by omega) (.cells #[.int .i64 M, .int .i64 K, .slice (some ⟨g1, 0, none⟩) L.length c1] 26))
        have hqq : w.heap.size + 2 ≤ w2.heap.size := hsz
        replace hsz : w.heap.size + 2 ≤ (w2.alloc (.cells #[.int .i64 M, .int .i64 K, .slice (some ⟨g1, 0, none⟩) L.length c1] 26)).heap.size := by simp; omega
        have ex0 := x.cell 0
        have ex1 := x.cell 1
        have ex2 := x.cell 2
        have zx := x.lt
        have er0 := r.cell 0
        have er1 := r.cell 1
        have er2 := r.cell 2
        have zr := r.lt
        go_wp2_with fail
        clear ex0 ex1 ex2 zx er0 er1 er2 zr
        obtain ⟨w3, hw_⟩ : ∃ v, w2.alloc (.cells #[.int .i64 M, .int .i64 K, .slice (some ⟨g1, 0, none⟩) L.length c1] 26) = v := ⟨_, rfl⟩
        rw [hw_] at HB hsz O x r R Q z ⊢
        obtain ⟨q, hq_⟩ : ∃ q, w2.heap.size = q := ⟨_, rfl⟩
        rw [hq_] at z hqq hlqx hlqr ⊢
        clear hw_ hq_
        have HR := Lib.hid (meet_rem (a := ringN M K) (b := cs.length))
        cases hm : decide (ringN M K % cs.length = 0) with
        | false =>
          have hno := Lib.hid (show addOk m k xs cs = false by
            have e : decide (ringN (m + 2) (k + 2) % cs.length = 0) = false := by rw [← HM.out, ← HK.out]; exact hm
            simp [addOk] at e ⊢; intro _ _ _; exact e)
          obtain ⟨RM, hRM⟩ : ∃ r, ringN M K % cs.length = r := ⟨_, rfl⟩
          have hR0 : ¬ RM = 0 := by rw [← hRM]; simpa using hm
          have hrem : Int.tmod (ringN M K : Int) (cs.length : Int) = (RM : Int) := by rw [← hRM]; rfl
          clear hRM
          have ex0 := x.cell 0
          have ex1 := x.cell 1
          have ex2 := x.cell 2
          have zx := x.lt
          have er0 := r.cell 0
          have er1 := r.cell 1
          have er2 := r.cell 2
          have zr := r.lt
          have ez0 := z.cell 0
          have ez1 := z.cell 1
          have ez2 := z.cell 2
          have zz := z.lt
          refine (l8Length_any M K _ hM2 hM8 hK2 hK8).mono ?_
          rintro e w4 ⟨rfl, rfl⟩
          clear ex0 ex1 ex2 zx er0 er1 er2 zr ez0 ez1 ez2 zz
          have ex0 := x.cell 0
          have ex1 := x.cell 1
          have ex2 := x.cell 2
          have zx := x.lt
          have er0 := r.cell 0
          have er1 := r.cell 1
          have er2 := r.cell 2
          have fr0 := r.frozen 0
          have fr1 := r.frozen 1
          have fr2 := r.frozen 2
          have zr := r.lt
          have ez0 := z.cell 0
          have ez1 := z.cell 1
          have ez2 := z.cell 2
          have zz := z.lt
          have F := fin3 (p := w.heap.size + 1) (a := .int .i64 0) (b := .int .i64 0) (c := .slice none 0 0) (Own.nil w3 w.heap.size) (by simp [Value.ownBlock]) HB.out (by omega)
          go_wp2_with fail
          exact bodyPost_ret (v := .tuple #[.agg #[.int .i64 0, .int .i64 0, .slice none 0 0], .bool false]) (by simp [results, Try.results7, go_sem, er0, er1, er2]) rfl (by rw [addX, hno.out]; exact ⟨none, 0, rfl, F.1, F.2⟩)
        | true =>
          have hyes := Lib.hid (show addOk m k xs cs = true by
            have e : decide (ringN (m + 2) (k + 2) % cs.length = 0) = true := by rw [← HM.out, ← HK.out]; exact hm
            unfold addOk; rw [hg, hp, hdd]; simpa using e)
          have hrem : Int.tmod (ringN M K : Int) (cs.length : Int) = 0 := by have e : ringN M K % cs.length = 0 := (by simpa using hm); rw [show Int.tmod (ringN M K : Int) (cs.length : Int) = ((ringN M K % cs.length : Nat) : Int) from rfl, e]; rfl
          refine (l8Length_any M K _ hM2 hM8 hK2 hK8).mono ?_
          rintro e w4 ⟨rfl, rfl⟩
          have HADD := Lib.hid (show putL M K m k L xs 1 1 = midL m k xs 0 by rw [← HL.out, HM.out, HK.out]; rfl)
          have HLEN := Lib.hid (midL_len m k xs 0)
          rw [← HM.out, ← HK.out] at HLEN
          have h64a : M * K ≤ 64 := Nat.mul_le_mul hM8 hK8
          have h64b : m * k ≤ 64 := Nat.mul_le_mul m8 k8
          have hkK : 1 + k ≤ K := by rw [HK.out]; omega
          have hmM : 1 + m ≤ M := by rw [HM.out]; omega
          have HPP := Lib.hid (fun B0 W h1 h2 h3 h4 => l2Put_11 M K m k g1 0 c1 B0 b off c B L xs W h1 h2 h3 h4 hM8 hK8 m1 hLL hl h64a h64b hMK1 hkK hmM)
          rw [HADD.out] at HPP
          have ex0 := x.cell 0
          have ex1 := x.cell 1
          have ex2 := x.cell 2
          have zx := x.lt
          have er0 := r.cell 0
          have er1 := r.cell 1
          have er2 := r.cell 2
          have zr := r.lt
          have ez0 := z.cell 0
          have ez1 := z.cell 1
          have ez2 := z.cell 2
          have zz := z.lt
          go_wp2_with fail
          refine (HPP.out _ _ O.rd R (Nat.le_refl _) (Nat.le_trans hB (by omega))).mono ?_
          rintro e w4 ⟨A3, c3, rfl, own, hb⟩
          clear ex0 ex1 ex2 zx er0 er1 er2 zr ez0 ez1 ez2 zz
          replace O := O.all hb
          replace x := x.all hb
          replace r := r.all hb
          replace z := z.all hb
          replace R := R.all hb (Nat.le_trans (hB) (by omega))
          replace Q := Q.all hb (Nat.le_trans (hB') (by omega))
          have O3 := own.mono (show w.heap.size ≤ _ by omega)
          clear own
          replace HB := Lib.hid (HB.out.trans (hb.mono (by omega)))
          replace hsz := Nat.le_trans hsz hb.size
          clear hb
          obtain ⟨g3, rfl, hg3, _⟩ := O3.some_ (by rw [HLEN.out]; exact Nat.mul_le_mul (show 1 ≤ M by omega) (show 1 ≤ K by omega))
          have ex0 := x.cell 0
          have ex1 := x.cell 1
          have ex2 := x.cell 2
          have zx := x.lt
          have er0 := r.cell 0
          have er1 := r.cell 1
          have er2 := r.cell 2
          have zr := r.lt
          have ez0 := z.cell 0
          have ez1 := z.cell 1
          have ez2 := z.cell 2
          have zz := z.lt
          go_wp2_with fail
          refine (l8Put_any M K g3 0 c3 _ b' off' c' B' (midL m k xs 0) cs _ O3.rd Q (Nat.le_refl _) (Nat.le_trans hB' (by omega)) hM2 hM8 hK2 hK8 HLEN (by omega)).mono ?_
          rintro e w5 ⟨A4, c4, rfl, own, hb⟩
          clear ex0 ex1 ex2 zx er0 er1 er2 zr ez0 ez1 ez2 zz
          replace O := O.all hb
          replace O3 := O3.all hb
          replace x := x.all hb
          replace r := r.all hb
          replace z := z.all hb
          replace R := R.all hb (Nat.le_trans (hB) (by omega))
          replace Q := Q.all hb (Nat.le_trans (hB') (by omega))
          have O4 := own.mono (show w.heap.size ≤ _ by omega)
          clear own
          replace HB := Lib.hid (HB.out.trans (hb.mono (by omega)))
          replace hsz := Nat.le_trans hsz hb.size
          clear hb
          have ex0 := x.cell 0
          have ex1 := x.cell 1
          have ex2 := x.cell 2
          have zx := x.lt
          have er0 := r.cell 0
          have er1 := r.cell 1
          have er2 := r.cell 2
          have fr0 := r.frozen 0
          have fr1 := r.frozen 1
          have fr2 := r.frozen 2
          have zr := r.lt
          have ez0 := z.cell 0
          have ez1 := z.cell 1
          have ez2 := z.cell 2
          have zz := z.lt
          have F := fin3 (p := w.heap.size + 1) (a := .int .i64 M) (b := .int .i64 K) (c := .slice A4 (putRing M K (midL m k xs 0) cs).length c4) O4 (row_ne' O4.1 r (by decide)) HB.out (by omega)
          go_wp2_with fail
          exact bodyPost_ret (v := .tuple #[.agg #[.int .i64 M, .int .i64 K, .slice A4 (putRing M K (midL m k xs 0) cs).length c4], .bool true]) (by simp [results, Try.results7, go_sem, er0, er1, er2]) rfl (by rw [addX, hyes.out, if_pos rfl]; simp only [Int.toNat_natCast]; rw [addL, ← HM.out, ← HK.out]; exact ⟨_, c4, rfl, F.1, F.2⟩)
end Go.Proofs.Ytjfdcmdgpeeabaa
