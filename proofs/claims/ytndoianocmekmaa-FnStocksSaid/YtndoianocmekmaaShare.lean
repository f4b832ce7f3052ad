/- The walks of ColorShare and of the fractions, both texts. No condition. -/
import Derived.Test.YtndoianocmekmaaHungry
namespace Go.Proofs.Ytndoianocmekmaa
open Go.RowKit

theorem dN10 (w : World) (a b : Nat) : (w.drewN a).drewN b = w.drewN (a + b) := by simp [World.drewN, Nat.add_assoc]
theorem quiet_n {P : Program} {f : FuncId} {args : Array Value} {w : World} {n : Nat} {v : Value}
    (h : Calls P f args (w.drewN n) fun e w' => e = .returned v ∧ ∃ q, w' = (w.drewN n).drewN q) : Calls P f args (w.drewN n) fun e w'' => e = .returned v ∧ ∃ m, w'' = w.drewN m :=
  h.mono fun _ _ ⟨he, q, hm⟩ => ⟨he, n + q, by rw [hm]; simp [World.drewN, Nat.add_assoc]⟩
theorem natmod (a b : Nat) : Int.tmod (a : Int) (b : Int) = ((a % b : Nat) : Int) := by
  rw [Int.tmod_eq_emod_of_nonneg (by omega)]; omega
theorem natdiv (a b : Nat) : Int.tdiv (a : Int) (b : Int) = ((a / b : Nat) : Int) := by
  rw [Int.tdiv_eq_ediv_of_nonneg (by omega)]; omega
set_option maxRecDepth 100000 in
set_option maxHeartbeats 1000000 in
theorem commonDivisor_any (a b : Nat) (w : World) (ha : a ≤ 1000000) (hb : b ≤ 1000000) :
    Calls Try.prog 64 #[.int .i64 a, .int .i64 b] w fun e w' => e = .returned (.int .i64 (Nat.gcd a b)) ∧ ∃ q, w' = w.drewN q := by
  go_enter Try.func64, Try.ntmps64
  go_wp2
  go_loopw [0, 1] (fun s0 s1 wr => ∃ x y : Nat, x ≤ 1000000 ∧ y ≤ 1000000 ∧ s0 = .int .i64 x ∧ s1 = .int .i64 y ∧ Hid (Nat.gcd x y = Nat.gcd a b) ∧ ∃ q, wr = w.drewN q) (fun _ s1 _ => (intOf s1).toNat)
  case atStart => exact ⟨a, b, ha, hb, rfl, rfl, Lib.hid rfl, 0, rfl⟩
  case round =>
    obtain ⟨x, y, hx, hy, rfl, rfl, HG, q, rfl⟩ := hrel
    have hm := natmod x y
    obtain ⟨r, HR⟩ : ∃ r, Hid (x % y = r) := ⟨_, rfl⟩
    rw [HR.out] at hm
    by_cases h0 : y = 0
    · subst h0
      have HE := Lib.hid (show Nat.gcd a b = x by rw [← HG.out]; simp)
      clear hm HR HG
      go_wp2
      go_ret
      exact ⟨ret_int (by rw [HE.out]), q, rfl⟩
    · have hlt : r < y := by rw [← HR.out]; exact Nat.mod_lt _ (by omega)
      have HN := Lib.hid (show Nat.gcd y r = Nat.gcd a b by rw [← HG.out, ← HR.out, Nat.gcd_comm x y, Nat.gcd_rec y x, Nat.gcd_comm])
      clear HR HG
      have h0' : ((y : Int) == 0) = false := by simp; omega
      go_wp2
      go_quiet (fail)
      go_wp2
      go_roundw
      case rel => exact ⟨y, r, hy, by omega, rfl, rfl, HN, _, by first | rfl | exact dN10 _ _ _⟩
      case measure => simp [intOf]; omega
set_option maxRecDepth 100000 in
set_option maxHeartbeats 1000000 in
theorem fractionOf_any (n m : Nat) (w : World) (hn : n ≤ 1000000) (hm0 : 1 ≤ m) (hm : m ≤ 1000000) :
    Calls Try.prog 52 #[.int .i64 n, .int .i64 m] w fun e w' => e = .returned (.tuple #[.int .i64 (n / Nat.gcd m n : Nat), .int .i64 (m / Nat.gcd m n : Nat)]) ∧ ∃ q, w' = w.drewN q := by
  have hG := Nat.gcd_pos_of_pos_left n hm0
  obtain ⟨G, HG⟩ : ∃ G, Hid (Nat.gcd m n = G) := ⟨_, rfl⟩
  have HC := Lib.hid (commonDivisor_any m n w hm hn)
  rw [HG.out] at hG HC ⊢
  have d1 := natdiv n G
  have d2 := natdiv m G
  have l1 := Nat.div_le_self n G
  have l2 := Nat.div_le_self m G
  have hne : ((G : Int) == 0) = false := by simp; omega
  generalize n / G = p1 at *
  generalize m / G = p2 at *
  go_enter Try.func52, Try.ntmps52
  go_wp2_with (go_at_call 64; refine HC.out.mono ?_; rintro e w1 ⟨rfl, q, rfl⟩)
  go_quiet (fail)
  go_wp2
  go_ret2
  exact ⟨rfl, _, by first | rfl | exact dN10 _ _ _⟩
set_option maxRecDepth 100000 in
set_option maxHeartbeats 1000000 in
theorem l2Reduce_any (n m : Nat) (w : World) (hn : n ≤ 1000000) (hm0 : 1 ≤ m) (hm : m ≤ 1000000) :
    Calls Try.prog 56 #[.int .i64 n, .int .i64 m] w fun e w' => e = .returned (.tuple #[.int .i64 (n / Nat.gcd m n : Nat), .int .i64 (m / Nat.gcd m n : Nat)]) ∧ ∃ q, w' = w.drewN q := by
  have hmo : mostI (n : Int) (-(n : Int)) = n := by unfold mostI; split <;> omega
  have hG := Nat.gcd_pos_of_pos_left n hm0
  obtain ⟨G, HG⟩ : ∃ G, Hid (Nat.gcd m n = G) := ⟨_, rfl⟩
  rw [HG.out] at hG ⊢
  have HGX := Lib.hid (show Nat.gcd n m = G by rw [Nat.gcd_comm]; exact HG.out)
  clear HG
  have d1 := natdiv n G
  have d2 := natdiv m G
  have l1 := Nat.div_le_self n G
  have l2 := Nat.div_le_self m G
  have hne : ((G : Int) == 0) = false := by simp; omega
  generalize n / G = p1 at *
  generalize m / G = p2 at *
  go_enter Try.func56, Try.ntmps56
  go_wp2_with (go_at_call 66; (with_reducible refine (l1Most_any _ _ _).mono ?_); rintro e w' ⟨rfl, rfl⟩)
  go_loopw [6, 7] (fun s0 s1 wr => ∃ x y : Nat, x ≤ 1000000 ∧ y ≤ 1000000 ∧ s0 = .int .i64 x ∧ s1 = .int .i64 y ∧ Hid (Nat.gcd x y = G) ∧ ∃ q, wr = w.drewN q) (fun _ s1 _ => (intOf s1).toNat)
  case atStart => exact ⟨n, m, hn, hm, by first | rfl | (congr 1), rfl, HGX, 0, rfl⟩
  case round =>
    obtain ⟨x, y, hx, hy, rfl, rfl, HG, q, rfl⟩ := hrel
    have hrem := natmod x y
    obtain ⟨r, HR⟩ : ∃ r, Hid (x % y = r) := ⟨_, rfl⟩
    rw [HR.out] at hrem
    by_cases h0 : y = 0
    · subst h0
      obtain rfl : x = G := by rw [← HG.out]; simp
      clear hrem HR HG
      go_wp2
      go_quiet (fail)
      go_wp2
      go_ret2
      exact ⟨rfl, _, by first | rfl | exact dN10 _ _ _⟩
    · have hlt : r < y := by rw [← HR.out]; exact Nat.mod_lt _ (by omega)
      have HN := Lib.hid (show Nat.gcd y r = G by rw [← HG.out, ← HR.out, Nat.gcd_comm x y, Nat.gcd_rec y x, Nat.gcd_comm])
      clear HR HG
      have h0' : ((y : Int) == 0) = false := by simp; omega
      go_wp2
      go_roundw
      case rel => exact ⟨y, r, hy, by omega, rfl, rfl, HN, _, by first | rfl | exact dN10 _ _ _⟩
      case measure => simp [intOf]; omega
def cnt (l : List Int) (q : Nat) : Nat := (l.filter fun y => decide (y = (q : Int))).length
def shareB (W H : Int) (xs : List Int) (col : Int) : Bool := goodB W H xs && isColorB col
def shareP (W H : Int) (xs : List Int) (col : Int) : Int := if shareB W H xs col = true then ((cnt xs col.toNat / Nat.gcd xs.length (cnt xs col.toNat) : Nat) : Int) else 0
def shareQ (W H : Int) (xs : List Int) (col : Int) : Int := if shareB W H xs col = true then ((xs.length / Nat.gcd xs.length (cnt xs col.toNat) : Nat) : Int) else 0
theorem color_nat {col : Int} (h : isColorB col = true) : ∃ q : Nat, col = (q : Int) ∧ q < 6 := by
  have := of_decide_eq_true h
  exact ⟨col.toNat, by omega, by omega⟩
theorem cnt_le (l : List Int) (q : Nat) : cnt l q ≤ l.length := List.length_filter_le _ l
set_option maxRecDepth 100000 in
set_option maxHeartbeats 2000000 in
theorem implColorShare_any (W H : Int) (A : Option Addr) (n c B : Nat) (xs : List Int) (col : Int) (w : World) (h : Rd w B A n c xs) (hB : B ≤ w.heap.size) :
    Calls Try.prog 28 #[chartV W H (.slice A n c), .int .i64 col] w (Out w (.tuple #[.int .i64 (shareP W H xs col), .int .i64 (shareQ W H xs col), .bool (shareB W H xs col)])) := by
  have hb0 := Lib.hid (show Below w.heap.size w (w.alloc (.cells #[.int .i64 W, .int .i64 H, .slice A n c] 33)) from (Below.refl _ _).alloc (Nat.le_refl _) _)
  have h' := h.alloc hB (.cells #[.int .i64 W, .int .i64 H, .slice A n c] 33)
  have HX := Blk.new w #[.int .i64 W, .int .i64 H, .slice A n c] 33
  by_cases hg : goodB W H xs = true
  rotate_left
  · have hg' := not_false hg
    have hs : shareB W H xs col = false := by simp [shareB, hg']
    rw [show shareP W H xs col = 0 by simp [shareP, hs], show shareQ W H xs col = 0 by simp [shareQ, hs], hs]
    go_enter Try.func28, Try.ntmps28
    go_wp2_with fail
    refine (implCountColors_any W H A n c B xs _ h' (by simp; omega)).mono ?_
    rw [hg']
    rintro e w1 ⟨A1, c1, rfl, own, hb⟩
    go_wp2
    go_ret3
    exact ⟨rfl, hb0.out.trans (hb.mono (by simp))⟩
  by_cases hc : isColorB col = true
  rotate_left
  · have hc' := not_false hc
    have hs : shareB W H xs col = false := by simp [shareB, hc']
    rw [show shareP W H xs col = 0 by simp [shareP, hs], show shareQ W H xs col = 0 by simp [shareQ, hs], hs]
    go_enter Try.func28, Try.ntmps28
    go_wp2_with fail
    refine (implCountColors_any W H A n c B xs _ h' (by simp; omega)).mono ?_
    rw [hg]
    rintro e w1 ⟨A1, c1, rfl, own, hb⟩
    replace hb0 := Lib.hid (hb0.out.trans (hb.mono (by simp)))
    clear hb
    go_wp2_with (go_at_call 51; (with_reducible refine (isColor_any _ _).mono ?_); rintro e w' ⟨rfl, rfl⟩)
    go_ret3
    exact ⟨rfl, hb0.out⟩
  have hs : shareB W H xs col = true := by simp [shareB, hg, hc]
  rw [show shareP W H xs col = _ from if_pos hs, show shareQ W H xs col = _ from if_pos hs, hs]
  clear hs
  obtain ⟨q, rfl, hq⟩ := color_nat hc
  obtain ⟨h64, hl1, hcol⟩ := good_bd hg
  obtain rfl := h.len
  rw [show ((q : Int)).toNat = q from rfl]
  have hcl := cnt_le xs q
  have HC := Lib.hid (fun w => fractionOf_any (cnt xs q) xs.length w (by omega) hl1 (by omega))
  obtain ⟨p1, H1⟩ : ∃ p, Hid (cnt xs q / Nat.gcd xs.length (cnt xs q) = p) := ⟨_, rfl⟩
  obtain ⟨p2, H2⟩ : ∃ p, Hid (xs.length / Nat.gcd xs.length (cnt xs q) = p) := ⟨_, rfl⟩
  rw [H1.out, H2.out] at HC ⊢
  clear H1 H2
  go_enter Try.func28, Try.ntmps28
  go_wp2_with fail
  refine (implCountColors_any W H A xs.length c B xs _ h' (by simp; omega)).mono ?_
  rw [hg, show countC W H xs = countL xs from if_pos hg]
  rintro e w1 ⟨A1, c1, rfl, own, hb⟩
  have hl := countL_len xs
  have hr := own.rd
  replace HX := HX.all hb
  replace hb0 := Lib.hid (hb0.out.trans (hb.mono (by simp)))
  rw [hl] at hr
  obtain ⟨b, off, x, rfl, hbB, hcx, _, _, HXx⟩ := hr.at hq
  obtain rfl : x = (cnt xs q : Nat) := by rw [← HXx.out, countL_get _ _ hq]; rfl
  generalize cnt xs q = m at *
  clear hb HXx own
  have e0 := HX.cell 2
  go_wp2_with (go_at_call 51; (with_reducible refine (isColor_any _ _).mono ?_); rintro e w' ⟨rfl, rfl⟩)
  go_quiet ((go_at_call 52; exact quiet_n (HC.out _)))
  go_wp2
  go_ret3
  exact ⟨rfl, belowN hb0.out _⟩
set_option maxRecDepth 100000 in
set_option maxHeartbeats 2000000 in
theorem specColorShare_any (W H : Int) (A : Option Addr) (n c B : Nat) (xs : List Int) (col : Int) (w : World) (h : Rd w B A n c xs) (hB : B ≤ w.heap.size) :
    Calls Try.prog 30 #[chartV W H (.slice A n c), .int .i64 col] w (Out w (.tuple #[.int .i64 (shareP W H xs col), .int .i64 (shareQ W H xs col), .bool (shareB W H xs col)])) := by
  have hb0 := Lib.hid (show Below w.heap.size w (w.alloc (.cells #[.int .i64 W, .int .i64 H, .slice A n c] 33)) from (Below.refl _ _).alloc (Nat.le_refl _) _)
  have h' := h.alloc hB (.cells #[.int .i64 W, .int .i64 H, .slice A n c] 33)
  have HX := Blk.new w #[.int .i64 W, .int .i64 H, .slice A n c] 33
  by_cases hg : goodB W H xs = true
  rotate_left
  · have hg' := not_false hg
    have hs : shareB W H xs col = false := by simp [shareB, hg']
    rw [show shareP W H xs col = 0 by simp [shareP, hs], show shareQ W H xs col = 0 by simp [shareQ, hs], hs]
    go_enter Try.func30, Try.ntmps30
    go_wp2_with fail
    refine (l2Good_any W H A n c B xs _ h' (by simp; omega)).mono ?_
    rw [hg']
    rintro e w1 ⟨rfl, hb⟩
    go_wp2
    go_ret3
    exact ⟨rfl, hb0.out.trans (hb.mono (by simp))⟩
  by_cases hc : isColorB col = true
  rotate_left
  · have hc' := not_false hc
    have hs : shareB W H xs col = false := by simp [shareB, hc']
    rw [show shareP W H xs col = 0 by simp [shareP, hs], show shareQ W H xs col = 0 by simp [shareQ, hs], hs]
    go_enter Try.func30, Try.ntmps30
    go_wp2_with fail
    refine (l2Good_any W H A n c B xs _ h' (by simp; omega)).mono ?_
    rw [hg]
    rintro e w1 ⟨rfl, hb⟩
    replace hb0 := Lib.hid (hb0.out.trans (hb.mono (by simp)))
    clear hb
    go_wp2_with (go_at_call 55; (with_reducible refine (l2Color_any _ _).mono ?_); rintro e w' ⟨rfl, rfl⟩)
    go_ret3
    exact ⟨rfl, hb0.out⟩
  have hs : shareB W H xs col = true := by simp [shareB, hg, hc]
  rw [show shareP W H xs col = _ from if_pos hs, show shareQ W H xs col = _ from if_pos hs, hs]
  clear hs
  obtain ⟨q, rfl, hq⟩ := color_nat hc
  obtain ⟨h64, hl1, hcol⟩ := good_bd hg
  obtain rfl := h.len
  rw [show ((q : Int)).toNat = q from rfl]
  have hcl := cnt_le xs q
  have HC := Lib.hid (fun w => l2Reduce_any (cnt xs q) xs.length w (by omega) hl1 (by omega))
  obtain ⟨p1, H1⟩ : ∃ p, Hid (cnt xs q / Nat.gcd xs.length (cnt xs q) = p) := ⟨_, rfl⟩
  obtain ⟨p2, H2⟩ : ∃ p, Hid (xs.length / Nat.gcd xs.length (cnt xs q) = p) := ⟨_, rfl⟩
  rw [H1.out, H2.out] at HC ⊢
  clear H1 H2
  go_enter Try.func30, Try.ntmps30
  go_wp2_with fail
  refine (l2Good_any W H A xs.length c B xs _ h' (by simp; omega)).mono ?_
  rw [hg]
  rintro e w1 ⟨rfl, hb⟩
  have h1 := h'.below hb (by simp; omega)
  replace HX := HX.all hb
  replace hb0 := Lib.hid (hb0.out.trans (hb.mono (by simp)))
  have hcc : countC W H xs = countL xs := if_pos hg
  have hl := countL_len xs
  have hget := Lib.hid (show (countL xs).getD q 0 = (cnt xs q : Nat) by rw [countL_get _ _ hq]; rfl)
  have hzz := hb0.out.size
  have hq0 : (0 : Int) ≤ (q : Int) := by omega
  have hq6 : (q : Int) < 6 := by omega
  have HCC := Lib.hid (l10Counts_any W H A xs.length c B xs w1.drew h1.drew (by simp; omega))
  rw [hcc] at HCC
  clear hb h' h hcc
  generalize cnt xs q = m at *
  generalize countL xs = zs at *
  have e0 := HX.cell 0
  have e1 := HX.cell 1
  have e2 := HX.cell 2
  go_wp2_with (go_at_call 55; (with_reducible refine (l2Color_any _ _).mono ?_); rintro e w' ⟨rfl, rfl⟩)
  -- REGION
  refine wp_region_noPanic ?_
  refine wp_region_held_drew (S := (fun w' => w'.cell? ⟨w.heap.size, 0, none⟩ = some (.int .i64 W) ∧ w'.cell? ⟨w.heap.size, 1, none⟩ = some (.int .i64 H) ∧ w'.cell? ⟨w.heap.size, 2, none⟩ = some (.slice A xs.length c))) (by kernel_rfl) (by go_keep) (fun hHeld => ?_)
  refine wpAnyH_take (i := 0) (v := ?_) rfl (by kernel_rfl) (by kernel_rfl) (by kernel_rfl) (fun _ _ _ h => h) (Or.inl ⟨by rfl, ?_⟩) (by assumption) ?_
  rotate_left
  · intro w hSw; (try dsimp only at hSw); go_simp; (try with_reducible rfl)
  (try simp only [Act.put, List.getElem_toArray, List.getElem_cons_zero, List.setIfInBounds_toArray, List.set_cons_zero, List.set_cons_succ])
  refine wpAnyH_take (i := 2) (v := ?_) rfl (by kernel_rfl) (by kernel_rfl) (by kernel_rfl) (fun _ _ _ h => h) (Or.inl ⟨by rfl, ?_⟩) (by assumption) ?_
  rotate_left
  · intro w hSw; (try dsimp only at hSw); go_simp; (try with_reducible rfl)
  (try simp only [Act.put, List.getElem_toArray, List.getElem_cons_zero, List.getElem_cons_succ, List.setIfInBounds_toArray, List.set_cons_zero, List.set_cons_succ])
  refine wpAnyH_take (i := 5) (v := ?_) rfl (by kernel_rfl) (by kernel_rfl) (by kernel_rfl) (fun _ _ _ h => h) (Or.inl ⟨by rfl, ?_⟩) (by assumption) ?_
  rotate_left
  · intro w hSw; (try dsimp only at hSw); go_simp; (try with_reducible rfl)
  (try simp only [Act.put, List.getElem_toArray, List.getElem_cons_zero, List.getElem_cons_succ, List.setIfInBounds_toArray, List.set_cons_zero, List.set_cons_succ])
  refine wpAnyH_take (i := 6) (v := ?_) rfl (by kernel_rfl) (by kernel_rfl) (by kernel_rfl) (fun _ _ _ h => h) (Or.inl ⟨by rfl, ?_⟩) (by assumption) ?_
  rotate_left
  · intro w hSw; (try dsimp only at hSw); go_simp; (try with_reducible rfl)
  (try simp only [Act.put, List.getElem_toArray, List.getElem_cons_zero, List.getElem_cons_succ, List.setIfInBounds_toArray, List.set_cons_zero, List.set_cons_succ])
  refine wpAnyH_take (i := 7) (v := ?_) rfl (by kernel_rfl) (by kernel_rfl) (by kernel_rfl) (fun _ _ _ h => h) (Or.inl ⟨by rfl, ?_⟩) (by assumption) ?_
  rotate_left
  · intro w hSw; (try dsimp only at hSw); go_simp; (try with_reducible rfl)
  (try simp only [Act.put, List.getElem_toArray, List.getElem_cons_zero, List.getElem_cons_succ, List.setIfInBounds_toArray, List.set_cons_zero, List.set_cons_succ])
  refine wpAnyH_ready (rs := [1]) (by kernel_rfl) (by simp) ?_
  refine AllReadyH.cons rfl (fun K hK => ?_) AllReadyH.nil
  go_simp
  refine HCC.out.mono ?_
  rintro e w2 ⟨A1, c1, rfl, own, hb⟩
  replace hb := below_drew' hb
  have hr := own.rd
  rw [hl] at hr
  obtain ⟨b, off, x, rfl, hbB, hcx, _, _, HXx⟩ := hr.at hq
  obtain rfl : x = (m : Nat) := by rw [← HXx.out, hget.out]
  replace HX := HX.all hb
  replace hb0 := Lib.hid (hb0.out.trans (hb.mono hb0.out.size))
  clear hb
  refine hK.out _ _ (by exact ⟨HX.cell 0, HX.cell 1, HX.cell 2⟩) (fun hHeld => ?_)
  clear hK K
  (try simp only [Act.put, List.getElem_toArray, List.getElem_cons_zero, List.getElem_cons_succ, List.setIfInBounds_toArray, List.set_cons_zero, List.set_cons_succ])
  refine wpAnyH_take (i := 3) (v := ?_) rfl (by kernel_rfl) (by kernel_rfl) (by kernel_rfl) (fun _ _ _ h => h) (Or.inl ⟨by rfl, ?_⟩) (by assumption) ?_
  rotate_left
  · intro w hSw; (try dsimp only at hSw); go_simp; (try with_reducible rfl)
  (try simp only [Act.put, List.getElem_toArray, List.getElem_cons_zero, List.getElem_cons_succ, List.setIfInBounds_toArray, List.set_cons_zero, List.set_cons_succ])
  refine wpAnyH_ready (rs := [4]) (by kernel_rfl) (by simp) ?_
  refine AllReadyH.cons rfl (fun K hK => ?_) AllReadyH.nil
  go_simp
  refine hK.out _ _ (by exact ⟨HX.cell 0, HX.cell 1, HX.cell 2⟩) (fun hHeld => ?_)
  clear hK K
  (try simp only [Act.put, List.getElem_toArray, List.getElem_cons_zero, List.getElem_cons_succ, List.setIfInBounds_toArray, List.set_cons_zero, List.set_cons_succ])
  refine wpAnyH_ready (rs := [8]) (by kernel_rfl) (by simp) ?_
  refine AllReadyH.cons rfl (fun K hK => ?_) AllReadyH.nil
  go_simp
  refine (HC.out _).mono ?_
  rintro e w3 ⟨rfl, q3, rfl⟩
  refine hK.out _ _ (by first | exact ⟨HX.cell 0, HX.cell 1, HX.cell 2⟩ | exact hHeld) (fun hHeld => ?_)
  clear hK K
  (try simp only [Act.put, List.getElem_toArray, List.getElem_cons_zero, List.getElem_cons_succ, List.setIfInBounds_toArray, List.set_cons_zero, List.set_cons_succ])
  refine wpAnyH_take (i := 9) (v := ?_) rfl (by kernel_rfl) (by kernel_rfl) (by kernel_rfl) (fun _ _ _ h => h) (Or.inl ⟨by rfl, ?_⟩) (by assumption) ?_
  rotate_left
  · intro w hSw; (try dsimp only at hSw); go_simp; (try with_reducible rfl)
  (try simp only [Act.put, List.getElem_toArray, List.getElem_cons_zero, List.getElem_cons_succ, List.setIfInBounds_toArray, List.set_cons_zero, List.set_cons_succ])
  refine wpAnyH_take (i := 10) (v := ?_) rfl (by kernel_rfl) (by kernel_rfl) (by kernel_rfl) (fun _ _ _ h => h) (Or.inl ⟨by rfl, ?_⟩) (by assumption) ?_
  rotate_left
  · intro w hSw; (try dsimp only at hSw); go_simp; (try with_reducible rfl)
  (try simp only [Act.put, List.getElem_toArray, List.getElem_cons_zero, List.getElem_cons_succ, List.setIfInBounds_toArray, List.set_cons_zero, List.set_cons_succ])
  refine wpAnyH_take (i := 11) (v := ?_) rfl (by kernel_rfl) (by kernel_rfl) (by kernel_rfl) (fun _ _ _ h => h) (Or.inl ⟨by rfl, ?_⟩) (by assumption) ?_
  rotate_left
  · intro w hSw; (try dsimp only at hSw); go_simp; (try with_reducible rfl)
  (try simp only [Act.put, List.getElem_toArray, List.getElem_cons_zero, List.getElem_cons_succ, List.setIfInBounds_toArray, List.set_cons_zero, List.set_cons_succ])
  refine wpAnyH_take (i := 12) (v := ?_) rfl (by kernel_rfl) (by kernel_rfl) (by kernel_rfl) (fun _ _ _ h => h) (Or.inl ⟨by rfl, ?_⟩) (by assumption) ?_
  rotate_left
  · intro w hSw; (try dsimp only at hSw); go_simp; (try with_reducible rfl)
  (try simp only [Act.put, List.getElem_toArray, List.getElem_cons_zero, List.getElem_cons_succ, List.setIfInBounds_toArray, List.set_cons_zero, List.set_cons_succ])
  refine wpAnyH_take (i := 13) (v := ?_) rfl (by kernel_rfl) (by kernel_rfl) (by kernel_rfl) (fun _ _ _ h => h) (Or.inl ⟨by rfl, ?_⟩) (by assumption) ?_
  rotate_left
  · intro w hSw; (try dsimp only at hSw); go_simp; (try with_reducible rfl)
  (try simp only [Act.put, List.getElem_toArray, List.getElem_cons_zero, List.getElem_cons_succ, List.setIfInBounds_toArray, List.set_cons_zero, List.set_cons_succ])
  refine wpAnyH_done (by kernel_rfl) ?_ _
  refine NoPanic.normal ?_
  go_wp2
  go_ret3
  exact ⟨rfl, belowN hb0.out _⟩
end Go.Proofs.Ytndoianocmekmaa
