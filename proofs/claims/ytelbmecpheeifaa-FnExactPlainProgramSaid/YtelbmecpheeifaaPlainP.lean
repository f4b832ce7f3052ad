/- The walks of PlainProgram, both texts. No condition. -/
import Derived.Test.YtelbmecpheeifaaDesign
import Derived.Test.YtelbmecpheeifaaDesignHelp
import Derived.Test.YtelbmecpheeifaaRunsMath
import Derived.Test.YtelbmecpheeifaaRestI
import Derived.Deep.Cut
import Derived.BigQuiet
namespace Go.Proofs.Ytelbmecpheeifaa
open Go.RowKit

set_option maxRecDepth 100000 in
set_option maxHeartbeats 400000 in
theorem otherColor_any (x y : Int) (q0 b off n c : Nat) (w : World) (h0 : w.cell? ⟨q0, 0, none⟩ = some (.slice (some ⟨b, off, none⟩) n c)) (hn : 0 < n) (hn2 : n ≤ 9223372036854775807) (hy : w.cell? ⟨b, off, none⟩ = some (.int .i64 y)) :
    Calls Try.prog 59 #[.int .i64 x, .pointer (some ⟨q0, 0, none⟩)] w fun e w' => e = .returned (.bool (x != y)) ∧ w = w' := by
  have hn' : (0 : Int) < (n : Int) := by omega
  go_enter Try.func59, Try.ntmps59
  go_wp2
  go_ret
  exact ⟨rfl, rfl⟩
set_option maxRecDepth 100000 in
set_option maxHeartbeats 2000000 in
theorem indexRun_any (b off n c B q0 : Nat) (xs : List Int) (w : World) (h : Rd w B (some ⟨b, off, none⟩) n c xs) (h0 : w.cell? ⟨q0, 0, none⟩ = some (.slice (some ⟨b, off, none⟩) n c)) (hn : 0 < n) (v : Int) (hv : Hid (v = if runL xs < n then (runL xs : Int) else -1)) :
    Calls Try.prog 58 #[.slice (some ⟨b, off, none⟩) n c, .func (.func 59) #[] #[.pointer (some ⟨q0, 0, none⟩)]] w fun e w' => e = .returned (.int .i64 v) ∧ w = w' := by
  have hl := Lib.hid h.len
  have hlt := h.len_lt
  obtain ⟨b', off', y, e, _, hy, _, _, HY⟩ := h.at (k := 0) hn
  cases e
  have hcl := Lib.hid (fun x => otherColor_any x y q0 b off n c w h0 hn hlt hy)
  clear hy h0
  go_enter Try.func58, Try.ntmps58
  go_wp2
  go_loopw [8] (fun s8 wr => ∃ k : Nat, k ≤ n ∧ s8 = .int .i64 k ∧ Hid (∀ j, j < k → xs.getD j 0 = xs.getD 0 0) ∧ wr = w) (fun s8 _ => n - (intOf s8).toNat)
  case atStart => exact ⟨0, Nat.zero_le _, rfl, Lib.hid (fun j hj => absurd hj (Nat.not_lt_zero _)), rfl⟩
  case round =>
    obtain ⟨k, hk, rfl, HK, hw⟩ := hrel
    subst hw
    by_cases hkn : k < n
    · obtain ⟨b', off', x, e, _, hx, _, _, HX⟩ := h.at hkn
      cases e
      have hcall := Lib.hid (hcl.out x)
      by_cases hxy : x = y
      · subst hxy
        have HN := Lib.hid (show ∀ j, j < k + 1 → xs.getD j 0 = xs.getD 0 0 from fun j hj => by
          by_cases e : j = k
          · subst e; rw [HX.out, HY.out]
          · exact HK.out j (by omega))
        rw [show (x != x) = false by simp] at hcall
        go_wp2_with (go_at_call 59; refine hcall.out.mono ?_; rintro e w2 ⟨rfl, rfl⟩)
        go_roundw
        case rel => exact ⟨k + 1, by omega, by go_num, HN, by first | rfl | trivial⟩
        case measure => simp [intOf]; omega
      · have HR := Lib.hid (runL_eq (ys := xs) (n := k) (by rw [hl.out]; exact hk) HK.out (fun _ => by rw [HX.out, HY.out]; exact hxy))
        rw [show (x != y) = true by simpa using hxy] at hcall
        go_wp2_with (go_at_call 59; refine hcall.out.mono ?_; rintro e w2 ⟨rfl, rfl⟩)
        go_ret
        exact ⟨ret_int (by rw [hv.out, HR.out, if_pos hkn]), rfl⟩
    · obtain rfl : k = n := by omega
      have HR := Lib.hid (runL_eq (ys := xs) (n := k) (by rw [hl.out]; exact hk) HK.out (fun hq => by rw [hl.out] at hq; omega))
      go_wp2
      go_ret
      exact ⟨ret_int (by rw [hv.out, HR.out, if_neg (by omega)]), rfl⟩
set_option maxRecDepth 100000 in
set_option maxHeartbeats 1000000 in
theorem firstRun_any (b off n c B : Nat) (xs : List Int) (w : World) (h : Rd w B (some ⟨b, off, none⟩) n c xs) (hB : B ≤ w.heap.size) (hn : 0 < n) (r : Nat) (hr : runL xs = r) :
    Calls Try.prog 44 #[.slice (some ⟨b, off, none⟩) n c] w (Out w (.int .i64 (r : Int))) := by
  subst hr
  have hl := h.len
  have hr := runL_pos (ys := xs) (by omega)
  have hb0 : Below w.heap.size w (w.alloc (.cells #[.slice (some ⟨b, off, none⟩) n c] 29)) := (Below.refl _ _).alloc (Nat.le_refl _) _
  have x0 := (Blk.new w #[.slice (some ⟨b, off, none⟩) n c] 29).cell 0
  have hR := h.alloc hB (.cells #[.slice (some ⟨b, off, none⟩) n c] 29)
  have hc := Lib.hid (indexRun_any b off n c B w.heap.size xs _ hR x0 hn _ (Lib.hid rfl))
  have HL := Lib.hid hl
  clear hl
  by_cases hlt : runL xs < n
  · rw [if_pos hlt] at hc
    go_enter Try.func44, Try.ntmps44
    go_wp2_with (go_at_call 58; refine hc.out.mono ?_; rintro e w2 ⟨rfl, rfl⟩)
    go_ret
    exact ⟨rfl, hb0⟩
  · rw [if_neg hlt] at hc
    have e : n = runL xs := by have := HL.out; omega
    have he := Lib.hid (congrArg (Nat.cast (R := Int)) e)
    clear e
    go_enter Try.func44, Try.ntmps44
    go_wp2_with (go_at_call 58; refine hc.out.mono ?_; rintro e w2 ⟨rfl, rfl⟩)
    go_ret
    exact ⟨ret_int he.out, hb0⟩
theorem design_ok {a b c d : Int} (ha : I64 a) (hb : I64 b) (hc : I64 c) (hd : I64 d) : designF.ok ⟨a, b, c, d⟩ := ⟨ha, hb, hc, hd⟩
set_option maxRecDepth 100000 in
set_option maxHeartbeats 4000000 in
theorem implPlainProgram_any (W H : Int) (A : Option Addr) (n c B : Nat) (xs : List Int) (w : World) (h : Rd w B A n c xs) (hB : B ≤ w.heap.size) :
    Calls Try.prog 30 #[.agg #[.int .i64 W, .int .i64 H, .slice A n c]] w (OutF designF w (plainP W H xs) (plainB W H xs)) := by
  obtain rfl := h.len
  have x0 := Blk.new w #[.int .i64 W, .int .i64 H, .slice A xs.length c] 31
  have hb0 : Below w.heap.size w (w.alloc (.cells #[.int .i64 W, .int .i64 H, .slice A xs.length c] 31)) := (Below.refl _ _).alloc (Nat.le_refl _) _
  have hR0 := h.alloc hB (.cells #[.int .i64 W, .int .i64 H, .slice A xs.length c] 31)
  have hz0 : B ≤ (w.alloc (.cells #[.int .i64 W, .int .i64 H, .slice A xs.length c] 31)).heap.size := by simp; omega
  cases hg : goodB W H xs with
  | false =>
    have HP := Lib.hid (show plainB W H xs = false by simp [plainB, hg])
    have HQ := Lib.hid (show plainP W H xs = [] by simp [plainP, HP.out])
    rw [HP.out, HQ.out]
    go_enter Try.func30, Try.ntmps30
    go_wp2_with fail
    refine (implIsChart_any W H A _ c B xs _ hR0 hz0).mono ?_
    rintro e w1 ⟨rfl, hb⟩
    rw [hg]
    go_wp2
    go_ret2
    exact ⟨none, 0, rfl, OwnF.nil _ _ _, hb0.trans (hb.mono hb0.size)⟩
  | true =>
  by_cases hH : H = 1
  rotate_left
  · have HP := Lib.hid (show plainB W H xs = false by simp [plainB, hH])
    have HQ := Lib.hid (show plainP W H xs = [] by simp [plainP, HP.out])
    have hH' : (H != 1) = true := by simpa using hH
    rw [HP.out, HQ.out]
    go_enter Try.func30, Try.ntmps30
    go_wp2_with fail
    refine (implIsChart_any W H A _ c B xs _ hR0 hz0).mono ?_
    rintro e w1 ⟨rfl, hb⟩
    replace x0 := x0.all hb
    have e1 := x0.cell 1
    rw [hg]
    go_wp2
    go_ret2
    exact ⟨none, 0, rfl, OwnF.nil _ _ _, hb0.trans (hb.mono hb0.size)⟩
  subst hH
  have HP := Lib.hid (show plainB W 1 xs = true by simp [plainB, hg])
  have HQ := Lib.hid (show plainP W 1 xs = plainGo xs.length true xs by simp [plainP, HP.out])
  rw [HP.out, HQ.out]
  obtain ⟨hW8, _, hwl, hcol⟩ := goodB_yes hg
  obtain rfl : W = (xs.length : Int) := by omega
  obtain ⟨b, off, rfl, _, _⟩ := h.cells (by omega)
  have HG := Lib.hid hg
  clear hwl hg
  go_enter Try.func30, Try.ntmps30
  go_wp2_with fail
  refine (implIsChart_any (xs.length : Int) 1 _ _ c B xs _ hR0 hz0).mono ?_
  rintro e w1 ⟨rfl, hb⟩
  replace x0 := x0.all hb
  have e1 := x0.cell 1
  have hb1 := hb0.trans (hb.mono hb0.size)
  rw [HG.out]
  have hn64 : xs.length ≤ 64 := by omega
  clear hcol hb hR0 hz0
  go_wp2
  clear e1
  go_loopw [5, 4] (fun i s wr => ∃ (k : Nat) (A6 : Option Addr) (n6 c6 : Nat) (L : List DesignR), k ≤ xs.length ∧ i = .int .i64 k ∧ s = .slice A6 n6 c6 ∧ Hid (PlainAt xs k L) ∧ OwnF designF wr w.heap.size (.slice A6 n6 c6) L ∧ L.length = n6 ∧ Blk wr w.heap.size 31 #[.int .i64 (xs.length : Int), .int .i64 1, .slice (some ⟨b, off, none⟩) xs.length c] ∧ Below w.heap.size w wr) (fun i _ _ => xs.length - (intOf i).toNat)
  case atStart => exact ⟨0, none, 0, 0, [], Nat.zero_le _, rfl, rfl, Lib.hid (plainAt_zero _), OwnF.nil _ _ _, rfl, x0, hb1⟩
  case round =>
    clear x0 hb1 hb0
    obtain ⟨k, A6, n6, c6, L, hk, rfl, rfl, HL, own6, hln, x0, hb⟩ := hrel
    have hzz := hb.size
    have hxl := x0.lt
    have hln6 : n6 ≤ 128 := by have := HL.out.len; omega
    have e0 := x0.cell 0
    have e2 := x0.cell 2
    by_cases hlt : k < xs.length
    · have hR := h.all hb hB
      obtain ⟨_, _, q, e, _, hq, hq0, hq1, HQ0⟩ := hR.at hlt
      cases e
      have hkn : (k : Int) < (xs.length : Int) := by omega
      have hki : (0 : Int) ≤ (k : Int) := by omega
      have hr := runL_pos (ys := xs.drop k) (by rw [List.length_drop]; omega)
      obtain ⟨r, HR⟩ : ∃ r, Hid (runL (xs.drop k) = r) := ⟨_, rfl⟩
      rw [HR.out, List.length_drop] at hr
      have HLN := Lib.hid hln
      clear hln
      go_wp2_with (refine wpList_restI rfl (.tmp 20) (.tmp 21) rfl b off B xs.length c k xs _ rfl rfl rfl (by omega) hR ?_)
      intro off' hR'
      go_wp2_with fail
      refine (firstRun_any b off' (xs.length - k) (c - k) B (xs.drop k) _ hR' (by omega) (by omega) r HR.out).mono ?_
      rintro e w2 ⟨rfl, hb2⟩
      have hzz2 := hb2.size
      replace x0 := x0.all hb2
      replace hq := (hb2.cell (p := ⟨b, off + k, none⟩) (by have := hR.cells (by omega); obtain ⟨_, _, e, hlt2, _⟩ := this; cases e; show b < _; omega)).trans hq
      replace own6 := own6.all hb2
      replace hb := hb.trans (hb2.mono hzz)
      have hzw : w.heap.size ≤ w2.heap.size := by omega
      have hir : I64 (r : Int) := ⟨by omega, by omega⟩
      have hi1 : I64 1 := ⟨by omega, by omega⟩
      have hi0 : I64 0 := ⟨by omega, by omega⟩
      have hi4 : I64 4 := ⟨by omega, by omega⟩
      have ee2 := x0.cell 2
      clear hb2 hR hR' e0 e2
      by_cases hk0 : k = 0
      · subst hk0
        have HN := Lib.hid (plainAt_first HL.out (by omega) HR.out)
        rw [HQ0.out] at HN
        rw [Nat.add_zero] at hq
        go_wp2_with (at_builtin; refine wpList_pushF designF rfl w2 (.tmp 24) (.tmp 32) 25 (.agg #[.int .i64 0, .int .i64 0, .int .i64 0, .int .i64 0]) 32 rfl Try.underlying25 info_Design rfl (by decide) (by decide) w.heap.size n6 _ L ⟨1, r, 1, q⟩ #[.int .i64 1, .int .i64 r, .int .i64 1, .int .i64 q] rfl (design_ok hi1 hir hi1 ⟨hq0, hq1⟩) HLN.out rfl rfl own6 (by omega) hzw ?_)
        intro A8 c8 w8 o8 hg8
        have hb8 := hb.grown hg8 (by omega) (fun q hq => (own6.bd q hq).1)
        have x8 := x0.mark hg8 (fun q hq e => by subst e; exact row_ne own6.1 x0 (by decide) w.heap.size hq rfl)
        clear own6 hb x0 hg8 ee2 hq
        go_wp2
        go_roundw
        case rel => exact ⟨0 + r, A8, n6 + 1, c8, _, by omega, by go_num, rfl, HN, o8, by simp [HLN.out], x8, hb8⟩
        case measure => simp [intOf]; omega
      · have HN := Lib.hid (plainAt_next HL.out (by omega) hlt HR.out)
        rw [HQ0.out] at HN
        have hk0' : (0 : Int) < (k : Int) := by omega
        go_wp2_with (at_builtin; refine wpList_pushF designF rfl w2 (.tmp 24) (.tmp 32) 25 (.agg #[.int .i64 0, .int .i64 0, .int .i64 0, .int .i64 0]) 32 rfl Try.underlying25 info_Design rfl (by decide) (by decide) w.heap.size n6 _ L ⟨1, r, 1, q⟩ #[.int .i64 1, .int .i64 r, .int .i64 1, .int .i64 q] rfl (design_ok hi1 hir hi1 ⟨hq0, hq1⟩) HLN.out rfl rfl own6 (by omega) hzw ?_)
        intro A8 c8 w8 o8 hg8
        have hb8 := hb.grown hg8 (by omega) (fun q hq => (own6.bd q hq).1)
        have x8 := x0.mark hg8 (fun q hq e => by subst e; exact row_ne own6.1 x0 (by decide) w.heap.size hq rfl)
        have hz8 : w.heap.size ≤ w8.heap.size := Nat.le_trans hzw hg8.size
        have HN8 := Lib.hid (show (L ++ [(⟨1, r, 1, q⟩ : DesignR)]).length = n6 + 1 by simp [HLN.out])
        clear own6 hb x0 hg8 ee2 hq
        go_wp2_with (at_builtin; refine wpList_pushF designF rfl w8 (.tmp 36) (.tmp 38) 25 (.agg #[.int .i64 0, .int .i64 0, .int .i64 0, .int .i64 0]) 32 rfl Try.underlying25 info_Design rfl (by decide) (by decide) w.heap.size (n6 + 1) _ (L ++ [(⟨1, r, 1, q⟩ : DesignR)]) ⟨4, 0, 0, 0⟩ #[.int .i64 4, .int .i64 0, .int .i64 0, .int .i64 0] rfl (design_ok hi4 hi0 hi0 hi0) HN8.out rfl rfl o8 (by omega) hz8 ?_)
        intro A9 c9 w9 o9 hg9
        have hb9 := hb8.grown hg9 (by omega) (fun q hq => (o8.bd q hq).1)
        have x9 := x8.mark hg9 (fun q hq e => by subst e; exact row_ne o8.1 x8 (by decide) w.heap.size hq rfl)
        clear o8 hb8 x8 hg9
        go_wp2
        go_roundw
        case rel => exact ⟨k + r, A9, n6 + 1 + 1, c9, _, by omega, by go_num, rfl, HN, by first | exact o9 | (rw [List.append_assoc]; exact o9), by simp [HLN.out], x9, hb9⟩
        case measure => simp [intOf]; omega
    · have HF := Lib.hid (plainAt_end HL.out (show xs.length ≤ k by omega))
      have hl : n6 = (plainGo xs.length true xs).length := by rw [← HF.out]; exact hln.symm
      rw [HF.out] at own6
      clear HL HF hln hln6
      subst hl
      go_wp2
      go_ret2
      exact ⟨A6, c6, rfl, own6, hb⟩
set_option maxRecDepth 100000 in
set_option maxHeartbeats 4000000 in
theorem specPlainProgram_any (W H : Int) (A : Option Addr) (n c B : Nat) (xs : List Int) (w : World) (h : Rd w B A n c xs) (hB : B ≤ w.heap.size) :
    Calls Try.prog 28 #[.agg #[.int .i64 W, .int .i64 H, .slice A n c]] w (OutF designF w (plainP W H xs) (plainB W H xs)) := by
  obtain rfl := h.len
  have x0 := Blk.new w #[.int .i64 W, .int .i64 H, .slice A xs.length c] 31
  have hb0 : Below w.heap.size w (w.alloc (.cells #[.int .i64 W, .int .i64 H, .slice A xs.length c] 31)) := (Below.refl _ _).alloc (Nat.le_refl _) _
  have hR0 := h.alloc hB (.cells #[.int .i64 W, .int .i64 H, .slice A xs.length c] 31)
  have hz00 : B ≤ (w.alloc (.cells #[.int .i64 W, .int .i64 H, .slice A xs.length c] 31)).heap.size := by simp; omega
  have o0 := OwnF.empty designF (w := w.alloc (.cells #[.int .i64 W, .int .i64 H, .slice A xs.length c] 31)) (lo := w.heap.size) hb0.size
  rw [show (w.alloc (.cells #[.int .i64 W, .int .i64 H, .slice A xs.length c] 31)).heap.size = w.heap.size + 1 by simp] at o0
  replace x0 := x0.alloc (.cells #[] 50)
  replace hR0 := hR0.alloc hz00 (.cells #[] 50)
  replace hb0 := hb0.alloc hb0.size (.cells #[] 50)
  have hz0 : B ≤ ((w.alloc (.cells #[.int .i64 W, .int .i64 H, .slice A xs.length c] 31)).alloc (.cells #[] 50)).heap.size := by simp; omega
  cases hg : goodB W H xs with
  | false =>
    have HP := Lib.hid (show plainB W H xs = false by simp [plainB, hg])
    have HQ := Lib.hid (show plainP W H xs = [] by simp [plainP, HP.out])
    rw [HP.out, HQ.out]
    go_enter Try.func28, Try.ntmps28
    go_wp2_with fail
    refine (l2Good_any W H A _ c B xs _ hR0 hz0).mono ?_
    rintro e w1 ⟨rfl, hb⟩
    rw [hg]
    go_wp2
    go_ret2
    exact ⟨_, 0, rfl, o0.all hb, hb0.trans (hb.mono hb0.size)⟩
  | true =>
  by_cases hH : H = 1
  rotate_left
  · have HP := Lib.hid (show plainB W H xs = false by simp [plainB, hH])
    have HQ := Lib.hid (show plainP W H xs = [] by simp [plainP, HP.out])
    have hH' : (H != 1) = true := by simpa using hH
    rw [HP.out, HQ.out]
    go_enter Try.func28, Try.ntmps28
    go_wp2_with fail
    refine (l2Good_any W H A _ c B xs _ hR0 hz0).mono ?_
    rintro e w1 ⟨rfl, hb⟩
    replace x0 := x0.all hb
    have e1 := x0.cell 1
    rw [hg]
    go_wp2
    go_ret2
    exact ⟨_, 0, rfl, o0.all hb, hb0.trans (hb.mono hb0.size)⟩
  subst hH
  have HP := Lib.hid (show plainB W 1 xs = true by simp [plainB, hg])
  have HQ := Lib.hid (show plainP W 1 xs = plainGo xs.length true xs by simp [plainP, HP.out])
  rw [HP.out, HQ.out]
  obtain ⟨hW8, _, hwl, hcol⟩ := goodB_yes hg
  obtain rfl : W = (xs.length : Int) := by omega
  obtain ⟨b, off, rfl, _, _⟩ := h.cells (by omega)
  have HG := Lib.hid hg
  clear hwl hg
  go_enter Try.func28, Try.ntmps28
  go_wp2_with fail
  refine (l2Good_any (xs.length : Int) 1 _ _ c B xs _ hR0 hz0).mono ?_
  rintro e w1 ⟨rfl, hb⟩
  replace x0 := x0.all hb
  replace o0 := o0.all hb
  have e1 := x0.cell 1
  have hb1 := hb0.trans (hb.mono hb0.size)
  rw [HG.out]
  have hn64 : xs.length ≤ 64 := by omega
  clear hcol hb hR0 hz0 hz00
  go_wp2
  clear e1
  go_loopw [5, 6, 4] (fun vn vi s wr => ∃ (k r : Nat) (A6 : Option Addr) (n6 c6 : Nat) (L : List DesignR), 1 ≤ r ∧ k ≤ xs.length ∧ (k + r ≤ xs.length ∨ (k = xs.length ∧ r = 1)) ∧ vi = .int .i64 ((k + r : Nat) : Int) ∧ vn = .int .i64 (r : Int) ∧ s = .slice A6 n6 c6 ∧ Hid (PlainAt xs k L) ∧ Hid (∀ j, k ≤ j → j < k + r → j < xs.length → xs.getD j 0 = xs.getD k 0) ∧ OwnF designF wr w.heap.size (.slice A6 n6 c6) L ∧ L.length = n6 ∧ Blk wr w.heap.size 31 #[.int .i64 (xs.length : Int), .int .i64 1, .slice (some ⟨b, off, none⟩) xs.length c] ∧ Below w.heap.size w wr) (fun _ vi _ _ => xs.length + 1 - (intOf vi).toNat)
  case atStart => exact ⟨0, 1, _, 0, _, [], Nat.le_refl _, Nat.zero_le _, .inl (by omega), rfl, rfl, rfl, Lib.hid (plainAt_zero _), Lib.hid (fun j h1 h2 h3 => by rw [show j = 0 by omega]), o0, rfl, x0, hb1⟩
  case round =>
    clear x0 hb1 hb0 o0
    obtain ⟨k, r, A6, n6, c6, L, hr1, hk, hkr, rfl, rfl, rfl, HL, HE, own6, hln, x0, hb⟩ := hrel
    have hzz := hb.size
    have hxl := x0.lt
    have hln6 : n6 ≤ 128 := by have := HL.out.len; omega
    have e0 := x0.cell 0
    have e2 := x0.cell 2
    have ee0 := x0.cell 0
    have ee2 := x0.cell 2
    have HLN := Lib.hid hln
    clear hln
    by_cases hle : k + r ≤ xs.length
    · have hR := h.all hb hB
      obtain ⟨m, HM⟩ : ∃ m, Hid (m + 1 = k + r) := ⟨k + r - 1, show k + r - 1 + 1 = k + r by omega⟩
      obtain ⟨_, _, q, e, _, hcp, hq0, hq1, HQ0⟩ := hR.at (show m < xs.length by have := HM.out; omega)
      cases e
      have HX0 := Lib.hid (show q = xs.getD k 0 by rw [← HQ0.out]; have := HM.out; exact HE.out m (by omega) (by omega) (by omega))
      obtain ⟨t, HT⟩ : ∃ t : Nat, Hid (t = k + r) := ⟨_, rfl⟩
      have hm0 : (0 : Int) ≤ (m : Int) := by omega
      have hm1 : (m : Int) < (xs.length : Int) := by have := HM.out; omega
      have ew : IntKind.i64.wrap (((k + r : Nat) : Int) - 1) = (m : Int) := by have := HM.out; rw [IntWalk.i64_in _ (by omega)]; omega
      have hir : I64 (r : Int) := ⟨by omega, by omega⟩
      have hi1 : I64 1 := ⟨by omega, by omega⟩
      have hi0 : I64 0 := ⟨by omega, by omega⟩
      have hi4 : I64 4 := ⟨by omega, by omega⟩
      rw [← HT.out] at ew ⊢
      have hle' : (t : Int) ≤ (xs.length : Int) := by have := HT.out; omega
      have ht0 : (0 : Int) ≤ (t : Int) := by omega
      by_cases hlt : k + r < xs.length
      · obtain ⟨_, _, x, e, _, hcx, _, _, HX⟩ := hR.at (show t < xs.length by have := HT.out; omega)
        cases e
        have hlt' : (t : Int) < (xs.length : Int) := by have := HT.out; omega
        have hld : decide ((t : Int) < (xs.length : Int)) = true := decide_eq_true hlt'
        have hld2 : decide (t < xs.length) = true := decide_eq_true (by omega)
        by_cases hxq : x = q
        · have hqx : q = x := hxq.symm
          subst hqx
          have HE2 := Lib.hid (show ∀ j, k ≤ j → j < k + (r + 1) → j < xs.length → xs.getD j 0 = xs.getD k 0 from fun j h1 h2 h3 => by
            by_cases e : j = k + r
            · have := HT.out
              rw [e, ← this, HX.out, HX0.out]
            · exact HE.out j h1 (by omega) h3)
          go_upto_region 8 with fail
          go_quiet (fail)
          clear e0 e2 ee0 ee2
          replace hb := belowN hb nq
          replace own6 := own6.drewN nq
          replace x0 : Blk (wr.drewN nq) w.heap.size 31 #[.int .i64 (xs.length : Int), .int .i64 1, .slice (some ⟨b, off, none⟩) xs.length c] := x0
          replace hcp : (wr.drewN nq).cell? ⟨b, off + m, none⟩ = some (.int .i64 q) := hcp
          clear hzz hxl
          generalize wr.drewN nq = wq at *
          have hzz := hb.size
          have ee0 := x0.cell 0
          have ee2 := x0.cell 2
          clear hcp hcx ee0 ee2 ew
          go_wp2
          go_roundw
          case rel => exact ⟨k, r + 1, A6, n6, c6, L, by omega, hk, .inl (by omega), by have := HT.out; go_num, by go_num, rfl, HL, HE2, own6, HLN.out, x0, hb⟩
          case measure => have := HT.out; simp [intOf]; omega
        · have HR := Lib.hid (runL_eq (ys := xs.drop k) (n := r) (by rw [List.length_drop]; omega) (fun j hj => by
            rw [drop_getD, List.getD_eq_getElem?_getD, List.getElem?_drop, ← List.getD_eq_getElem?_getD]
            exact HE.out (k + j) (by omega) (by omega) (by omega)) (fun _ => by
            rw [drop_getD, List.getD_eq_getElem?_getD, List.getElem?_drop, ← List.getD_eq_getElem?_getD, ← HT.out, HX.out, ← HX0.out]
            exact hxq))
          have hxq' : (x == q) = false := by simpa using hxq
          go_upto_region 8 with fail
          go_quiet (fail)
          clear e0 e2 ee0 ee2
          replace hb := belowN hb nq
          replace own6 := own6.drewN nq
          replace x0 : Blk (wr.drewN nq) w.heap.size 31 #[.int .i64 (xs.length : Int), .int .i64 1, .slice (some ⟨b, off, none⟩) xs.length c] := x0
          replace hcp : (wr.drewN nq).cell? ⟨b, off + m, none⟩ = some (.int .i64 q) := hcp
          clear hzz hxl
          generalize wr.drewN nq = wq at *
          have hzz := hb.size
          have ee0 := x0.cell 0
          have ee2 := x0.cell 2
          clear hcx hR
          by_cases hk0 : k = 0
          · subst hk0
            have HN := Lib.hid (plainAt_first HL.out (by omega) HR.out)
            rw [← HX0.out] at HN
            have hn0 := HL.out.emp.2 rfl
            have hn6 : n6 = 0 := by rw [← HLN.out]; exact hn0
            subst hn6
            clear hn0
            go_wp2_with (at_builtin; refine wpList_pushF designF rfl wq (.tmp 47) (.tmp 56) 25 (.agg #[.int .i64 0, .int .i64 0, .int .i64 0, .int .i64 0]) 32 rfl Try.underlying25 info_Design rfl (by decide) (by decide) w.heap.size 0 _ L ⟨1, r, 1, q⟩ #[.int .i64 1, .int .i64 r, .int .i64 1, .int .i64 q] rfl (design_ok hi1 hir hi1 ⟨hq0, hq1⟩) HLN.out rfl rfl own6 (by omega) hzz ?_)
            intro A8 c8 w8 o8 hg8
            have hb8 := hb.grown hg8 hzz (fun q hq => (own6.bd q hq).1)
            have x8 := x0.mark hg8 (fun q hq e => by subst e; exact row_ne own6.1 x0 (by decide) w.heap.size hq rfl)
            clear own6 hb x0 hg8 hcp ee0 ee2
            go_wp2
            go_roundw
            case rel => exact ⟨0 + r, 1, A8, 0 + 1, c8, _, by omega, by omega, by omega, by have := HT.out; go_num, rfl, rfl, HN, Lib.hid (fun j h1 h2 h3 => by rw [show j = 0 + r by omega]), o8, by simp [HLN.out], x8, hb8⟩
            case measure => have := HT.out; simp [intOf]; omega
          · have HN := Lib.hid (plainAt_next HL.out (by omega) (by omega) HR.out)
            rw [← HX0.out] at HN
            have hn0 : ¬ n6 = 0 := fun e => hk0 (HL.out.emp.1 (HLN.out.trans e))
            have hn0' : ((n6 : Int) == 0) = false := by rw [beq_eq_false_iff_ne]; omega
            go_wp2_with (at_builtin; refine wpList_pushF designF rfl wq (.tmp 47) (.tmp 56) 25 (.agg #[.int .i64 0, .int .i64 0, .int .i64 0, .int .i64 0]) 32 rfl Try.underlying25 info_Design rfl (by decide) (by decide) w.heap.size n6 _ L ⟨1, r, 1, q⟩ #[.int .i64 1, .int .i64 r, .int .i64 1, .int .i64 q] rfl (design_ok hi1 hir hi1 ⟨hq0, hq1⟩) HLN.out rfl rfl own6 (by omega) hzz ?_)
            intro A8 c8 w8 o8 hg8
            have hb8 := hb.grown hg8 hzz (fun q hq => (own6.bd q hq).1)
            have x8 := x0.mark hg8 (fun q hq e => by subst e; exact row_ne own6.1 x0 (by decide) w.heap.size hq rfl)
            have hz8 : w.heap.size ≤ w8.heap.size := Nat.le_trans hzz hg8.size
            have HN8 := Lib.hid (show (L ++ [(⟨1, r, 1, q⟩ : DesignR)]).length = n6 + 1 by simp [HLN.out])
            clear own6 hb x0 hg8 hcp ee0 ee2
            go_wp2_with (at_builtin; refine wpList_pushF designF rfl w8 (.tmp 60) (.tmp 62) 25 (.agg #[.int .i64 0, .int .i64 0, .int .i64 0, .int .i64 0]) 32 rfl Try.underlying25 info_Design rfl (by decide) (by decide) w.heap.size (n6 + 1) _ (L ++ [(⟨1, r, 1, q⟩ : DesignR)]) ⟨4, 0, 0, 0⟩ #[.int .i64 4, .int .i64 0, .int .i64 0, .int .i64 0] rfl (design_ok hi4 hi0 hi0 hi0) HN8.out rfl rfl o8 (by omega) hz8 ?_)
            intro A9 c9 w9 o9 hg9
            have hb9 := hb8.grown hg9 (by omega) (fun q hq => (o8.bd q hq).1)
            have x9 := x8.mark hg9 (fun q hq e => by subst e; exact row_ne o8.1 x8 (by decide) w.heap.size hq rfl)
            clear o8 hb8 x8 hg9
            go_wp2
            go_roundw
            case rel => exact ⟨k + r, 1, A9, n6 + 1 + 1, c9, _, by omega, by omega, by omega, by have := HT.out; go_num, rfl, rfl, HN, Lib.hid (fun j h1 h2 h3 => by rw [show j = k + r by omega]), by first | exact o9 | (rw [List.append_assoc]; exact o9), by simp [HLN.out], x9, hb9⟩
            case measure => have := HT.out; simp [intOf]; omega
      · have HR := Lib.hid (runL_eq (ys := xs.drop k) (n := r) (by rw [List.length_drop]; omega) (fun j hj => by
          rw [drop_getD, List.getD_eq_getElem?_getD, List.getElem?_drop, ← List.getD_eq_getElem?_getD]
          exact HE.out (k + j) (by omega) (by omega) (by omega)) (fun hq => by rw [List.length_drop] at hq; omega))
        have hlt' : ¬ (t : Int) < (xs.length : Int) := by have := HT.out; omega
        have hld : decide ((t : Int) < (xs.length : Int)) = false := decide_eq_false hlt'
        have hld2 : decide (t < xs.length) = false := decide_eq_false (by omega)
        go_upto_region 8 with fail
        go_quiet (fail)
        clear e0 e2 ee0 ee2
        replace hb := belowN hb nq
        replace own6 := own6.drewN nq
        replace x0 : Blk (wr.drewN nq) w.heap.size 31 #[.int .i64 (xs.length : Int), .int .i64 1, .slice (some ⟨b, off, none⟩) xs.length c] := x0
        replace hcp : (wr.drewN nq).cell? ⟨b, off + m, none⟩ = some (.int .i64 q) := hcp
        clear hzz hxl
        generalize wr.drewN nq = wq at *
        have hzz := hb.size
        have ee0 := x0.cell 0
        have ee2 := x0.cell 2
        clear hR
        by_cases hk0 : k = 0
        · subst hk0
          have HN := Lib.hid (plainAt_first HL.out (by omega) HR.out)
          rw [← HX0.out] at HN
          have hn0 := HL.out.emp.2 rfl
          have hn6 : n6 = 0 := by rw [← HLN.out]; exact hn0
          subst hn6
          clear hn0
          go_wp2_with (at_builtin; refine wpList_pushF designF rfl wq (.tmp 47) (.tmp 56) 25 (.agg #[.int .i64 0, .int .i64 0, .int .i64 0, .int .i64 0]) 32 rfl Try.underlying25 info_Design rfl (by decide) (by decide) w.heap.size 0 _ L ⟨1, r, 1, q⟩ #[.int .i64 1, .int .i64 r, .int .i64 1, .int .i64 q] rfl (design_ok hi1 hir hi1 ⟨hq0, hq1⟩) HLN.out rfl rfl own6 (by omega) hzz ?_)
          intro A8 c8 w8 o8 hg8
          have hb8 := hb.grown hg8 hzz (fun q hq => (own6.bd q hq).1)
          have x8 := x0.mark hg8 (fun q hq e => by subst e; exact row_ne own6.1 x0 (by decide) w.heap.size hq rfl)
          clear own6 hb x0 hg8 hcp ee0 ee2
          go_wp2
          go_roundw
          case rel => exact ⟨0 + r, 1, A8, 0 + 1, c8, _, by omega, by omega, by omega, by have := HT.out; go_num, rfl, rfl, HN, Lib.hid (fun j h1 h2 h3 => by rw [show j = 0 + r by omega]), o8, by simp [HLN.out], x8, hb8⟩
          case measure => have := HT.out; simp [intOf]; omega
        · have HN := Lib.hid (plainAt_next HL.out (by omega) (by omega) HR.out)
          rw [← HX0.out] at HN
          have hn0 : ¬ n6 = 0 := fun e => hk0 (HL.out.emp.1 (HLN.out.trans e))
          have hn0' : ((n6 : Int) == 0) = false := by rw [beq_eq_false_iff_ne]; omega
          go_wp2_with (at_builtin; refine wpList_pushF designF rfl wq (.tmp 47) (.tmp 56) 25 (.agg #[.int .i64 0, .int .i64 0, .int .i64 0, .int .i64 0]) 32 rfl Try.underlying25 info_Design rfl (by decide) (by decide) w.heap.size n6 _ L ⟨1, r, 1, q⟩ #[.int .i64 1, .int .i64 r, .int .i64 1, .int .i64 q] rfl (design_ok hi1 hir hi1 ⟨hq0, hq1⟩) HLN.out rfl rfl own6 (by omega) hzz ?_)
          intro A8 c8 w8 o8 hg8
          have hb8 := hb.grown hg8 hzz (fun q hq => (own6.bd q hq).1)
          have x8 := x0.mark hg8 (fun q hq e => by subst e; exact row_ne own6.1 x0 (by decide) w.heap.size hq rfl)
          have hz8 : w.heap.size ≤ w8.heap.size := Nat.le_trans hzz hg8.size
          have HN8 := Lib.hid (show (L ++ [(⟨1, r, 1, q⟩ : DesignR)]).length = n6 + 1 by simp [HLN.out])
          clear own6 hb x0 hg8 hcp ee0 ee2
          go_wp2_with (at_builtin; refine wpList_pushF designF rfl w8 (.tmp 60) (.tmp 62) 25 (.agg #[.int .i64 0, .int .i64 0, .int .i64 0, .int .i64 0]) 32 rfl Try.underlying25 info_Design rfl (by decide) (by decide) w.heap.size (n6 + 1) _ (L ++ [(⟨1, r, 1, q⟩ : DesignR)]) ⟨4, 0, 0, 0⟩ #[.int .i64 4, .int .i64 0, .int .i64 0, .int .i64 0] rfl (design_ok hi4 hi0 hi0 hi0) HN8.out rfl rfl o8 (by omega) hz8 ?_)
          intro A9 c9 w9 o9 hg9
          have hb9 := hb8.grown hg9 (by omega) (fun q hq => (o8.bd q hq).1)
          have x9 := x8.mark hg9 (fun q hq e => by subst e; exact row_ne o8.1 x8 (by decide) w.heap.size hq rfl)
          clear o8 hb8 x8 hg9
          go_wp2
          go_roundw
          case rel => exact ⟨k + r, 1, A9, n6 + 1 + 1, c9, _, by omega, by omega, by omega, by have := HT.out; go_num, rfl, rfl, HN, Lib.hid (fun j h1 h2 h3 => by rw [show j = k + r by omega]), by first | exact o9 | (rw [List.append_assoc]; exact o9), by simp [HLN.out], x9, hb9⟩
          case measure => have := HT.out; simp [intOf]; omega
    · have HF := Lib.hid (plainAt_end HL.out (show xs.length ≤ k by omega))
      have hl : n6 = (plainGo xs.length true xs).length := by rw [← HF.out]; exact HLN.out.symm
      rw [HF.out] at own6
      have hle' : ¬ ((k + r : Nat) : Int) ≤ (xs.length : Int) := by omega
      clear HL HF HLN hln6
      subst hl
      go_wp2
      go_ret2
      exact ⟨A6, c6, rfl, own6, hb⟩
end Go.Proofs.Ytelbmecpheeifaa
