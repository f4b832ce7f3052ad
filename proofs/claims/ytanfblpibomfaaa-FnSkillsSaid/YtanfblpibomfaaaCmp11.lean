/- The order of groups, as the program compares them. No condition. -/
import Derived.Test.YtanfblpibomfaaaFewMath
import Derived.Test.YtanfblpibomfaaaShelf
namespace Go.Proofs.Ytanfblpibomfaaa
open Go.RowKit

/-- How the library compares lists of numbers. -/
def cmpL : List Int → List Int → Int
  | [], [] => 0
  | [], _ :: _ => -1
  | _ :: _, [] => 1
  | a :: aa, b :: bb => if Lib.compareInt a b = 0 then cmpL aa bb else Lib.compareInt a b
theorem compareInt_lt {a b : Int} (h : a < b) : Lib.compareInt a b = -1 := by unfold Lib.compareInt; rw [if_pos h]
theorem compareInt_gt {a b : Int} (h : b < a) : Lib.compareInt a b = 1 := by unfold Lib.compareInt; rw [if_neg (by omega), if_pos h]
theorem compareInt_eq {a b : Int} (h : a = b) : Lib.compareInt a b = 0 := by unfold Lib.compareInt; rw [if_neg (by omega), if_neg (by omega)]
theorem cmpL_lex : ∀ a b : List Int, decide (cmpL a b < 0) = lexLt a b
  | [], [] => rfl
  | [], _ :: _ => rfl
  | _ :: _, [] => rfl
  | a :: aa, b :: bb => by
    unfold cmpL lexLt
    rcases Int.lt_trichotomy a b with h | h | h
    · rw [compareInt_lt h]; simp [h]
    · rw [compareInt_eq h, if_pos rfl, cmpL_lex aa bb]; simp [h]
    · rw [compareInt_gt h]
      have h1 : ¬ a < b := by omega
      have h2 : ¬ a = b := by omega
      simp [h1, h2]
/-- Groups by their lengths, then as lists. -/
def cmpG (a b : List Int) : Int := if Lib.compareInt (a.length : Int) (b.length : Int) = 0 then cmpL a b else Lib.compareInt (a.length : Int) (b.length : Int)
theorem cmpG_less (a b : List Int) : decide (cmpG a b < 0) = lessG a b := by
  unfold cmpG lessG
  rcases Nat.lt_trichotomy a.length b.length with h | h | h
  · rw [compareInt_lt (by omega)]; simp [h]
  · rw [compareInt_eq (by omega), if_pos rfl, cmpL_lex]; simp [h]
  · rw [compareInt_gt (by omega)]
    have h1 : ¬ a.length < b.length := by omega
    have h2 : ¬ a.length = b.length := by omega
    simp [h1, h2]
theorem cmpL_drop {xs ys : List Int} {k : Nat} {x y : Int} (hx : xs[k]? = some x) (hy : ys[k]? = some y) : cmpL (xs.drop k) (ys.drop k) = if Lib.compareInt x y = 0 then cmpL (xs.drop (k + 1)) (ys.drop (k + 1)) else Lib.compareInt x y := by
  obtain ⟨h1, rfl⟩ := List.getElem?_eq_some_iff.1 hx
  obtain ⟨h2, rfl⟩ := List.getElem?_eq_some_iff.1 hy
  rw [List.drop_eq_getElem_cons h1, List.drop_eq_getElem_cons h2]
  rfl
theorem cmp_eq (a b d : Int) (w : World) (hd : Lib.compareInt a b = d) : Calls Try.prog 75 #[.int .i64 a, .int .i64 b] w fun e w' => e = .returned (.int .i64 d) ∧ w = w' :=
  (Try.cmp_Compare_int a b w).mono fun e w' ⟨he, hw⟩ => ⟨by rw [he, hd], hw.symm⟩
set_option maxRecDepth 100000 in
set_option maxHeartbeats 1000000 in
theorem or2_any (q : Nat) (a b : Int) (w : World) (h : Blk w q 3 #[.int .i64 a, .int .i64 b]) :
    Calls Try.prog 74 #[.slice (some ⟨q, 0, none⟩) 2 2] w fun e w' => e = .returned (.int .i64 (if a = 0 then b else a)) ∧ w = w' := by
  have e0 := h.cell 0
  have e1 := h.cell 1
  by_cases h0 : a = 0
  · subst h0
    by_cases h1 : b = 0
    · subst h1
      go_enter Try.func74, Try.ntmps74
      go_wp2
      go_loopw [8] (fun i wr => ∃ k : Nat, k ≤ 2 ∧ i = .int .i64 k ∧ wr = w) (fun i _ => 2 - (intOf i).toNat)
      case atStart => exact ⟨0, by omega, rfl, rfl⟩
      case round =>
        obtain ⟨k, hk, rfl, hw⟩ := hrel
        subst hw
        match k, hk with
        | 0, _ =>
          go_wp2
          go_roundw
          case rel => exact ⟨1, by omega, rfl, by first | rfl | trivial⟩
          case measure => simp [intOf]
        | 1, _ =>
          go_wp2
          go_roundw
          case rel => exact ⟨2, by omega, rfl, by first | rfl | trivial⟩
          case measure => simp [intOf]
        | 2, _ =>
          go_wp2
          go_ret
          exact ⟨rfl, rfl⟩
    · have h1' : (b == 0) = false := by simp [h1]
      have h1'' : (b != 0) = true := by simp [h1]
      clear h1
      go_enter Try.func74, Try.ntmps74
      go_wp2
      go_loopw [8] (fun i wr => ∃ k : Nat, k ≤ 1 ∧ i = .int .i64 k ∧ wr = w) (fun i _ => 2 - (intOf i).toNat)
      case atStart => exact ⟨0, by omega, rfl, rfl⟩
      case round =>
        obtain ⟨k, hk, rfl, hw⟩ := hrel
        subst hw
        match k, hk with
        | 0, _ =>
          go_wp2
          go_roundw
          case rel => exact ⟨1, by omega, rfl, by first | rfl | trivial⟩
          case measure => simp [intOf]
        | 1, _ =>
          go_wp2
          go_ret
          exact ⟨rfl, rfl⟩
  · rw [if_neg h0]
    have h0' : (a == 0) = false := by simp [h0]
    have h0'' : (a != 0) = true := by simp [h0]
    clear h0
    go_enter Try.func74, Try.ntmps74
    go_wp2
    go_loopw [8] (fun i wr => i = .int .i64 0 ∧ wr = w) (fun _ _ => 0)
    case atStart => exact ⟨rfl, rfl⟩
    case round =>
      obtain ⟨rfl, hw⟩ := hrel
      subst hw
      go_wp2
      go_ret
      exact ⟨rfl, rfl⟩
theorem or2_eq (q : Nat) (a b v : Int) (w : World) (h : Blk w q 3 #[.int .i64 a, .int .i64 b]) (hv : (if a = 0 then b else a) = v) :
    Calls Try.prog 74 #[.slice (some ⟨q, 0, none⟩) 2 2] w fun e w' => e = .returned (.int .i64 v) ∧ w = w' := hv ▸ or2_any q a b w h
theorem rd_get {w : World} {B n c : Nat} {A : Option Addr} {xs : List Int} (h : Rd w B A n c xs) {k : Nat} (hk : k < n) : ∃ b off x, A = some ⟨b, off, none⟩ ∧ w.cell? ⟨b, off + k, none⟩ = some (.int .i64 x) ∧ xs[k]? = some x := by
  obtain ⟨b, off, x, e, _, hx, _, _, HX⟩ := h.at hk
  have hl := h.len
  have hk' : k < xs.length := by omega
  refine ⟨b, off, x, e, hx, ?_⟩
  have := HX.out
  rw [List.getD_eq_getElem?_getD, List.getElem?_eq_getElem hk'] at this
  rw [List.getElem?_eq_getElem hk']
  exact congrArg some this
set_option maxRecDepth 100000 in
set_option maxHeartbeats 2000000 in
theorem compareL_any (A : Option Addr) (n c B : Nat) (xs : List Int) (A2 : Option Addr) (n2 c2 K : Nat) (ys : List Int) (w : World) (h : Rd w B A n c xs) (h2 : Rd w K A2 n2 c2 ys) :
    Calls Try.prog 76 #[.slice A n c, .slice A2 n2 c2] w fun e w' => e = .returned (.int .i64 (cmpL xs ys)) ∧ w = w' := by
  have hl := h.len
  have hl2 := h2.len
  have hn := h.len_lt
  have hn2 := h2.len_lt
  have HL := Lib.hid hl
  have HL2 := Lib.hid hl2
  clear hl hl2
  go_enter Try.func76, Try.ntmps76
  go_wp2
  go_loopw [11] (fun i wr => ∃ k : Nat, k ≤ n ∧ k ≤ n2 ∧ i = .int .i64 k ∧ Hid (cmpL (xs.drop k) (ys.drop k) = cmpL xs ys) ∧ wr = w) (fun i _ => n - (intOf i).toNat)
  case atStart => exact ⟨0, Nat.zero_le _, Nat.zero_le _, rfl, Lib.hid rfl, rfl⟩
  case round =>
    obtain ⟨k, hk, hk2, rfl, HY, hw⟩ := hrel
    subst hw
    by_cases hlt : k < n
    · obtain ⟨b, off, x, rfl, hx, hgx⟩ := rd_get h hlt
      have HGX := Lib.hid hgx
      clear hgx
      by_cases hlt2 : k < n2
      · obtain ⟨b2, off2, y, rfl, hy, hgy⟩ := rd_get h2 hlt2
        have HD := Lib.hid (cmpL_drop HGX.out hgy)
        clear hgy
        by_cases hc : Lib.compareInt x y = 0
        · have HN := Lib.hid (show cmpL (xs.drop (k + 1)) (ys.drop (k + 1)) = cmpL xs ys by rw [← HY.out, HD.out, if_pos hc])
          have HC := Lib.hid hc
          clear hc
          go_wp2_with (go_at_call 75; refine (cmp_eq x y 0 _ HC.out).mono ?_; rintro e w' ⟨rfl, rfl⟩)
          go_roundw
          case rel => exact ⟨k + 1, by omega, by omega, by go_num, HN, by first | rfl | trivial⟩
          case measure => simp [intOf]; omega
        · have HN := Lib.hid (show Lib.compareInt x y = cmpL xs ys by rw [← HY.out, HD.out, if_neg hc])
          obtain ⟨v, hv⟩ : ∃ v, Lib.compareInt x y = v := ⟨_, rfl⟩
          rw [hv] at hc HN
          have HV := Lib.hid hv
          have hv1 : (v == 0) = false := by simp [hc]
          have hv2 : (v != 0) = true := by simp [hc]
          clear hv hc
          go_wp2_with (go_at_call 75; refine (cmp_eq x y v _ HV.out).mono ?_; rintro e w' ⟨rfl, rfl⟩)
          go_ret
          exact ⟨by rw [← HN.out]; rfl, rfl⟩
      · have HN := Lib.hid (show (1 : Int) = cmpL xs ys by
          have hk1 : k < xs.length := by have := HL.out; omega
          rw [← HY.out, List.drop_eq_getElem_cons hk1, List.drop_of_length_le (l := ys) (by have := HL2.out; omega)]
          rfl)
        go_wp2
        go_ret
        exact ⟨by rw [← HN.out]; rfl, rfl⟩
    · obtain rfl : k = n := by omega
      by_cases hlt2 : k < n2
      · have HN := Lib.hid (show (-1 : Int) = cmpL xs ys by
          have hk1 : k < ys.length := by have := HL2.out; omega
          rw [← HY.out, List.drop_eq_getElem_cons hk1, List.drop_of_length_le (l := xs) (by have := HL.out; omega)]
          rfl)
        go_wp2
        go_ret
        exact ⟨by rw [← HN.out]; rfl, rfl⟩
      · have HN := Lib.hid (show (0 : Int) = cmpL xs ys by
          rw [← HY.out, List.drop_of_length_le (l := xs) (by have := HL.out; omega), List.drop_of_length_le (l := ys) (by have := HL2.out; omega)]
          rfl)
        go_wp2
        go_ret
        exact ⟨by rw [← HN.out]; rfl, rfl⟩
set_option maxRecDepth 100000 in
set_option maxHeartbeats 1000000 in
theorem compareGroups_any (A : Option Addr) (n c B : Nat) (xs : List Int) (A2 : Option Addr) (n2 c2 K : Nat) (ys : List Int) (w : World) (v : Int) (h : Rd w B A n c xs) (h2 : Rd w K A2 n2 c2 ys) (hv : cmpG xs ys = v) :
    Calls Try.prog 59 #[.slice A n c, .slice A2 n2 c2] w (Out w (.int .i64 v)) := by
  have hl := h.len
  have hl2 := h2.len
  have HV := Lib.hid (show (if Lib.compareInt (n : Int) (n2 : Int) = 0 then cmpL xs ys else Lib.compareInt (n : Int) (n2 : Int)) = v by rw [← hv, ← hl, ← hl2]; rfl)
  clear hl hl2 hv
  obtain ⟨p, hp⟩ : ∃ p, Hid (Lib.compareInt (n : Int) (n2 : Int) = p) := ⟨_, Lib.hid rfl⟩
  have hL := Lib.hid (compareL_any A n c B xs A2 n2 c2 K ys w h h2)
  rw [hp.out] at HV
  generalize cmpL xs ys = q at *
  have x9 := Blk.new w #[.int .i64 p, .int .i64 q] 3
  have hb : Below w.heap.size w (w.alloc (.cells #[.int .i64 p, .int .i64 q] 3)) := (Below.refl _ _).alloc (Nat.le_refl _) _
  go_enter Try.func59, Try.ntmps59
  go_wp2_with (first | (go_at_call 75; refine (cmp_eq (n : Int) (n2 : Int) p _ hp.out).mono ?_; rintro e w' ⟨rfl, rfl⟩) | (go_at_call 76; refine hL.out.mono ?_; rintro e w' ⟨rfl, rfl⟩) | (go_at_call 74; refine (or2_eq w.heap.size p q v _ x9 HV.out).mono ?_; rintro e w' ⟨rfl, rfl⟩))
  go_ret
  exact ⟨rfl, hb⟩
end Go.Proofs.Ytanfblpibomfaaa
