/- The walks of l9Text and DesignText of the model. No condition. -/
import Derived.Test.YtabkckjclgkecaaDoorDTextMath
import Derived.Test.YtabkckjclgkecaaDoorDesign
namespace Go.Proofs.YtabkckjclgkecaaDoor
open Go.RowKit

set_option maxRecDepth 100000 in
set_option maxHeartbeats 16000000 in
theorem l9Text_any (A : Option Addr) (n c B : Nat) (xs : List DesignR) (w : World) (h : RdF designF w B A n c xs) (hB : B ≤ w.heap.size) (hp : progB xs = true) :
    Calls Tryd.prog 10 #[.slice A n c] w (Out w (.string (textT9 xs xs.length))) := by
  obtain rfl := h.len
  have hl := prog_len hp
  have HP := Lib.hid hp
  clear hp
  have hb0 := Lib.hid (Below.refl w.heap.size w)
  go_enter Tryd.func10, Tryd.ntmps10
  go_wp2
  go_loopw [3, 4] (fun s i wr => ∃ k : Nat, k ≤ xs.length ∧ i = .int .i64 k ∧ s = .string (textT9 xs k) ∧ Hid (Below w.heap.size w wr)) (fun _ i _ => xs.length - (intOf i).toNat)
  case atStart => exact ⟨0, Nat.zero_le _, rfl, rfl, hb0⟩
  case round =>
    clear hb0
    obtain ⟨k, hk, rfl, rfl, HB⟩ := hrel
    by_cases hlt : k < xs.length
    · have hwz := HB.out.size
      obtain ⟨b, off, a, rfl, hbB, _, HX, hc0, hc1, hc2, hc3⟩ := DesignR_at (F := designF) rfl (fun _ => rfl) (fun _ => rfl) (h.all HB.out hB) hlt
      have hts := text_size HP.out k
      have hds := prog_at HP.out HX.out
      obtain ⟨q0, q1, q2, q3⟩ := design_parts hds
      have HN := Lib.hid (textT9_succ HX.out)
      have hki : (0 : Int) ≤ (k : Int) := by omega
      have hkn : (k : Int) < (xs.length : Int) := by omega
      have hbw : b < wr.heap.size := by omega
      clear hds HX
      obtain ⟨f0, f1, f2, f3⟩ := a
      simp only at q0 q1 q2 q3 hc0 hc1 hc2 hc3
      have z1 := numB_size f1 (by omega) (by omega)
      have z2 := numB_size f2 (by omega) (by omega)
      have z3 := numB_size f3 (by omega) (by omega)
      generalize hT : textT9 xs k = T at *
      clear hT
      obtain ⟨S, hS⟩ : ∃ S, (if k = 0 then T else T ++ (⟨#[32]⟩ : ByteArray)) = S := ⟨_, rfl⟩
      have e1 : (⟨#[32]⟩ : ByteArray).size = 1 := rfl
      have e2 : (⟨#[46]⟩ : ByteArray).size = 1 := rfl
      have hSs : S.size ≤ 1000 := by
        rw [← hS]
        split
        · omega
        · rw [ByteArray.size_append]; omega
      rw [hS] at HN
      by_cases hk0 : 0 < k
      · rw [if_neg (by omega)] at hS
        have hk0' : (0 : Int) < (k : Int) := by omega
        rcases (by omega : f0 = 1 ∨ f0 = 2 ∨ f0 = 3 ∨ f0 = 4 ∨ f0 = 5 ∨ f0 = 6 ∨ f0 = 7 ∨ f0 = 8 ∨ f0 = 9) with rfl | rfl | rfl | rfl | rfl | rfl | rfl | rfl | rfl
        · have HW := Lib.hid (show wordT9 ⟨1, f1, f2, f3⟩ = (⟨#[112]⟩ : ByteArray) ++ (numB f1 ++ ⟨#[46]⟩ ++ numB f2 ++ ⟨#[46]⟩ ++ numB f3) from by
            unfold wordT9
            rw [numsT_1]
            rfl)
          rw [HW.out] at HN
          clear HW
          have e3 : (⟨#[112]⟩ : ByteArray).size = 1 := rfl
          have x5 := Blk.new wr #[.int .i64 1, .int .i64 f1, .int .i64 f2, .int .i64 f3] 33
          go_wp2
          go_quiet ((go_at_call 17; exact Calls.quiet_of (l1Num_any _ (by omega) (by omega) _)))
          go_wp2
          go_roundw
          case rel => exact ⟨k + 1, by omega, by go_num, by rw [HN.out, ← hS]; try simp only [ByteArray.append_assoc], Lib.hid (by repeat (first | exact HB.out | refine belowN ?_ _ | refine belowD ?_ | (refine Below.alloc ?_ (by first | (simp; done) | (simp; omega) | omega) _)))⟩
          case measure => simp [intOf]; omega
        · have HW := Lib.hid (show wordT9 ⟨2, f1, f2, f3⟩ = (⟨#[116]⟩ : ByteArray) from by
            unfold wordT9
            rw [numsT_0 _ _ _ (by decide) (by decide) (by decide), cat_empty]
            rfl)
          rw [HW.out] at HN
          clear HW
          have e3 : (⟨#[116]⟩ : ByteArray).size = 1 := rfl
          have x5 := Blk.new wr #[.int .i64 2, .int .i64 f1, .int .i64 f2, .int .i64 f3] 33
          go_wp2
          go_roundw
          case rel => exact ⟨k + 1, by omega, by go_num, by rw [HN.out, ← hS]; try simp only [ByteArray.append_assoc], Lib.hid (by repeat (first | exact HB.out | refine belowN ?_ _ | refine belowD ?_ | (refine Below.alloc ?_ (by first | (simp; done) | (simp; omega) | omega) _)))⟩
          case measure => simp [intOf]; omega
        · have HW := Lib.hid (show wordT9 ⟨3, f1, f2, f3⟩ = (⟨#[109]⟩ : ByteArray) from by
            unfold wordT9
            rw [numsT_0 _ _ _ (by decide) (by decide) (by decide), cat_empty]
            rfl)
          rw [HW.out] at HN
          clear HW
          have e3 : (⟨#[109]⟩ : ByteArray).size = 1 := rfl
          have x5 := Blk.new wr #[.int .i64 3, .int .i64 f1, .int .i64 f2, .int .i64 f3] 33
          go_wp2
          go_roundw
          case rel => exact ⟨k + 1, by omega, by go_num, by rw [HN.out, ← hS]; try simp only [ByteArray.append_assoc], Lib.hid (by repeat (first | exact HB.out | refine belowN ?_ _ | refine belowD ?_ | (refine Below.alloc ?_ (by first | (simp; done) | (simp; omega) | omega) _)))⟩
          case measure => simp [intOf]; omega
        · have HW := Lib.hid (show wordT9 ⟨4, f1, f2, f3⟩ = (⟨#[98]⟩ : ByteArray) from by
            unfold wordT9
            rw [numsT_0 _ _ _ (by decide) (by decide) (by decide), cat_empty]
            rfl)
          rw [HW.out] at HN
          clear HW
          have e3 : (⟨#[98]⟩ : ByteArray).size = 1 := rfl
          have x5 := Blk.new wr #[.int .i64 4, .int .i64 f1, .int .i64 f2, .int .i64 f3] 33
          go_wp2
          go_roundw
          case rel => exact ⟨k + 1, by omega, by go_num, by rw [HN.out, ← hS]; try simp only [ByteArray.append_assoc], Lib.hid (by repeat (first | exact HB.out | refine belowN ?_ _ | refine belowD ?_ | (refine Below.alloc ?_ (by first | (simp; done) | (simp; omega) | omega) _)))⟩
          case measure => simp [intOf]; omega
        · have HW := Lib.hid (show wordT9 ⟨5, f1, f2, f3⟩ = (⟨#[117]⟩ : ByteArray) from by
            unfold wordT9
            rw [numsT_0 _ _ _ (by decide) (by decide) (by decide), cat_empty]
            rfl)
          rw [HW.out] at HN
          clear HW
          have e3 : (⟨#[117]⟩ : ByteArray).size = 1 := rfl
          have x5 := Blk.new wr #[.int .i64 5, .int .i64 f1, .int .i64 f2, .int .i64 f3] 33
          go_wp2
          go_roundw
          case rel => exact ⟨k + 1, by omega, by go_num, by rw [HN.out, ← hS]; try simp only [ByteArray.append_assoc], Lib.hid (by repeat (first | exact HB.out | refine belowN ?_ _ | refine belowD ?_ | (refine Below.alloc ?_ (by first | (simp; done) | (simp; omega) | omega) _)))⟩
          case measure => simp [intOf]; omega
        · have HW := Lib.hid (show wordT9 ⟨6, f1, f2, f3⟩ = (⟨#[114]⟩ : ByteArray) ++ numB f1 from by
            unfold wordT9
            rw [numsT_6]
            rfl)
          rw [HW.out] at HN
          clear HW
          have e3 : (⟨#[114]⟩ : ByteArray).size = 1 := rfl
          have x5 := Blk.new wr #[.int .i64 6, .int .i64 f1, .int .i64 f2, .int .i64 f3] 33
          go_wp2_with (go_at_call 17; refine (l1Num_any _ (by omega) (by omega) _).mono ?_; rintro e w7 ⟨rfl, q7, rfl⟩)
          go_roundw
          case rel => exact ⟨k + 1, by omega, by go_num, by rw [HN.out, ← hS]; try simp only [ByteArray.append_assoc], Lib.hid (by repeat (first | exact HB.out | refine belowN ?_ _ | refine belowD ?_ | (refine Below.alloc ?_ (by first | (simp; done) | (simp; omega) | omega) _)))⟩
          case measure => simp [intOf]; omega
        · have HW := Lib.hid (show wordT9 ⟨7, f1, f2, f3⟩ = (⟨#[99]⟩ : ByteArray) from by
            unfold wordT9
            rw [numsT_0 _ _ _ (by decide) (by decide) (by decide), cat_empty]
            rfl)
          rw [HW.out] at HN
          clear HW
          have e3 : (⟨#[99]⟩ : ByteArray).size = 1 := rfl
          have x5 := Blk.new wr #[.int .i64 7, .int .i64 f1, .int .i64 f2, .int .i64 f3] 33
          go_wp2
          go_roundw
          case rel => exact ⟨k + 1, by omega, by go_num, by rw [HN.out, ← hS]; try simp only [ByteArray.append_assoc], Lib.hid (by repeat (first | exact HB.out | refine belowN ?_ _ | refine belowD ?_ | (refine Below.alloc ?_ (by first | (simp; done) | (simp; omega) | omega) _)))⟩
          case measure => simp [intOf]; omega
        · have HW := Lib.hid (show wordT9 ⟨8, f1, f2, f3⟩ = (⟨#[115]⟩ : ByteArray) from by
            unfold wordT9
            rw [numsT_0 _ _ _ (by decide) (by decide) (by decide), cat_empty]
            rfl)
          rw [HW.out] at HN
          clear HW
          have e3 : (⟨#[115]⟩ : ByteArray).size = 1 := rfl
          have x5 := Blk.new wr #[.int .i64 8, .int .i64 f1, .int .i64 f2, .int .i64 f3] 33
          go_wp2
          go_roundw
          case rel => exact ⟨k + 1, by omega, by go_num, by rw [HN.out, ← hS]; try simp only [ByteArray.append_assoc], Lib.hid (by repeat (first | exact HB.out | refine belowN ?_ _ | refine belowD ?_ | (refine Below.alloc ?_ (by first | (simp; done) | (simp; omega) | omega) _)))⟩
          case measure => simp [intOf]; omega
        · have HW := Lib.hid (show wordT9 ⟨9, f1, f2, f3⟩ = (⟨#[120]⟩ : ByteArray) ++ (numB f1 ++ ⟨#[46]⟩ ++ numB f2) from by
            unfold wordT9
            rw [numsT_9]
            rfl)
          rw [HW.out] at HN
          clear HW
          have e3 : (⟨#[120]⟩ : ByteArray).size = 1 := rfl
          have x5 := Blk.new wr #[.int .i64 9, .int .i64 f1, .int .i64 f2, .int .i64 f3] 33
          go_wp2
          go_quiet ((go_at_call 17; exact Calls.quiet_of (l1Num_any _ (by omega) (by omega) _)))
          go_wp2
          go_roundw
          case rel => exact ⟨k + 1, by omega, by go_num, by rw [HN.out, ← hS]; try simp only [ByteArray.append_assoc], Lib.hid (by repeat (first | exact HB.out | refine belowN ?_ _ | refine belowD ?_ | (refine Below.alloc ?_ (by first | (simp; done) | (simp; omega) | omega) _)))⟩
          case measure => simp [intOf]; omega
      · rw [if_pos (by omega)] at hS
        have hk0' : ¬ (0 : Int) < (k : Int) := by omega
        rcases (by omega : f0 = 1 ∨ f0 = 2 ∨ f0 = 3 ∨ f0 = 4 ∨ f0 = 5 ∨ f0 = 6 ∨ f0 = 7 ∨ f0 = 8 ∨ f0 = 9) with rfl | rfl | rfl | rfl | rfl | rfl | rfl | rfl | rfl
        · have HW := Lib.hid (show wordT9 ⟨1, f1, f2, f3⟩ = (⟨#[112]⟩ : ByteArray) ++ (numB f1 ++ ⟨#[46]⟩ ++ numB f2 ++ ⟨#[46]⟩ ++ numB f3) from by
            unfold wordT9
            rw [numsT_1]
            rfl)
          rw [HW.out] at HN
          clear HW
          have e3 : (⟨#[112]⟩ : ByteArray).size = 1 := rfl
          have x5 := Blk.new wr #[.int .i64 1, .int .i64 f1, .int .i64 f2, .int .i64 f3] 33
          go_wp2
          go_quiet ((go_at_call 17; exact Calls.quiet_of (l1Num_any _ (by omega) (by omega) _)))
          go_wp2
          go_roundw
          case rel => exact ⟨k + 1, by omega, by go_num, by rw [HN.out, ← hS]; try simp only [ByteArray.append_assoc], Lib.hid (by repeat (first | exact HB.out | refine belowN ?_ _ | refine belowD ?_ | (refine Below.alloc ?_ (by first | (simp; done) | (simp; omega) | omega) _)))⟩
          case measure => simp [intOf]; omega
        · have HW := Lib.hid (show wordT9 ⟨2, f1, f2, f3⟩ = (⟨#[116]⟩ : ByteArray) from by
            unfold wordT9
            rw [numsT_0 _ _ _ (by decide) (by decide) (by decide), cat_empty]
            rfl)
          rw [HW.out] at HN
          clear HW
          have e3 : (⟨#[116]⟩ : ByteArray).size = 1 := rfl
          have x5 := Blk.new wr #[.int .i64 2, .int .i64 f1, .int .i64 f2, .int .i64 f3] 33
          go_wp2
          go_roundw
          case rel => exact ⟨k + 1, by omega, by go_num, by rw [HN.out, ← hS]; try simp only [ByteArray.append_assoc], Lib.hid (by repeat (first | exact HB.out | refine belowN ?_ _ | refine belowD ?_ | (refine Below.alloc ?_ (by first | (simp; done) | (simp; omega) | omega) _)))⟩
          case measure => simp [intOf]; omega
        · have HW := Lib.hid (show wordT9 ⟨3, f1, f2, f3⟩ = (⟨#[109]⟩ : ByteArray) from by
            unfold wordT9
            rw [numsT_0 _ _ _ (by decide) (by decide) (by decide), cat_empty]
            rfl)
          rw [HW.out] at HN
          clear HW
          have e3 : (⟨#[109]⟩ : ByteArray).size = 1 := rfl
          have x5 := Blk.new wr #[.int .i64 3, .int .i64 f1, .int .i64 f2, .int .i64 f3] 33
          go_wp2
          go_roundw
          case rel => exact ⟨k + 1, by omega, by go_num, by rw [HN.out, ← hS]; try simp only [ByteArray.append_assoc], Lib.hid (by repeat (first | exact HB.out | refine belowN ?_ _ | refine belowD ?_ | (refine Below.alloc ?_ (by first | (simp; done) | (simp; omega) | omega) _)))⟩
          case measure => simp [intOf]; omega
        · have HW := Lib.hid (show wordT9 ⟨4, f1, f2, f3⟩ = (⟨#[98]⟩ : ByteArray) from by
            unfold wordT9
            rw [numsT_0 _ _ _ (by decide) (by decide) (by decide), cat_empty]
            rfl)
          rw [HW.out] at HN
          clear HW
          have e3 : (⟨#[98]⟩ : ByteArray).size = 1 := rfl
          have x5 := Blk.new wr #[.int .i64 4, .int .i64 f1, .int .i64 f2, .int .i64 f3] 33
          go_wp2
          go_roundw
          case rel => exact ⟨k + 1, by omega, by go_num, by rw [HN.out, ← hS]; try simp only [ByteArray.append_assoc], Lib.hid (by repeat (first | exact HB.out | refine belowN ?_ _ | refine belowD ?_ | (refine Below.alloc ?_ (by first | (simp; done) | (simp; omega) | omega) _)))⟩
          case measure => simp [intOf]; omega
        · have HW := Lib.hid (show wordT9 ⟨5, f1, f2, f3⟩ = (⟨#[117]⟩ : ByteArray) from by
            unfold wordT9
            rw [numsT_0 _ _ _ (by decide) (by decide) (by decide), cat_empty]
            rfl)
          rw [HW.out] at HN
          clear HW
          have e3 : (⟨#[117]⟩ : ByteArray).size = 1 := rfl
          have x5 := Blk.new wr #[.int .i64 5, .int .i64 f1, .int .i64 f2, .int .i64 f3] 33
          go_wp2
          go_roundw
          case rel => exact ⟨k + 1, by omega, by go_num, by rw [HN.out, ← hS]; try simp only [ByteArray.append_assoc], Lib.hid (by repeat (first | exact HB.out | refine belowN ?_ _ | refine belowD ?_ | (refine Below.alloc ?_ (by first | (simp; done) | (simp; omega) | omega) _)))⟩
          case measure => simp [intOf]; omega
        · have HW := Lib.hid (show wordT9 ⟨6, f1, f2, f3⟩ = (⟨#[114]⟩ : ByteArray) ++ numB f1 from by
            unfold wordT9
            rw [numsT_6]
            rfl)
          rw [HW.out] at HN
          clear HW
          have e3 : (⟨#[114]⟩ : ByteArray).size = 1 := rfl
          have x5 := Blk.new wr #[.int .i64 6, .int .i64 f1, .int .i64 f2, .int .i64 f3] 33
          go_wp2_with (go_at_call 17; refine (l1Num_any _ (by omega) (by omega) _).mono ?_; rintro e w7 ⟨rfl, q7, rfl⟩)
          go_roundw
          case rel => exact ⟨k + 1, by omega, by go_num, by rw [HN.out, ← hS]; try simp only [ByteArray.append_assoc], Lib.hid (by repeat (first | exact HB.out | refine belowN ?_ _ | refine belowD ?_ | (refine Below.alloc ?_ (by first | (simp; done) | (simp; omega) | omega) _)))⟩
          case measure => simp [intOf]; omega
        · have HW := Lib.hid (show wordT9 ⟨7, f1, f2, f3⟩ = (⟨#[99]⟩ : ByteArray) from by
            unfold wordT9
            rw [numsT_0 _ _ _ (by decide) (by decide) (by decide), cat_empty]
            rfl)
          rw [HW.out] at HN
          clear HW
          have e3 : (⟨#[99]⟩ : ByteArray).size = 1 := rfl
          have x5 := Blk.new wr #[.int .i64 7, .int .i64 f1, .int .i64 f2, .int .i64 f3] 33
          go_wp2
          go_roundw
          case rel => exact ⟨k + 1, by omega, by go_num, by rw [HN.out, ← hS]; try simp only [ByteArray.append_assoc], Lib.hid (by repeat (first | exact HB.out | refine belowN ?_ _ | refine belowD ?_ | (refine Below.alloc ?_ (by first | (simp; done) | (simp; omega) | omega) _)))⟩
          case measure => simp [intOf]; omega
        · have HW := Lib.hid (show wordT9 ⟨8, f1, f2, f3⟩ = (⟨#[115]⟩ : ByteArray) from by
            unfold wordT9
            rw [numsT_0 _ _ _ (by decide) (by decide) (by decide), cat_empty]
            rfl)
          rw [HW.out] at HN
          clear HW
          have e3 : (⟨#[115]⟩ : ByteArray).size = 1 := rfl
          have x5 := Blk.new wr #[.int .i64 8, .int .i64 f1, .int .i64 f2, .int .i64 f3] 33
          go_wp2
          go_roundw
          case rel => exact ⟨k + 1, by omega, by go_num, by rw [HN.out, ← hS]; try simp only [ByteArray.append_assoc], Lib.hid (by repeat (first | exact HB.out | refine belowN ?_ _ | refine belowD ?_ | (refine Below.alloc ?_ (by first | (simp; done) | (simp; omega) | omega) _)))⟩
          case measure => simp [intOf]; omega
        · have HW := Lib.hid (show wordT9 ⟨9, f1, f2, f3⟩ = (⟨#[120]⟩ : ByteArray) ++ (numB f1 ++ ⟨#[46]⟩ ++ numB f2) from by
            unfold wordT9
            rw [numsT_9]
            rfl)
          rw [HW.out] at HN
          clear HW
          have e3 : (⟨#[120]⟩ : ByteArray).size = 1 := rfl
          have x5 := Blk.new wr #[.int .i64 9, .int .i64 f1, .int .i64 f2, .int .i64 f3] 33
          go_wp2
          go_quiet ((go_at_call 17; exact Calls.quiet_of (l1Num_any _ (by omega) (by omega) _)))
          go_wp2
          go_roundw
          case rel => exact ⟨k + 1, by omega, by go_num, by rw [HN.out, ← hS]; try simp only [ByteArray.append_assoc], Lib.hid (by repeat (first | exact HB.out | refine belowN ?_ _ | refine belowD ?_ | (refine Below.alloc ?_ (by first | (simp; done) | (simp; omega) | omega) _)))⟩
          case measure => simp [intOf]; omega
    · obtain rfl : k = xs.length := by omega
      go_wp2
      go_ret
      exact ⟨rfl, HB.out⟩
set_option maxRecDepth 100000 in
set_option maxHeartbeats 1000000 in
theorem specDesignText_any (A : Option Addr) (n c B : Nat) (xs : List DesignR) (w : World) (h : RdF designF w B A n c xs) (hB : B ≤ w.heap.size) :
    Calls Tryd.prog 5 #[.slice A n c] w (Out w (.tuple #[.string (dtextX xs), .bool (progB xs)])) := by
  cases hr : progB xs
  case false =>
    rw [dtext_no hr]
    go_enter Tryd.func5, Tryd.ntmps5
    go_wp2_with fail
    refine (l9Good_any A n c B xs _ h hB).mono ?_
    rintro e w1 ⟨rfl, hb⟩
    rw [hr]
    go_wp2
    go_ret2
    exact ⟨rfl, hb⟩
  rw [dtext_yes hr]
  have HR := Lib.hid hr
  go_enter Tryd.func5, Tryd.ntmps5
  go_wp2_with fail
  refine (l9Good_any A n c B xs _ h hB).mono ?_
  rintro e w1 ⟨rfl, hb⟩
  rw [hr]
  clear hr
  have h1 := h.all hb hB
  go_wp2_with fail
  refine (l9Text_any A n c B xs _ h1 (Nat.le_trans hB hb.size) HR.out).mono ?_
  rintro e w2 ⟨rfl, hb2⟩
  go_wp2
  go_ret2
  exact ⟨rfl, hb.trans (hb2.mono hb.size)⟩
end Go.Proofs.YtabkckjclgkecaaDoor
