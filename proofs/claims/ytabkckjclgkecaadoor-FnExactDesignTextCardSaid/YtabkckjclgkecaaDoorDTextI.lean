/- The walks of numbersOf, designWord and DesignText of the program. Condition: the library's table stands as its text says. -/
import Derived.Test.YtabkckjclgkecaaDoorDTextMath
import Derived.Test.YtabkckjclgkecaaDoorDesign
namespace Go.Proofs.YtabkckjclgkecaaDoor
open Go.RowKit

theorem lit_rdD {w : World} {q : Nat} {xs : List Int} (h : Blk w q 3 (xs.map (Value.int .i64)).toArray) (hx : ∀ x ∈ xs, I64 x) (hn : xs.length ≤ 1000) : Rd w (q + 1) (some ⟨q, 0, none⟩) xs.length xs.length xs :=
  ⟨rfl, Nat.le_refl _, by unfold maxLen; omega, fun _ => ⟨q, 0, rfl, by omega, fun j hj => by
    rw [Nat.zero_add, h.cell]
    simp [hj]⟩, hx, fun e => by cases e⟩
theorem nil_rdD (w : World) (B : Nat) : Rd w B none 0 0 [] := ⟨rfl, Nat.le_refl _, by unfold maxLen; omega, fun h => by omega, fun x hx => by simp at hx, fun _ => ⟨rfl, rfl⟩⟩
set_option maxRecDepth 100000 in
set_option maxHeartbeats 2000000 in
theorem numbersOf_any (f0 f1 f2 f3 : Int) (w : World) (h : designB ⟨f0, f1, f2, f3⟩ = true) :
    Calls Tryd.prog 19 #[.agg #[.int .i64 f0, .int .i64 f1, .int .i64 f2, .int .i64 f3]] w fun e w' => ∃ A c, e = .returned (.slice A (numsL ⟨f0, f1, f2, f3⟩).length c) ∧ Rd w' w'.heap.size A (numsL ⟨f0, f1, f2, f3⟩).length c (numsL ⟨f0, f1, f2, f3⟩) ∧ Below w.heap.size w w' := by
  obtain ⟨q0, q1, q2, q3⟩ := design_parts h
  simp only at q0 q1 q2 q3
  clear h
  by_cases h1 : f0 = 1
  · subst h1
    rw [show numsL ⟨1, f1, f2, f3⟩ = [f1, f2, f3] from rfl]
    have hb := ((Below.refl w.heap.size w).alloc (Nat.le_refl _) (.cells #[.int .i64 1, .int .i64 f1, .int .i64 f2, .int .i64 f3] 33)).alloc (by simp) (.cells #[.int .i64 f1, .int .i64 f2, .int .i64 f3] 3)
    have hR := lit_rdD (xs := [f1, f2, f3]) (Blk.new (w.alloc (.cells #[.int .i64 1, .int .i64 f1, .int .i64 f2, .int .i64 f3] 33)) #[.int .i64 f1, .int .i64 f2, .int .i64 f3] 3) (fun x hx => by simp at hx; exact ⟨by omega, by omega⟩) (by simp)
    replace hR := hR.more (B' := ((w.alloc (.cells #[.int .i64 1, .int .i64 f1, .int .i64 f2, .int .i64 f3] 33)).alloc (.cells #[.int .i64 f1, .int .i64 f2, .int .i64 f3] 3)).heap.size) (by simp)
    rw [show (w.alloc (.cells #[.int .i64 1, .int .i64 f1, .int .i64 f2, .int .i64 f3] 33)).heap.size = w.heap.size + 1 by simp] at hR
    go_enter Tryd.func19, Tryd.ntmps19
    go_wp2
    go_ret
    exact ⟨_, _, rfl, hR, hb⟩
  by_cases h6 : f0 = 6
  · subst h6
    rw [show numsL ⟨6, f1, f2, f3⟩ = [f1] from rfl]
    have hb := ((Below.refl w.heap.size w).alloc (Nat.le_refl _) (.cells #[.int .i64 6, .int .i64 f1, .int .i64 f2, .int .i64 f3] 33)).alloc (by simp) (.cells #[.int .i64 f1] 3)
    have hR := lit_rdD (xs := [f1]) (Blk.new (w.alloc (.cells #[.int .i64 6, .int .i64 f1, .int .i64 f2, .int .i64 f3] 33)) #[.int .i64 f1] 3) (fun x hx => by simp at hx; exact ⟨by omega, by omega⟩) (by simp)
    replace hR := hR.more (B' := ((w.alloc (.cells #[.int .i64 6, .int .i64 f1, .int .i64 f2, .int .i64 f3] 33)).alloc (.cells #[.int .i64 f1] 3)).heap.size) (by simp)
    rw [show (w.alloc (.cells #[.int .i64 6, .int .i64 f1, .int .i64 f2, .int .i64 f3] 33)).heap.size = w.heap.size + 1 by simp] at hR
    go_enter Tryd.func19, Tryd.ntmps19
    go_wp2
    go_ret
    exact ⟨_, _, rfl, hR, hb⟩
  by_cases h9 : f0 = 9
  · subst h9
    rw [show numsL ⟨9, f1, f2, f3⟩ = [f1, f2] from rfl]
    have hb := ((Below.refl w.heap.size w).alloc (Nat.le_refl _) (.cells #[.int .i64 9, .int .i64 f1, .int .i64 f2, .int .i64 f3] 33)).alloc (by simp) (.cells #[.int .i64 f1, .int .i64 f2] 3)
    have hR := lit_rdD (xs := [f1, f2]) (Blk.new (w.alloc (.cells #[.int .i64 9, .int .i64 f1, .int .i64 f2, .int .i64 f3] 33)) #[.int .i64 f1, .int .i64 f2] 3) (fun x hx => by simp at hx; exact ⟨by omega, by omega⟩) (by simp)
    replace hR := hR.more (B' := ((w.alloc (.cells #[.int .i64 9, .int .i64 f1, .int .i64 f2, .int .i64 f3] 33)).alloc (.cells #[.int .i64 f1, .int .i64 f2] 3)).heap.size) (by simp)
    rw [show (w.alloc (.cells #[.int .i64 9, .int .i64 f1, .int .i64 f2, .int .i64 f3] 33)).heap.size = w.heap.size + 1 by simp] at hR
    go_enter Tryd.func19, Tryd.ntmps19
    go_wp2
    go_ret
    exact ⟨_, _, rfl, hR, hb⟩
  rw [show numsL ⟨f0, f1, f2, f3⟩ = [] by simp [numsL, h1, h6, h9]]
  have hb := (Below.refl w.heap.size w).alloc (Nat.le_refl _) (.cells #[.int .i64 f0, .int .i64 f1, .int .i64 f2, .int .i64 f3] 33)
  go_enter Tryd.func19, Tryd.ntmps19
  go_wp2
  go_ret
  exact ⟨none, 0, rfl, nil_rdD _ _, hb⟩
theorem conv1W (w : World) (g : Nat) (b : UInt8) (q : Int) (hq : q = (b.toNat : Int)) (hc : w.cell? ⟨g, 0, none⟩ = some (.int .u8 q)) :
    (convert 44 9 (.slice (some ⟨g, 0, none⟩) 1 1)).run Tryd.prog w = .ok (.string ⟨#[b]⟩) w := by
  subst hq
  refine run_convert_bytes_back _ 44 9 5 ⟨g, 0, none⟩ 1 [b] Tryd.underlying44 Tryd.underlying5 Tryd.underlying9 fun j hj => ?_
  obtain rfl : j = 0 := by simp at hj; omega
  exact hc
theorem conv1D (w : World) (b : UInt8) (q : Int) (hq : q = (b.toNat : Int)) :
    (convert 44 9 (.slice (some ⟨w.heap.size, 0, none⟩) 1 1)).run Tryd.prog (w.alloc (.cells #[.int .u8 q] 5)) = .ok (.string ⟨#[b]⟩) (w.alloc (.cells #[.int .u8 q] 5)) := by
  exact conv1W _ _ b q hq ((Blk.new w #[.int .u8 q] 5).cell 0)
set_option maxRecDepth 100000 in
set_option maxHeartbeats 16000000 in
theorem designWord_any (f0 f1 f2 f3 : Int) (w : World) (h : designB ⟨f0, f1, f2, f3⟩ = true) (ht : Tab w) :
    Calls Tryd.prog 13 #[.agg #[.int .i64 f0, .int .i64 f1, .int .i64 f2, .int .i64 f3]] w (Out w (.string (wordT9 ⟨f0, f1, f2, f3⟩))) := by
  obtain ⟨q0, q1, q2, q3⟩ := design_parts h
  simp only at q0 q1 q2 q3
  obtain ⟨nl, nb⟩ := numsL_bd h
  have ns := nums_size h (numsL ⟨f0, f1, f2, f3⟩).length
  have hHD := Lib.hid h
  clear h
  have x0 := Blk.new w #[.int .i64 f0, .int .i64 f1, .int .i64 f2, .int .i64 f3] 33
  have HB := Lib.hid ((Below.refl w.heap.size w).alloc (Nat.le_refl _) (.cells #[.int .i64 f0, .int .i64 f1, .int .i64 f2, .int .i64 f3] 33))
  have HWT := Lib.hid (show wordT9 ⟨f0, f1, f2, f3⟩ = letB f0 ++ numsT ⟨f0, f1, f2, f3⟩ from rfl)
  rw [HWT.out]
  have HNT := Lib.hid (show numsT ⟨f0, f1, f2, f3⟩ = joinTo 46 ((numsL ⟨f0, f1, f2, f3⟩).map numB) (numsL ⟨f0, f1, f2, f3⟩).length from rfl)
  rw [HNT.out]
  clear HWT HNT
  go_enter Tryd.func13, Tryd.ntmps13
  go_wp2_with fail
  refine (numbersOf_any f0 f1 f2 f3 _ hHD.out).mono ?_
  rintro e w1 ⟨A1, c1, rfl, hR, hb⟩
  clear hHD
  generalize numsL ⟨f0, f1, f2, f3⟩ = ns0 at *
  replace x0 := x0.all hb
  replace HB := Lib.hid (HB.out.trans (hb.mono (by simp)))
  clear hb
  have hz0 := HB.out.size
  have hxl := x0.lt
  obtain ⟨P, hP⟩ : ∃ q, w1.heap.size = q := ⟨_, rfl⟩
  rw [hP] at hR hz0 hxl
  have hPz : P ≤ w1.heap.size := by omega
  clear hP
  go_wp2
  go_loopw [3, 10] (fun s3 s10 wr => ∃ (k : Nat) (A' : Option Addr) (c' : Nat), k ≤ ns0.length ∧ s3 = .slice A' k c' ∧ s10 = .int .i64 k ∧ OwnF strF wr P (.slice A' k c') ((ns0.map numB).take k) ∧ Rd wr P A1 ns0.length c1 ns0 ∧ Blk wr w.heap.size 33 #[.int .i64 f0, .int .i64 f1, .int .i64 f2, .int .i64 f3] ∧ P ≤ wr.heap.size ∧ Hid (Below w.heap.size w wr)) (fun _ s10 _ => ns0.length - (intOf s10).toNat)
  case atStart => exact ⟨0, none, 0, Nat.zero_le _, rfl, rfl, OwnF.nil _ _ _, hR, x0, hPz, HB⟩
  case round =>
    clear hR x0 hPz HB
    obtain ⟨k, A', c', hk, rfl, rfl, own, hR, x0, hPz, HB⟩ := hrel
    have hwz := HB.out.size
    by_cases hlt : k < ns0.length
    · obtain ⟨b, off, x, rfl, hbP, hcx, _, _, HXx⟩ := hR.at hlt
      have hxb := nb x (by rw [← HXx.out, getD_at hlt]; exact List.getElem_mem hlt)
      have HT := ht.below HB.out rfl
      have hsz := numB_size x (by omega) (by omega)
      have HL := Lib.hid (show ((ns0.map numB).take k).length = k by rw [List.length_take, List.length_map]; omega)
      have HK := Lib.hid (show (ns0.map numB).take (k + 1) = (ns0.map numB).take k ++ [numB x] by
        rw [List.take_succ_eq_append_getElem (by rw [List.length_map]; exact hlt), List.getElem_map, ← getD_at hlt, HXx.out])
      have hki : (0 : Int) ≤ (k : Int) := by omega
      have hkn : (k : Int) < (ns0.length : Int) := by omega
      have hqm : (numB x).size ≤ maxLen := by unfold maxLen; omega
      have hlk : k ≤ 1073741824 := by omega
      clear HXx
      go_wp2_with fail
      refine (itoa_anyJ x _ (by omega) (by omega) HT).mono ?_
      rintro e w5 ⟨rfl, hb⟩
      replace own := own.all hb
      replace hR := hR.all hb hPz
      replace x0 := x0.all hb
      replace HB := Lib.hid (HB.out.trans (hb.mono hwz))
      replace hPz : P ≤ w5.heap.size := Nat.le_trans hPz hb.size
      have hwz5 := HB.out.size
      clear hb hcx HT
      generalize (ns0.map numB).take k = TT at *
      go_wp2_with (at_builtin; refine wpList_append_sN w5 rfl (.tmp 14) (.tmp 17) 36 rfl Tryd.underlying36 info_str P k _ TT (numB x) HL.out rfl rfl own hlk hqm hPz ?_)
      intro A6 c6 w6 o6 hg6
      have hbd := own.bd
      have R6 := hR.mark hg6 (fun q hq => (hbd q hq).1) hPz
      have x6 := x0.mark hg6 (fun q hq => by have := (hbd q hq).1; omega)
      have HB6 := Lib.hid (HB.out.grown hg6 hwz5 (fun q hq => by have := (hbd q hq).1; omega))
      have hz6 : P ≤ w6.heap.size := Nat.le_trans hPz hg6.size
      rw [← HK.out] at o6
      go_wp2
      go_roundw
      case rel => exact ⟨k + 1, A6, c6, by omega, rfl, by go_num, o6, R6, x6, hz6, HB6⟩
      case measure => simp [intOf]; omega
    · obtain rfl : k = ns0.length := by omega
      rw [List.take_of_length_le (by rw [List.length_map]; exact Nat.le_refl _)] at own
      have hml : (ns0.map numB).length = ns0.length := List.length_map ..
      have HJ := Lib.hid (fun wq (o : OwnF strF wq P (.slice A' (ns0.map numB).length c') (ns0.map numB)) => joinS_any 46 A' c' P (ns0.map numB) wq o (by omega) (by rw [hml]; omega))
      rw [hml] at HJ
      generalize joinTo 46 (ns0.map numB) ns0.length = JT at *
      have e0 := x0.cell 0
      rcases (by omega : f0 = 1 ∨ f0 = 2 ∨ f0 = 3 ∨ f0 = 4 ∨ f0 = 5 ∨ f0 = 6 ∨ f0 = 7 ∨ f0 = 8 ∨ f0 = 9) with rfl | rfl | rfl | rfl | rfl | rfl | rfl | rfl | rfl
      · have HLB := Lib.hid (show letB 1 = ⟨#[112]⟩ from rfl)
        rw [HLB.out]
        have cv : ∀ v : World, (convert 44 9 (.slice (some ⟨v.heap.size, 0, none⟩) 1 1)).run Tryd.prog (v.alloc (.cells #[.int .u8 112] 5)) = .ok (.string ⟨#[112]⟩) (v.alloc (.cells #[.int .u8 112] 5)) := fun v => conv1D v 112 112 rfl
        have cv2 : ∀ v : World, (convert 44 9 (.slice (some ⟨v.heap.size, 0, none⟩) 1 1)).run Tryd.prog (v.alloc (.cells #[.int .u8 112] 5)).drew = .ok (.string ⟨#[112]⟩) (v.alloc (.cells #[.int .u8 112] 5)).drew := fun v => conv1D v.drew 112 112 rfl
        have hby : (((⟨#[112, 116, 109, 98, 117, 114, 99, 115, 120]⟩ : ByteArray)[0]'(by decide)).toNat : Int) = 112 := rfl
        have ej : (⟨#[112]⟩ : ByteArray).size = 1 := rfl
        have ownA := own.alloc (.cells #[.int .u8 112] 5)
        have ownAD : OwnF strF (wr.alloc (.cells #[.int .u8 112] 5)).drew P (.slice A' ns0.length c') (ns0.map numB) := ownA.all (low_drewN _ 1)
        have ownD : OwnF strF wr.drew P (.slice A' ns0.length c') (ns0.map numB) := own.all (low_drewN _ 1)
        have hxj : (9223372036854775807 < 1 + JT.size) = False := eq_false (by omega)
        clear hml
        go_wp2
        go_region_law (go_simp; go_at_call 14; refine (HJ.out _ (by first | exact ownAD | exact ownD)).mono ?_; rintro e w7 ⟨rfl, hb7⟩; first | (have HB7 := Lib.hid ((HB.out.alloc hwz (.cells #[.int .u8 112] 5)).trans ((below_drew' hb7).mono (by simp; omega))); have cv7 := conv1W w7 wr.heap.size 112 112 rfl (cells_of (below_drew' hb7) ((Blk.new wr #[.int .u8 112] 5).cell 0) (by simp))) | (have HB7 := Lib.hid (HB.out.trans ((below_drew' hb7).mono hwz))))
        all_goals
          go_wp2
          go_ret
          exact ⟨congrArg (fun z => Ending.returned (.string (z ++ JT))) HLB.out.symm, by first | exact HB7.out | exact HB7.out.alloc HB7.out.size _⟩
      · have HLB := Lib.hid (show letB 2 = ⟨#[116]⟩ from rfl)
        rw [HLB.out]
        have cv : ∀ v : World, (convert 44 9 (.slice (some ⟨v.heap.size, 0, none⟩) 1 1)).run Tryd.prog (v.alloc (.cells #[.int .u8 116] 5)) = .ok (.string ⟨#[116]⟩) (v.alloc (.cells #[.int .u8 116] 5)) := fun v => conv1D v 116 116 rfl
        have cv2 : ∀ v : World, (convert 44 9 (.slice (some ⟨v.heap.size, 0, none⟩) 1 1)).run Tryd.prog (v.alloc (.cells #[.int .u8 116] 5)).drew = .ok (.string ⟨#[116]⟩) (v.alloc (.cells #[.int .u8 116] 5)).drew := fun v => conv1D v.drew 116 116 rfl
        have hby : (((⟨#[112, 116, 109, 98, 117, 114, 99, 115, 120]⟩ : ByteArray)[1]'(by decide)).toNat : Int) = 116 := rfl
        have ej : (⟨#[116]⟩ : ByteArray).size = 1 := rfl
        have ownA := own.alloc (.cells #[.int .u8 116] 5)
        have ownAD : OwnF strF (wr.alloc (.cells #[.int .u8 116] 5)).drew P (.slice A' ns0.length c') (ns0.map numB) := ownA.all (low_drewN _ 1)
        have ownD : OwnF strF wr.drew P (.slice A' ns0.length c') (ns0.map numB) := own.all (low_drewN _ 1)
        have hxj : (9223372036854775807 < 1 + JT.size) = False := eq_false (by omega)
        clear hml
        go_wp2
        go_region_law (go_simp; go_at_call 14; refine (HJ.out _ (by first | exact ownAD | exact ownD)).mono ?_; rintro e w7 ⟨rfl, hb7⟩; first | (have HB7 := Lib.hid ((HB.out.alloc hwz (.cells #[.int .u8 116] 5)).trans ((below_drew' hb7).mono (by simp; omega))); have cv7 := conv1W w7 wr.heap.size 116 116 rfl (cells_of (below_drew' hb7) ((Blk.new wr #[.int .u8 116] 5).cell 0) (by simp))) | (have HB7 := Lib.hid (HB.out.trans ((below_drew' hb7).mono hwz))))
        all_goals
          go_wp2
          go_ret
          exact ⟨congrArg (fun z => Ending.returned (.string (z ++ JT))) HLB.out.symm, by first | exact HB7.out | exact HB7.out.alloc HB7.out.size _⟩
      · have HLB := Lib.hid (show letB 3 = ⟨#[109]⟩ from rfl)
        rw [HLB.out]
        have cv : ∀ v : World, (convert 44 9 (.slice (some ⟨v.heap.size, 0, none⟩) 1 1)).run Tryd.prog (v.alloc (.cells #[.int .u8 109] 5)) = .ok (.string ⟨#[109]⟩) (v.alloc (.cells #[.int .u8 109] 5)) := fun v => conv1D v 109 109 rfl
        have cv2 : ∀ v : World, (convert 44 9 (.slice (some ⟨v.heap.size, 0, none⟩) 1 1)).run Tryd.prog (v.alloc (.cells #[.int .u8 109] 5)).drew = .ok (.string ⟨#[109]⟩) (v.alloc (.cells #[.int .u8 109] 5)).drew := fun v => conv1D v.drew 109 109 rfl
        have hby : (((⟨#[112, 116, 109, 98, 117, 114, 99, 115, 120]⟩ : ByteArray)[2]'(by decide)).toNat : Int) = 109 := rfl
        have ej : (⟨#[109]⟩ : ByteArray).size = 1 := rfl
        have ownA := own.alloc (.cells #[.int .u8 109] 5)
        have ownAD : OwnF strF (wr.alloc (.cells #[.int .u8 109] 5)).drew P (.slice A' ns0.length c') (ns0.map numB) := ownA.all (low_drewN _ 1)
        have ownD : OwnF strF wr.drew P (.slice A' ns0.length c') (ns0.map numB) := own.all (low_drewN _ 1)
        have hxj : (9223372036854775807 < 1 + JT.size) = False := eq_false (by omega)
        clear hml
        go_wp2
        go_region_law (go_simp; go_at_call 14; refine (HJ.out _ (by first | exact ownAD | exact ownD)).mono ?_; rintro e w7 ⟨rfl, hb7⟩; first | (have HB7 := Lib.hid ((HB.out.alloc hwz (.cells #[.int .u8 109] 5)).trans ((below_drew' hb7).mono (by simp; omega))); have cv7 := conv1W w7 wr.heap.size 109 109 rfl (cells_of (below_drew' hb7) ((Blk.new wr #[.int .u8 109] 5).cell 0) (by simp))) | (have HB7 := Lib.hid (HB.out.trans ((below_drew' hb7).mono hwz))))
        all_goals
          go_wp2
          go_ret
          exact ⟨congrArg (fun z => Ending.returned (.string (z ++ JT))) HLB.out.symm, by first | exact HB7.out | exact HB7.out.alloc HB7.out.size _⟩
      · have HLB := Lib.hid (show letB 4 = ⟨#[98]⟩ from rfl)
        rw [HLB.out]
        have cv : ∀ v : World, (convert 44 9 (.slice (some ⟨v.heap.size, 0, none⟩) 1 1)).run Tryd.prog (v.alloc (.cells #[.int .u8 98] 5)) = .ok (.string ⟨#[98]⟩) (v.alloc (.cells #[.int .u8 98] 5)) := fun v => conv1D v 98 98 rfl
        have cv2 : ∀ v : World, (convert 44 9 (.slice (some ⟨v.heap.size, 0, none⟩) 1 1)).run Tryd.prog (v.alloc (.cells #[.int .u8 98] 5)).drew = .ok (.string ⟨#[98]⟩) (v.alloc (.cells #[.int .u8 98] 5)).drew := fun v => conv1D v.drew 98 98 rfl
        have hby : (((⟨#[112, 116, 109, 98, 117, 114, 99, 115, 120]⟩ : ByteArray)[3]'(by decide)).toNat : Int) = 98 := rfl
        have ej : (⟨#[98]⟩ : ByteArray).size = 1 := rfl
        have ownA := own.alloc (.cells #[.int .u8 98] 5)
        have ownAD : OwnF strF (wr.alloc (.cells #[.int .u8 98] 5)).drew P (.slice A' ns0.length c') (ns0.map numB) := ownA.all (low_drewN _ 1)
        have ownD : OwnF strF wr.drew P (.slice A' ns0.length c') (ns0.map numB) := own.all (low_drewN _ 1)
        have hxj : (9223372036854775807 < 1 + JT.size) = False := eq_false (by omega)
        clear hml
        go_wp2
        go_region_law (go_simp; go_at_call 14; refine (HJ.out _ (by first | exact ownAD | exact ownD)).mono ?_; rintro e w7 ⟨rfl, hb7⟩; first | (have HB7 := Lib.hid ((HB.out.alloc hwz (.cells #[.int .u8 98] 5)).trans ((below_drew' hb7).mono (by simp; omega))); have cv7 := conv1W w7 wr.heap.size 98 98 rfl (cells_of (below_drew' hb7) ((Blk.new wr #[.int .u8 98] 5).cell 0) (by simp))) | (have HB7 := Lib.hid (HB.out.trans ((below_drew' hb7).mono hwz))))
        all_goals
          go_wp2
          go_ret
          exact ⟨congrArg (fun z => Ending.returned (.string (z ++ JT))) HLB.out.symm, by first | exact HB7.out | exact HB7.out.alloc HB7.out.size _⟩
      · have HLB := Lib.hid (show letB 5 = ⟨#[117]⟩ from rfl)
        rw [HLB.out]
        have cv : ∀ v : World, (convert 44 9 (.slice (some ⟨v.heap.size, 0, none⟩) 1 1)).run Tryd.prog (v.alloc (.cells #[.int .u8 117] 5)) = .ok (.string ⟨#[117]⟩) (v.alloc (.cells #[.int .u8 117] 5)) := fun v => conv1D v 117 117 rfl
        have cv2 : ∀ v : World, (convert 44 9 (.slice (some ⟨v.heap.size, 0, none⟩) 1 1)).run Tryd.prog (v.alloc (.cells #[.int .u8 117] 5)).drew = .ok (.string ⟨#[117]⟩) (v.alloc (.cells #[.int .u8 117] 5)).drew := fun v => conv1D v.drew 117 117 rfl
        have hby : (((⟨#[112, 116, 109, 98, 117, 114, 99, 115, 120]⟩ : ByteArray)[4]'(by decide)).toNat : Int) = 117 := rfl
        have ej : (⟨#[117]⟩ : ByteArray).size = 1 := rfl
        have ownA := own.alloc (.cells #[.int .u8 117] 5)
        have ownAD : OwnF strF (wr.alloc (.cells #[.int .u8 117] 5)).drew P (.slice A' ns0.length c') (ns0.map numB) := ownA.all (low_drewN _ 1)
        have ownD : OwnF strF wr.drew P (.slice A' ns0.length c') (ns0.map numB) := own.all (low_drewN _ 1)
        have hxj : (9223372036854775807 < 1 + JT.size) = False := eq_false (by omega)
        clear hml
        go_wp2
        go_region_law (go_simp; go_at_call 14; refine (HJ.out _ (by first | exact ownAD | exact ownD)).mono ?_; rintro e w7 ⟨rfl, hb7⟩; first | (have HB7 := Lib.hid ((HB.out.alloc hwz (.cells #[.int .u8 117] 5)).trans ((below_drew' hb7).mono (by simp; omega))); have cv7 := conv1W w7 wr.heap.size 117 117 rfl (cells_of (below_drew' hb7) ((Blk.new wr #[.int .u8 117] 5).cell 0) (by simp))) | (have HB7 := Lib.hid (HB.out.trans ((below_drew' hb7).mono hwz))))
        all_goals
          go_wp2
          go_ret
          exact ⟨congrArg (fun z => Ending.returned (.string (z ++ JT))) HLB.out.symm, by first | exact HB7.out | exact HB7.out.alloc HB7.out.size _⟩
      · have HLB := Lib.hid (show letB 6 = ⟨#[114]⟩ from rfl)
        rw [HLB.out]
        have cv : ∀ v : World, (convert 44 9 (.slice (some ⟨v.heap.size, 0, none⟩) 1 1)).run Tryd.prog (v.alloc (.cells #[.int .u8 114] 5)) = .ok (.string ⟨#[114]⟩) (v.alloc (.cells #[.int .u8 114] 5)) := fun v => conv1D v 114 114 rfl
        have cv2 : ∀ v : World, (convert 44 9 (.slice (some ⟨v.heap.size, 0, none⟩) 1 1)).run Tryd.prog (v.alloc (.cells #[.int .u8 114] 5)).drew = .ok (.string ⟨#[114]⟩) (v.alloc (.cells #[.int .u8 114] 5)).drew := fun v => conv1D v.drew 114 114 rfl
        have hby : (((⟨#[112, 116, 109, 98, 117, 114, 99, 115, 120]⟩ : ByteArray)[5]'(by decide)).toNat : Int) = 114 := rfl
        have ej : (⟨#[114]⟩ : ByteArray).size = 1 := rfl
        have ownA := own.alloc (.cells #[.int .u8 114] 5)
        have ownAD : OwnF strF (wr.alloc (.cells #[.int .u8 114] 5)).drew P (.slice A' ns0.length c') (ns0.map numB) := ownA.all (low_drewN _ 1)
        have ownD : OwnF strF wr.drew P (.slice A' ns0.length c') (ns0.map numB) := own.all (low_drewN _ 1)
        have hxj : (9223372036854775807 < 1 + JT.size) = False := eq_false (by omega)
        clear hml
        go_wp2
        go_region_law (go_simp; go_at_call 14; refine (HJ.out _ (by first | exact ownAD | exact ownD)).mono ?_; rintro e w7 ⟨rfl, hb7⟩; first | (have HB7 := Lib.hid ((HB.out.alloc hwz (.cells #[.int .u8 114] 5)).trans ((below_drew' hb7).mono (by simp; omega))); have cv7 := conv1W w7 wr.heap.size 114 114 rfl (cells_of (below_drew' hb7) ((Blk.new wr #[.int .u8 114] 5).cell 0) (by simp))) | (have HB7 := Lib.hid (HB.out.trans ((below_drew' hb7).mono hwz))))
        all_goals
          go_wp2
          go_ret
          exact ⟨congrArg (fun z => Ending.returned (.string (z ++ JT))) HLB.out.symm, by first | exact HB7.out | exact HB7.out.alloc HB7.out.size _⟩
      · have HLB := Lib.hid (show letB 7 = ⟨#[99]⟩ from rfl)
        rw [HLB.out]
        have cv : ∀ v : World, (convert 44 9 (.slice (some ⟨v.heap.size, 0, none⟩) 1 1)).run Tryd.prog (v.alloc (.cells #[.int .u8 99] 5)) = .ok (.string ⟨#[99]⟩) (v.alloc (.cells #[.int .u8 99] 5)) := fun v => conv1D v 99 99 rfl
        have cv2 : ∀ v : World, (convert 44 9 (.slice (some ⟨v.heap.size, 0, none⟩) 1 1)).run Tryd.prog (v.alloc (.cells #[.int .u8 99] 5)).drew = .ok (.string ⟨#[99]⟩) (v.alloc (.cells #[.int .u8 99] 5)).drew := fun v => conv1D v.drew 99 99 rfl
        have hby : (((⟨#[112, 116, 109, 98, 117, 114, 99, 115, 120]⟩ : ByteArray)[6]'(by decide)).toNat : Int) = 99 := rfl
        have ej : (⟨#[99]⟩ : ByteArray).size = 1 := rfl
        have ownA := own.alloc (.cells #[.int .u8 99] 5)
        have ownAD : OwnF strF (wr.alloc (.cells #[.int .u8 99] 5)).drew P (.slice A' ns0.length c') (ns0.map numB) := ownA.all (low_drewN _ 1)
        have ownD : OwnF strF wr.drew P (.slice A' ns0.length c') (ns0.map numB) := own.all (low_drewN _ 1)
        have hxj : (9223372036854775807 < 1 + JT.size) = False := eq_false (by omega)
        clear hml
        go_wp2
        go_region_law (go_simp; go_at_call 14; refine (HJ.out _ (by first | exact ownAD | exact ownD)).mono ?_; rintro e w7 ⟨rfl, hb7⟩; first | (have HB7 := Lib.hid ((HB.out.alloc hwz (.cells #[.int .u8 99] 5)).trans ((below_drew' hb7).mono (by simp; omega))); have cv7 := conv1W w7 wr.heap.size 99 99 rfl (cells_of (below_drew' hb7) ((Blk.new wr #[.int .u8 99] 5).cell 0) (by simp))) | (have HB7 := Lib.hid (HB.out.trans ((below_drew' hb7).mono hwz))))
        all_goals
          go_wp2
          go_ret
          exact ⟨congrArg (fun z => Ending.returned (.string (z ++ JT))) HLB.out.symm, by first | exact HB7.out | exact HB7.out.alloc HB7.out.size _⟩
      · have HLB := Lib.hid (show letB 8 = ⟨#[115]⟩ from rfl)
        rw [HLB.out]
        have cv : ∀ v : World, (convert 44 9 (.slice (some ⟨v.heap.size, 0, none⟩) 1 1)).run Tryd.prog (v.alloc (.cells #[.int .u8 115] 5)) = .ok (.string ⟨#[115]⟩) (v.alloc (.cells #[.int .u8 115] 5)) := fun v => conv1D v 115 115 rfl
        have cv2 : ∀ v : World, (convert 44 9 (.slice (some ⟨v.heap.size, 0, none⟩) 1 1)).run Tryd.prog (v.alloc (.cells #[.int .u8 115] 5)).drew = .ok (.string ⟨#[115]⟩) (v.alloc (.cells #[.int .u8 115] 5)).drew := fun v => conv1D v.drew 115 115 rfl
        have hby : (((⟨#[112, 116, 109, 98, 117, 114, 99, 115, 120]⟩ : ByteArray)[7]'(by decide)).toNat : Int) = 115 := rfl
        have ej : (⟨#[115]⟩ : ByteArray).size = 1 := rfl
        have ownA := own.alloc (.cells #[.int .u8 115] 5)
        have ownAD : OwnF strF (wr.alloc (.cells #[.int .u8 115] 5)).drew P (.slice A' ns0.length c') (ns0.map numB) := ownA.all (low_drewN _ 1)
        have ownD : OwnF strF wr.drew P (.slice A' ns0.length c') (ns0.map numB) := own.all (low_drewN _ 1)
        have hxj : (9223372036854775807 < 1 + JT.size) = False := eq_false (by omega)
        clear hml
        go_wp2
        go_region_law (go_simp; go_at_call 14; refine (HJ.out _ (by first | exact ownAD | exact ownD)).mono ?_; rintro e w7 ⟨rfl, hb7⟩; first | (have HB7 := Lib.hid ((HB.out.alloc hwz (.cells #[.int .u8 115] 5)).trans ((below_drew' hb7).mono (by simp; omega))); have cv7 := conv1W w7 wr.heap.size 115 115 rfl (cells_of (below_drew' hb7) ((Blk.new wr #[.int .u8 115] 5).cell 0) (by simp))) | (have HB7 := Lib.hid (HB.out.trans ((below_drew' hb7).mono hwz))))
        all_goals
          go_wp2
          go_ret
          exact ⟨congrArg (fun z => Ending.returned (.string (z ++ JT))) HLB.out.symm, by first | exact HB7.out | exact HB7.out.alloc HB7.out.size _⟩
      · have HLB := Lib.hid (show letB 9 = ⟨#[120]⟩ from rfl)
        rw [HLB.out]
        have cv : ∀ v : World, (convert 44 9 (.slice (some ⟨v.heap.size, 0, none⟩) 1 1)).run Tryd.prog (v.alloc (.cells #[.int .u8 120] 5)) = .ok (.string ⟨#[120]⟩) (v.alloc (.cells #[.int .u8 120] 5)) := fun v => conv1D v 120 120 rfl
        have cv2 : ∀ v : World, (convert 44 9 (.slice (some ⟨v.heap.size, 0, none⟩) 1 1)).run Tryd.prog (v.alloc (.cells #[.int .u8 120] 5)).drew = .ok (.string ⟨#[120]⟩) (v.alloc (.cells #[.int .u8 120] 5)).drew := fun v => conv1D v.drew 120 120 rfl
        have hby : (((⟨#[112, 116, 109, 98, 117, 114, 99, 115, 120]⟩ : ByteArray)[8]'(by decide)).toNat : Int) = 120 := rfl
        have ej : (⟨#[120]⟩ : ByteArray).size = 1 := rfl
        have ownA := own.alloc (.cells #[.int .u8 120] 5)
        have ownAD : OwnF strF (wr.alloc (.cells #[.int .u8 120] 5)).drew P (.slice A' ns0.length c') (ns0.map numB) := ownA.all (low_drewN _ 1)
        have ownD : OwnF strF wr.drew P (.slice A' ns0.length c') (ns0.map numB) := own.all (low_drewN _ 1)
        have hxj : (9223372036854775807 < 1 + JT.size) = False := eq_false (by omega)
        clear hml
        go_wp2
        go_region_law (go_simp; go_at_call 14; refine (HJ.out _ (by first | exact ownAD | exact ownD)).mono ?_; rintro e w7 ⟨rfl, hb7⟩; first | (have HB7 := Lib.hid ((HB.out.alloc hwz (.cells #[.int .u8 120] 5)).trans ((below_drew' hb7).mono (by simp; omega))); have cv7 := conv1W w7 wr.heap.size 120 120 rfl (cells_of (below_drew' hb7) ((Blk.new wr #[.int .u8 120] 5).cell 0) (by simp))) | (have HB7 := Lib.hid (HB.out.trans ((below_drew' hb7).mono hwz))))
        all_goals
          go_wp2
          go_ret
          exact ⟨congrArg (fun z => Ending.returned (.string (z ++ JT))) HLB.out.symm, by first | exact HB7.out | exact HB7.out.alloc HB7.out.size _⟩
set_option maxRecDepth 100000 in
set_option maxHeartbeats 8000000 in
theorem implDesignText_any (A : Option Addr) (n c B : Nat) (xs : List DesignR) (w : World) (h : RdF designF w B A n c xs) (hB : B ≤ w.heap.size) (ht : Tab w) :
    Calls Tryd.prog 7 #[.slice A n c] w (Out w (.tuple #[.string (dtextX xs), .bool (progB xs)])) := by
  obtain rfl := h.len
  cases hr : progB xs
  case false =>
    rw [dtext_no hr]
    go_enter Tryd.func7, Tryd.ntmps7
    go_wp2_with fail
    refine (implIsProgram_any A _ c B xs _ h hB).mono ?_
    rintro e w1 ⟨rfl, hb⟩
    rw [hr]
    go_wp2
    go_ret2
    exact ⟨rfl, hb⟩
  have hl20 := prog_len hr
  rw [dtext_yes hr]
  have HR := Lib.hid hr
  have HTX := Lib.hid (show textT9 xs xs.length = joinTo 32 (xs.map wordT9) xs.length from rfl)
  rw [HTX.out]
  have hts := text_size hr xs.length
  rw [HTX.out] at hts
  go_enter Tryd.func7, Tryd.ntmps7
  go_wp2_with fail
  refine (implIsProgram_any A _ c B xs _ h hB).mono ?_
  rintro e w1 ⟨rfl, hb⟩
  rw [hr]
  clear hr HTX
  go_wp2
  go_loopw [4, 12] (fun s4 s12 wr => ∃ (k : Nat) (A' : Option Addr) (c' : Nat), k ≤ xs.length ∧ s4 = .slice A' k c' ∧ s12 = .int .i64 k ∧ OwnF strF wr w.heap.size (.slice A' k c') ((xs.map wordT9).take k) ∧ Hid (Below w.heap.size w wr)) (fun _ s12 _ => xs.length - (intOf s12).toNat)
  case atStart => exact ⟨0, none, 0, Nat.zero_le _, rfl, rfl, OwnF.nil _ _ _, Lib.hid hb⟩
  case round =>
    clear hb
    obtain ⟨k, A', c', hk, rfl, rfl, own, HB⟩ := hrel
    have hwz := HB.out.size
    by_cases hlt : k < xs.length
    · obtain ⟨b, off, a, rfl, hbB, _, HX, hc0, hc1, hc2, hc3⟩ := DesignR_at (F := designF) rfl (fun _ => rfl) (fun _ => rfl) (h.all HB.out hB) hlt
      have hds := Lib.hid (prog_at HR.out HX.out)
      have hws := word_size hds.out
      have HL := Lib.hid (show ((xs.map wordT9).take k).length = k by rw [List.length_take, List.length_map]; omega)
      have HK := Lib.hid (show (xs.map wordT9).take (k + 1) = (xs.map wordT9).take k ++ [wordT9 a] by
        obtain ⟨hi, e⟩ := List.getElem?_eq_some_iff.1 HX.out
        rw [List.take_succ_eq_append_getElem (by rw [List.length_map]; exact hlt), List.getElem_map, e])
      have hki : (0 : Int) ≤ (k : Int) := by omega
      have hkn : (k : Int) < (xs.length : Int) := by omega
      have hqm : (wordT9 a).size ≤ maxLen := by unfold maxLen; omega
      have hlk : k ≤ 1073741824 := by omega
      have hbw : b < wr.heap.size := by omega
      clear HX
      obtain ⟨f0, f1, f2, f3⟩ := a
      simp only at hc0 hc1 hc2 hc3
      have owna := own.alloc (.cells #[.int .i64 f0, .int .i64 f1, .int .i64 f2, .int .i64 f3] 33)
      have HBa := Lib.hid (HB.out.alloc hwz (.cells #[.int .i64 f0, .int .i64 f1, .int .i64 f2, .int .i64 f3] 33))
      have HTa := ht.below HBa.out rfl
      go_wp2_with fail
      refine (designWord_any f0 f1 f2 f3 _ hds.out HTa).mono ?_
      rintro e w5 ⟨rfl, hb5⟩
      replace own := owna.all hb5
      replace HB := Lib.hid (HBa.out.trans (hb5.mono HBa.out.size))
      have hwz5 := HB.out.size
      clear hb5 owna HBa HTa hds
      generalize wordT9 ⟨f0, f1, f2, f3⟩ = wt at *
      generalize (xs.map wordT9).take k = TT at *
      go_wp2_with (at_builtin; refine wpList_append_sN w5 rfl (.tmp 16) (.tmp 19) 36 rfl Tryd.underlying36 info_str w.heap.size k _ TT wt HL.out rfl rfl own hlk hqm hwz5 ?_)
      intro A6 c6 w6 o6 hg6
      have hbd := own.bd
      have HB6 := Lib.hid (HB.out.grown hg6 hwz5 (fun q hq => (hbd q hq).1))
      rw [← HK.out] at o6
      go_wp2
      go_roundw
      case rel => exact ⟨k + 1, A6, c6, by omega, rfl, by go_num, o6, HB6⟩
      case measure => simp [intOf]; omega
    · obtain rfl : k = xs.length := by omega
      rw [List.take_of_length_le (by rw [List.length_map]; exact Nat.le_refl _)] at own
      have hml : (xs.map wordT9).length = xs.length := List.length_map ..
      have HJ := Lib.hid (fun (o : OwnF strF wr w.heap.size (.slice A' (xs.map wordT9).length c') (xs.map wordT9)) => joinS_any 32 A' c' w.heap.size (xs.map wordT9) wr o (by omega) (by rw [hml]; omega))
      rw [hml] at HJ
      clear hml
      go_wp2_with fail
      refine (HJ.out own).mono ?_
      rintro e w7 ⟨rfl, hb7⟩
      go_wp2
      go_ret2
      exact ⟨rfl, HB.out.trans (hb7.mono hwz)⟩
end Go.Proofs.YtabkckjclgkecaaDoor
