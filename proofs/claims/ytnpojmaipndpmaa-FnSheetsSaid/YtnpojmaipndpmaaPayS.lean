/- The weavers with a sheet, and PayRoll: the walks of the model. Conditions: as they stand. -/
import Derived.Test.YtnpojmaipndpmaaPay
import Derived.Test.YtnpojmaipndpmaaWagesS
import Derived.Test.YtnpojmaipndpmaaHas1
import Derived.Test.YtnpojmaipndpmaaPut1
import Derived.Test.YtnpojmaipndpmaaStepZ
namespace Go.Proofs.Ytnpojmaipndpmaa
open Go.RowKit

set_option maxRecDepth 100000 in
set_option maxHeartbeats 4000000 in
theorem l14Weavers_any (A : Option Addr) (n c B : Nat) (xs : List WorkSheetR) (w : World) (h : RdF workSheetF w B A n c xs) (hB : B ≤ w.heap.size) (hn : n ≤ 1000) :
    Calls Try.prog 25 #[.slice A n c] w fun e w' => ∃ A' c', e = .returned (.slice A' (weavers14 xs).length c') ∧ Own w' w.heap.size (.slice A' (weavers14 xs).length c') (weavers14 xs) ∧ Below w.heap.size w w' := by
  obtain rfl := h.len
  have o0 : Own (w.alloc (.cells #[] 3)) w.heap.size (.slice (some ⟨w.heap.size, 0, none⟩) 0 0) [] := Own.empty (Nat.le_refl _)
  have HB0 : Below w.heap.size w (w.alloc (.cells #[] 3)) := (Below.refl _ _).alloc (Nat.le_refl _) _
  go_enter Try.func25, Try.ntmps25
  go_wp2
  generalize w.alloc (.cells #[] 3) = w1 at *
  go_loopw [4, 3] (fun i v wr => ∃ (k m : Nat) (M : List Int) (g c' : Nat), k ≤ xs.length ∧ i = .int .i64 k ∧ v = .slice (some ⟨g, 0, none⟩) m c' ∧ Hid (M.length = m) ∧ m ≤ k ∧ Own wr w.heap.size (.slice (some ⟨g, 0, none⟩) m c') M ∧ Hid (M.Pairwise (· < ·) ∧ ∀ y, y ∈ M ↔ y ∈ idsW (xs.take k)) ∧ Below w.heap.size w wr) (fun i _ _ => xs.length - (intOf i).toNat)
  case atStart => exact ⟨0, 0, [], _, 0, Nat.zero_le _, rfl, rfl, Lib.hid rfl, Nat.le_refl _, o0, Lib.hid ⟨List.Pairwise.nil, fun y => by simp [idsW]⟩, HB0⟩
  case round =>
    obtain ⟨k, m, M, g, c', hk, rfl, rfl, HL, hmk, own, HM, hb⟩ := hrel
    have hzz := hb.size
    by_cases hlt : k < xs.length
    · obtain ⟨b, off, a, rfl, hbB, ok, HX, hc0, hc1, hc2, hc3, hc4⟩ := WorkSheetR_at (F := workSheetF) rfl (fun _ => rfl) (fun _ => rfl) (h.all hb hB) hlt
      have hT := Lib.hid (fun y => idsW_take HX.out y)
      have hkn : (k : Int) < (xs.length : Int) := by omega
      have hki : (0 : Int) ≤ (k : Int) := by omega
      have hid : I64 a.f0 := ok.1
      by_cases hm : a.f0 ∈ M
      · have HN := Lib.hid (show M.Pairwise (· < ·) ∧ ∀ y, y ∈ M ↔ y ∈ idsW (xs.take (k + 1)) from ⟨HM.out.1, fun y => by
          rw [hT.out y, ← HM.out.2 y]
          exact ⟨.inr, fun hh => hh.elim (fun e => e ▸ hm) id⟩⟩)
        have HD := Lib.hid (show decide (a.f0 ∈ M) = true from decide_eq_true hm)
        clear hm
        go_wp2_with fail
        refine (l1Has_eq _ m c' _ M a.f0 _ own.rd true HD.out).mono ?_
        rintro e w2 ⟨rfl, rfl⟩
        go_wp2
        go_roundw
        case rel => exact ⟨k + 1, m, M, g, c', by omega, by go_num, rfl, HL, by omega, own, HN, hb⟩
        case measure => simp [intOf]; omega
      · have HN := Lib.hid (show (putI M a.f0).Pairwise (· < ·) ∧ ∀ y, y ∈ putI M a.f0 ↔ y ∈ idsW (xs.take (k + 1)) from ⟨putI_asc HM.out.1 hm, fun y => by rw [putI_mem, hT.out y, HM.out.2 y]⟩)
        have HD := Lib.hid (show decide (a.f0 ∈ M) = false from decide_eq_false hm)
        have HNE := Lib.hid hm
        clear hm
        go_wp2_with fail
        refine (l1Has_eq _ m c' _ M a.f0 _ own.rd false HD.out).mono ?_
        rintro e w2 ⟨rfl, rfl⟩
        go_wp2_with fail
        refine (l1Put_new g 0 m c' _ M a.f0 _ own.rd (Nat.le_refl _) hid (by omega) HNE.out).mono ?_
        rintro e w3 ⟨g3, c3, rfl, own3, hb3⟩
        have hpl := putI_len M a.f0
        replace own3 := own3.mono hzz
        have HB3 := hb.trans (hb3.mono hzz)
        obtain ⟨Z, hZ⟩ : ∃ Z, putI M a.f0 = Z := ⟨_, rfl⟩
        rw [hZ] at own3 HN hpl ⊢
        have hml : M.length = m := HL.out
        obtain ⟨q, hq⟩ : ∃ q, Z.length = q := ⟨_, rfl⟩
        have hqk : q ≤ k + 1 := by omega
        rw [hq] at own3 ⊢
        have HQ := Lib.hid hq
        clear hq hZ hpl hml own hb3
        go_wp2
        go_roundw
        case rel => exact ⟨k + 1, q, Z, g3, c3, by omega, by go_num, rfl, HQ, hqk, own3, HN, HB3⟩
        case measure => simp [intOf]; omega
    · obtain rfl : k = xs.length := by omega
      have HE := Lib.hid (show M = weavers14 xs from setI_eq HM.out.1 (fun y => by have := HM.out.2 y; rwa [List.take_length] at this))
      have hml : (weavers14 xs).length = m := by rw [← HE.out]; exact HL.out
      go_wp2
      go_ret
      exact ⟨_, c', by rw [hml]; rfl, by rw [hml, ← HE.out]; exact own, hb⟩
end Go.Proofs.Ytnpojmaipndpmaa
