/- The walk of the program's placesIn. Condition: two charts whose sides are sides. -/
import Derived.Test.YtehhidpmbbabeaaOccur
import Derived.Test.YtehhidpmbbabeaaPlacesS
namespace Go.Proofs.Ytehhidpmbbabeaa
open Go.RowKit

set_option maxRecDepth 100000 in
set_option maxHeartbeats 8000000 in
theorem placesIn_any (m kk pm pk b off cc B b' off' cc' B' : Nat) (xs ys : List Int) (w : World) (hR : Rd w B (some ⟨b, off, none⟩) xs.length cc xs) (hR' : Rd w B' (some ⟨b', off', none⟩) ys.length cc' ys) (hB : B ≤ w.heap.size) (hB' : B' ≤ w.heap.size)
    (m1 : 1 ≤ m) (m8 : m ≤ 8) (k8 : kk ≤ 8) (p1 : 1 ≤ pm) (p2 : 1 ≤ pk) (p8 : pm ≤ 8) (p9 : pk ≤ 8) (hl : Hid (xs.length = m * kk)) (hl' : Hid (ys.length = pm * pk)) :
    Calls Try.prog 69 #[chartV m kk (.slice (some ⟨b, off, none⟩) xs.length cc), chartV pm pk (.slice (some ⟨b', off', none⟩) ys.length cc')] w (OwnPairs w (placesL m kk xs pm pk ys)) := by
  have hb0 := Lib.hid (((Below.refl w.heap.size w).alloc (Nat.le_refl _) (.cells #[.int .i64 m, .int .i64 kk, .slice (some ⟨b, off, none⟩) xs.length cc] 26)).alloc (by simp) (.cells #[.int .i64 pm, .int .i64 pk, .slice (some ⟨b', off', none⟩) ys.length cc'] 26))
  have R0 := (hR.alloc hB (.cells #[.int .i64 m, .int .i64 kk, .slice (some ⟨b, off, none⟩) xs.length cc] 26)).alloc (by simp; omega) (.cells #[.int .i64 pm, .int .i64 pk, .slice (some ⟨b', off', none⟩) ys.length cc'] 26)
  have S0 := (hR'.alloc hB' (.cells #[.int .i64 m, .int .i64 kk, .slice (some ⟨b, off, none⟩) xs.length cc] 26)).alloc (by simp; omega) (.cells #[.int .i64 pm, .int .i64 pk, .slice (some ⟨b', off', none⟩) ys.length cc'] 26)
  have x0 := (Blk.new w #[.int .i64 m, .int .i64 kk, .slice (some ⟨b, off, none⟩) xs.length cc] 26).alloc (.cells #[.int .i64 pm, .int .i64 pk, .slice (some ⟨b', off', none⟩) ys.length cc'] 26)
  have y0 := (Blk.new (w.alloc (.cells #[.int .i64 m, .int .i64 kk, .slice (some ⟨b, off, none⟩) xs.length cc] 26)) #[.int .i64 pm, .int .i64 pk, .slice (some ⟨b', off', none⟩) ys.length cc'] 26).at_ (q := w.heap.size + 1) (by simp)
  have o0 : OwnF pairF ((w.alloc (.cells #[.int .i64 m, .int .i64 kk, .slice (some ⟨b, off, none⟩) xs.length cc] 26)).alloc (.cells #[.int .i64 pm, .int .i64 pk, .slice (some ⟨b', off', none⟩) ys.length cc'] 26)) w.heap.size (.slice none 0 0) [] := OwnF.nil _ _ _
  have hwk : IntKind.i64.wrap ((kk : Int) - (pk : Int)) = (kk : Int) - (pk : Int) := IntWalk.i64_in _ (by omega)
  have hwk1 : IntKind.i64.wrap ((kk : Int) - (pk : Int) + 1) = (kk : Int) - (pk : Int) + 1 := IntWalk.i64_in _ (by omega)
  have hwm : IntKind.i64.wrap ((m : Int) - (pm : Int)) = (m : Int) - (pm : Int) := IntWalk.i64_in _ (by omega)
  have hwm1 : IntKind.i64.wrap ((m : Int) - (pm : Int) + 1) = (m : Int) - (pm : Int) + 1 := IntWalk.i64_in _ (by omega)
  clear hR hR'
  go_enter Try.func69, Try.ntmps69
  go_wp2
  go_loopw [5, 14] (fun s5 s14 wr => ∃ (i : Nat) (A : Option Addr) (c : Nat) (L : List PairR), i ≤ kk + 1 - pk ∧ s14 = .int .i64 i ∧ s5 = .slice A L.length c ∧ Hid (L = placesTo m xs pm pk ys i) ∧ OwnF pairF wr w.heap.size (.slice A L.length c) L ∧
      Blk wr w.heap.size 26 #[.int .i64 m, .int .i64 kk, .slice (some ⟨b, off, none⟩) xs.length cc] ∧ Blk wr (w.heap.size + 1) 26 #[.int .i64 pm, .int .i64 pk, .slice (some ⟨b', off', none⟩) ys.length cc'] ∧ Rd wr B (some ⟨b, off, none⟩) xs.length cc xs ∧ Rd wr B' (some ⟨b', off', none⟩) ys.length cc' ys ∧ Hid (Below w.heap.size w wr))
    (fun _ s14 _ => kk + 1 - pk - (intOf s14).toNat)
  case atStart => exact ⟨0, _, 0, [], Nat.zero_le _, rfl, rfl, rfl, o0, x0, y0, R0, S0, hb0⟩
  case round =>
    clear o0 x0 y0 R0 S0 hb0
    obtain ⟨i, A, c, L, hi, rfl, rfl, HL, ho, x1, y1, R1, S1, HB⟩ := hrel
    have ex0 := x1.cell 0
    have ey0 := y1.cell 0
    by_cases hlt : i < kk + 1 - pk
    · have hle : (i : Int) < (kk : Int) - (pk : Int) + 1 := by omega
      go_wp2
      clear ex0 ey0
      go_loopw [5, 23] (fun s5 s23 wr => ∃ (j : Nat) (A : Option Addr) (c : Nat) (L : List PairR), j ≤ m + 1 - pm ∧ s23 = .int .i64 j ∧ s5 = .slice A L.length c ∧ Hid (L = placesTo m xs pm pk ys i ++ rowPl m xs pm pk ys i j) ∧ OwnF pairF wr w.heap.size (.slice A L.length c) L ∧
          Blk wr w.heap.size 26 #[.int .i64 m, .int .i64 kk, .slice (some ⟨b, off, none⟩) xs.length cc] ∧ Blk wr (w.heap.size + 1) 26 #[.int .i64 pm, .int .i64 pk, .slice (some ⟨b', off', none⟩) ys.length cc'] ∧ Rd wr B (some ⟨b, off, none⟩) xs.length cc xs ∧ Rd wr B' (some ⟨b', off', none⟩) ys.length cc' ys ∧ Hid (Below w.heap.size w wr))
        (fun _ s23 _ => m + 1 - pm - (intOf s23).toNat)
      case atStart => exact ⟨0, A, c, L, Nat.zero_le _, rfl, rfl, Lib.hid (by rw [rowPl_zero, List.append_nil]; exact HL.out), ho, x1, y1, R1, S1, HB⟩
      case round =>
        clear HL ho x1 y1 R1 S1 HB
        obtain ⟨j, A, c, L, hj, rfl, rfl, HL, ho, x1, y1, R1, S1, HB⟩ := hrel
        have ex0 := x1.cell 0
        have ex1 := x1.cell 1
        have ex2 := x1.cell 2
        have ey0 := y1.cell 0
        have ey1 := y1.cell 1
        have ey2 := y1.cell 2
        have hz1 : w.heap.size ≤ wr.heap.size := HB.out.size
        by_cases hjl : j < m + 1 - pm
        · have hle2 : (j : Int) < (m : Int) - (pm : Int) + 1 := by omega
          have hrh : i + pk ≤ kk := by omega
          have hck : j + pm ≤ m := by omega
          have hlen : L.length ≤ 1000 := by
            rw [HL.out, List.length_append]
            have h1 := placesTo_len (m := m) (xs := xs) (pm := pm) (pk := pk) (ys := ys) (n := i)
            have h2 := rowPl_len (m := m) (xs := xs) (pm := pm) (pk := pk) (ys := ys) (r := i) (t := j)
            have h3 : i * (m + 1 - pm) ≤ 8 * 8 := Nat.mul_le_mul (by omega) (by omega)
            omega
          obtain ⟨d, HOC⟩ : ∃ d, Hid (occB m xs pm pk ys i j = d) := ⟨_, rfl⟩
          go_wp2_with fail
          refine (occursAt_any m kk pm pk b off cc B b' off' cc' B' i j xs ys wr R1 S1 (Nat.le_trans hB hz1) (Nat.le_trans hB' hz1) m1 m8 k8 p1 p8 p9 hl hl' hrh hck d HOC.out).mono ?_
          rintro e w4 ⟨rfl, hb4⟩
          have HB4 := Lib.hid (HB.out.trans (hb4.mono hz1))
          have R4 := R1.all hb4 (Nat.le_trans hB hz1)
          have S4 := S1.all hb4 (Nat.le_trans hB' hz1)
          have x4 := x1.all hb4
          have y4 := y1.all hb4
          have o4 := ho.all hb4
          have hz9 : w.heap.size ≤ w4.heap.size := Nat.le_trans hz1 hb4.size
          clear x1 y1 R1 S1 ho HB ex0 ex1 ex2 ey0 ey1 ey2 hb4
          cases d with
          | true =>
            have HN := Lib.hid (show L ++ [⟨(i : Int), (j : Int)⟩] = placesTo m xs pm pk ys i ++ rowPl m xs pm pk ys i (j + 1) by rw [rowPl_yes HOC.out, HL.out, List.append_assoc])
            clear HL
            have hr := RdF.lit (F := pairF) (w := w4) (cs := #[.int .i64 (i : Int), .int .i64 (j : Int)]) (a := ⟨(i : Int), (j : Int)⟩) rfl (ok_small (by omega) (by omega))
            have oA := o4.alloc (.cells #[.int .i64 (i : Int), .int .i64 (j : Int)] pairF.t)
            have hz10 : w.heap.size ≤ (w4.alloc (.cells #[.int .i64 (i : Int), .int .i64 (j : Int)] pairF.t)).heap.size := by simp; omega
            have xA := x4.alloc (.cells #[.int .i64 (i : Int), .int .i64 (j : Int)] pairF.t)
            have yA := y4.alloc (.cells #[.int .i64 (i : Int), .int .i64 (j : Int)] pairF.t)
            have RA := R4.alloc (Nat.le_trans hB hz9) (.cells #[.int .i64 (i : Int), .int .i64 (j : Int)] pairF.t)
            have SA := S4.alloc (Nat.le_trans hB' hz9) (.cells #[.int .i64 (i : Int), .int .i64 (j : Int)] pairF.t)
            have HBA := Lib.hid (HB4.out.alloc hz9 (.cells #[.int .i64 (i : Int), .int .i64 (j : Int)] pairF.t))
            clear x4 y4 R4 S4 HB4
            go_wp2_with (refine wpList_appendF pairF rfl _ (.tmp 31) (.tmp 35) 39 (.agg #[.int .i64 0, .int .i64 0]) 16 rfl Try.underlying39 info_Pair rfl (by decide) (by decide) w.heap.size _ L [⟨(i : Int), (j : Int)⟩] w4.heap.size 0 1 1 (w4.heap.size + 1) rfl rfl oA hr (by simp; omega) hz10 ?_)
            intro A5 c5 w5 o5 hg5
            have x5 := xA.mark hg5 (row_ne oA.1 xA (by decide))
            have y5 := yA.mark hg5 (row_ne oA.1 yA (by decide))
            have R5 := RA.mark hg5 (fun q hq => Nat.le_trans hB (oA.bd q hq).1) (Nat.le_trans hB hz10)
            have S5 := SA.mark hg5 (fun q hq => Nat.le_trans hB' (oA.bd q hq).1) (Nat.le_trans hB' hz10)
            have HB5 := Lib.hid (HBA.out.grown hg5 hz10 (fun q hq => (oA.bd q hq).1))
            clear oA xA yA RA SA HBA hr o4 hg5
            go_wp2
            go_roundw
            case rel => exact ⟨j + 1, A5, c5, L ++ [⟨(i : Int), (j : Int)⟩], by omega, by go_num, by rw [List.length_append]; rfl, HN, by rw [List.length_append]; exact o5, x5, y5, R5, S5, HB5⟩
            case measure => simp [intOf]; omega
          | false =>
            have HN := Lib.hid (show L = placesTo m xs pm pk ys i ++ rowPl m xs pm pk ys i (j + 1) by rw [rowPl_no HOC.out]; exact HL.out)
            clear HL
            go_wp2
            go_roundw
            case rel => exact ⟨j + 1, A, c, L, by omega, by go_num, rfl, HN, o4, x4, y4, R4, S4, HB4⟩
            case measure => simp [intOf]; omega
        · have HN := Lib.hid (show L = placesTo m xs pm pk ys (i + 1) by rw [placesTo_succ, HL.out, show j = m + 1 - pm by omega])
          have hgt : ¬ (j : Int) < (m : Int) - (pm : Int) + 1 := by omega
          clear HL
          go_wp2
          go_roundw
          case rel => exact ⟨i + 1, A, c, L, by omega, by go_num, rfl, HN, ho, x1, y1, R1, S1, HB⟩
          case measure => simp [intOf]; omega
    · have HN := Lib.hid (show L = placesL m kk xs pm pk ys by rw [HL.out, placesL, show i = kk + 1 - pk by omega])
      have hgt : ¬ (i : Int) < (kk : Int) - (pk : Int) + 1 := by omega
      clear HL
      go_wp2
      go_ret
      rw [← HN.out]
      exact ⟨A, c, rfl, ho, HB.out⟩
end Go.Proofs.Ytehhidpmbbabeaa
