/- The walk of the model's l6Places. Condition: two charts whose sides are sides. -/
import Derived.Test.YtehhidpmbbabeaaPlaceMath
import Derived.Test.YtehhidpmbbabeaaAppF
import Derived.Test.YtehhidpmbbabeaaPart
import Derived.Test.YtehhidpmbbabeaaSame
namespace Go.Proofs.Ytehhidpmbbabeaa
open Go.RowKit

/-- What a call leaves that answers a slice of pairs of its own. -/
def OwnPairs (w : World) (L : List PairR) (e : Ending) (w' : World) : Prop := ∃ A c, e = .returned (.slice A L.length c) ∧ OwnF pairF w' w.heap.size (.slice A L.length c) L ∧ Below w.heap.size w w'
theorem l4Same_sz (m k n c n' c' B B' : Nat) (A A' : Option Addr) (xs ys : List Int) (w : World) (h : Rd w B A n c xs) (h' : Rd w B' A' n' c' ys) (hB : B ≤ w.heap.size) (hB' : B' ≤ w.heap.size) (hl : ys.length = xs.length) (d : Bool) (hd : decide (ys = xs) = d) :
    Calls Try.prog 76 #[chartV m k (.slice A n c), chartV m k (.slice A' n' c')] w (Out w (.bool d)) :=
  l4Same_eq m k m k n c n' c' B B' A A' xs ys w h h' hB hB' (fun _ _ => hl) d (by simpa using hd)
set_option maxRecDepth 100000 in
set_option maxHeartbeats 8000000 in
theorem l6Places_any (m kk pm pk b off cc B b' off' cc' B' : Nat) (xs ys : List Int) (w : World) (hR : Rd w B (some ⟨b, off, none⟩) xs.length cc xs) (hR' : Rd w B' (some ⟨b', off', none⟩) ys.length cc' ys) (hB : B ≤ w.heap.size) (hB' : B' ≤ w.heap.size)
    (m8 : m ≤ 8) (k8 : kk ≤ 8) (p1 : 1 ≤ pm) (p2 : 1 ≤ pk) (p8 : pm ≤ 8) (p9 : pk ≤ 8) (hl : Hid (xs.length = m * kk)) (hl' : Hid (ys.length = pm * pk)) (h64 : m * kk ≤ 64) :
    Calls Try.prog 68 #[chartV m kk (.slice (some ⟨b, off, none⟩) xs.length cc), chartV pm pk (.slice (some ⟨b', off', none⟩) ys.length cc')] w (OwnPairs w (placesL m kk xs pm pk ys)) := by
  have hb0 := Lib.hid ((((Below.refl w.heap.size w).alloc (Nat.le_refl _) (.cells #[.int .i64 m, .int .i64 kk, .slice (some ⟨b, off, none⟩) xs.length cc] 26)).alloc (by simp) (.cells #[.int .i64 pm, .int .i64 pk, .slice (some ⟨b', off', none⟩) ys.length cc'] 26)).alloc (by simp; omega) (.cells #[] 66))
  have R0 := (((hR.alloc hB (.cells #[.int .i64 m, .int .i64 kk, .slice (some ⟨b, off, none⟩) xs.length cc] 26)).alloc (by simp; omega) (.cells #[.int .i64 pm, .int .i64 pk, .slice (some ⟨b', off', none⟩) ys.length cc'] 26)).alloc (by simp; omega) (.cells #[] 66))
  have S0 := (((hR'.alloc hB' (.cells #[.int .i64 m, .int .i64 kk, .slice (some ⟨b, off, none⟩) xs.length cc] 26)).alloc (by simp; omega) (.cells #[.int .i64 pm, .int .i64 pk, .slice (some ⟨b', off', none⟩) ys.length cc'] 26)).alloc (by simp; omega) (.cells #[] 66))
  have x0 := (((Blk.new w #[.int .i64 m, .int .i64 kk, .slice (some ⟨b, off, none⟩) xs.length cc] 26).alloc (.cells #[.int .i64 pm, .int .i64 pk, .slice (some ⟨b', off', none⟩) ys.length cc'] 26)).alloc (.cells #[] 66))
  have y0 := (((Blk.new (w.alloc (.cells #[.int .i64 m, .int .i64 kk, .slice (some ⟨b, off, none⟩) xs.length cc] 26)) #[.int .i64 pm, .int .i64 pk, .slice (some ⟨b', off', none⟩) ys.length cc'] 26).alloc (.cells #[] 66)).at_ (q := w.heap.size + 1) (by simp))
  have o0 : OwnF pairF (((w.alloc (.cells #[.int .i64 m, .int .i64 kk, .slice (some ⟨b, off, none⟩) xs.length cc] 26)).alloc (.cells #[.int .i64 pm, .int .i64 pk, .slice (some ⟨b', off', none⟩) ys.length cc'] 26)).alloc (.cells #[] 66)) w.heap.size (.slice (some ⟨w.heap.size + 1 + 1, 0, none⟩) 0 0) [] := by simpa [pairF] using (OwnF.empty pairF (w := (w.alloc (.cells #[.int .i64 m, .int .i64 kk, .slice (some ⟨b, off, none⟩) xs.length cc] 26)).alloc (.cells #[.int .i64 pm, .int .i64 pk, .slice (some ⟨b', off', none⟩) ys.length cc'] 26)) (lo := w.heap.size) (by simp; omega))
  clear hR hR'
  go_enter Try.func68, Try.ntmps68
  go_wp2
  go_loopw [5, 6] (fun s5 s6 wr => ∃ (i : Nat) (A : Option Addr) (c : Nat) (L : List PairR), i ≤ kk + 1 - pk ∧ s6 = .int .i64 i ∧ s5 = .slice A L.length c ∧ Hid (L = placesTo m xs pm pk ys i) ∧ OwnF pairF wr w.heap.size (.slice A L.length c) L ∧
      Blk wr w.heap.size 26 #[.int .i64 m, .int .i64 kk, .slice (some ⟨b, off, none⟩) xs.length cc] ∧ Blk wr (w.heap.size + 1) 26 #[.int .i64 pm, .int .i64 pk, .slice (some ⟨b', off', none⟩) ys.length cc'] ∧ Rd wr B (some ⟨b, off, none⟩) xs.length cc xs ∧ Rd wr B' (some ⟨b', off', none⟩) ys.length cc' ys ∧ Hid (Below w.heap.size w wr))
    (fun _ s6 _ => kk + 1 - pk - (intOf s6).toNat)
  case atStart => exact ⟨0, _, 0, [], Nat.zero_le _, rfl, rfl, rfl, o0, x0, y0, R0, S0, hb0⟩
  case round =>
    clear o0 x0 y0 R0 S0 hb0
    obtain ⟨i, A, c, L, hi, rfl, rfl, HL, ho, x1, y1, R1, S1, HB⟩ := hrel
    have ex1 := x1.cell 1
    have ey1 := y1.cell 1
    by_cases hlt : i < kk + 1 - pk
    · have hle : (i : Int) + (pk : Int) ≤ (kk : Int) := by omega
      have hw1 : IntKind.i64.wrap ((i : Int) + (pk : Int)) = (i : Int) + (pk : Int) := IntWalk.i64_in _ (by omega)
      go_wp2
      clear ex1 ey1
      go_loopw [5, 7] (fun s5 s7 wr => ∃ (j : Nat) (A : Option Addr) (c : Nat) (L : List PairR), j ≤ m + 1 - pm ∧ s7 = .int .i64 j ∧ s5 = .slice A L.length c ∧ Hid (L = placesTo m xs pm pk ys i ++ rowPl m xs pm pk ys i j) ∧ OwnF pairF wr w.heap.size (.slice A L.length c) L ∧
          Blk wr w.heap.size 26 #[.int .i64 m, .int .i64 kk, .slice (some ⟨b, off, none⟩) xs.length cc] ∧ Blk wr (w.heap.size + 1) 26 #[.int .i64 pm, .int .i64 pk, .slice (some ⟨b', off', none⟩) ys.length cc'] ∧ Rd wr B (some ⟨b, off, none⟩) xs.length cc xs ∧ Rd wr B' (some ⟨b', off', none⟩) ys.length cc' ys ∧ Hid (Below w.heap.size w wr))
        (fun _ s7 _ => m + 1 - pm - (intOf s7).toNat)
      case atStart => exact ⟨0, A, c, L, Nat.zero_le _, rfl, rfl, Lib.hid (by rw [rowPl_zero, List.append_nil]; exact HL.out), ho, x1, y1, R1, S1, HB⟩
      case round =>
        clear HL ho x1 y1 R1 S1 HB
        obtain ⟨j, A, c, L, hj, rfl, rfl, HL, ho, x1, y1, R1, S1, HB⟩ := hrel
        have ex0 := x1.cell 0
        have ex1 := x1.cell 1
        have ex2 := x1.cell 2
        have ey0 := y1.cell 0
        have ey1 := y1.cell 1
        have ey2 := y1.cell 2
        have hz1 : w.heap.size ≤ wr.heap.size := HB.out.size
        have hzx := x1.lt
        have hzy := y1.lt
        by_cases hjl : j < m + 1 - pm
        · have hle2 : (j : Int) + (pm : Int) ≤ (m : Int) := by omega
          have hw2 : IntKind.i64.wrap ((j : Int) + (pm : Int)) = (j : Int) + (pm : Int) := IntWalk.i64_in _ (by omega)
          have hrh : i + pk ≤ kk := by omega
          have hck : j + pm ≤ m := by omega
          have hlen : L.length ≤ 1000 := by
            rw [HL.out, List.length_append]
            have h1 := placesTo_len (m := m) (xs := xs) (pm := pm) (pk := pk) (ys := ys) (n := i)
            have h2 := rowPl_len (m := m) (xs := xs) (pm := pm) (pk := pk) (ys := ys) (r := i) (t := j)
            have h3 : i * (m + 1 - pm) ≤ 8 * 8 := Nat.mul_le_mul (by omega) (by omega)
            omega
          obtain ⟨d, HDD⟩ : ∃ d, Hid (decide (partL m xs i j pk pm = ys) = d) := ⟨_, rfl⟩
          have HOC := Lib.hid (show occB m xs pm pk ys i j = d from HDD.out)
          have HPL := Lib.hid (show (partL m xs i j pk pm).length = ys.length by rw [partL_len, hl'.out, Nat.mul_comm])
          have R1d := R1.drew
          have hz3d : B ≤ wr.drew.heap.size := Nat.le_trans hB hz1
          go_wp2
          go_region_held3 (fun w' => w'.cell? ⟨w.heap.size, 0, none⟩ = some (.int .i64 m) ∧ w'.cell? ⟨w.heap.size, 1, none⟩ = some (.int .i64 kk) ∧ w'.cell? ⟨w.heap.size, 2, none⟩ = some (.slice (some ⟨b, off, none⟩) xs.length cc) ∧ w'.cell? ⟨w.heap.size + 1, 0, none⟩ = some (.int .i64 pm) ∧ w'.cell? ⟨w.heap.size + 1, 1, none⟩ = some (.int .i64 pk) ∧ w'.cell? ⟨w.heap.size + 1, 2, none⟩ = some (.slice (some ⟨b', off', none⟩) ys.length cc')) (first | exact ⟨ex0, ex1, ex2, ey0, ey1, ey2⟩ | go_keep) (first | (go_at_call 55; (with_reducible refine (l2Part_any m kk b off cc B i j pk pm xs _ R1d hz3d m8 k8 hl h64 hrh hck).mono ?_); rintro e w3 ⟨A3, c3, rfl, own3, hb3⟩; (try replace hb3 := below_drew' hb3); have S3 := S1.all hb3 (Nat.le_trans hB' hz1); have R3 := R1.all hb3 (Nat.le_trans hB hz1); have HB3 := Lib.hid (HB.out.trans (hb3.mono hz1)); have x3 := x1.all hb3; have y3 := y1.all hb3; have o3 := ho.all hb3; have hz4 : B' ≤ w3.heap.size := Nat.le_trans (Nat.le_trans hB' hz1) hb3.size; have hz5 : B ≤ w3.heap.size := Nat.le_trans (Nat.le_trans hB hz1) hb3.size; have hz7 : w.heap.size ≤ w3.heap.size := Nat.le_trans hz1 hb3.size; replace ex0 := cells_of hb3 ex0 hzx; replace ex1 := cells_of hb3 ex1 hzx; replace ex2 := cells_of hb3 ex2 hzx; replace ey0 := cells_of hb3 ey0 hzy; replace ey1 := cells_of hb3 ey1 hzy; replace ey2 := cells_of hb3 ey2 hzy; have hzx3 := x3.lt; have hzy3 := y3.lt; clear hb3) | (go_at_call 76; (with_reducible refine (l4Same_sz pm pk _ cc' _ c3 B' _ _ _ ys _ _ S3 own3.rd hz4 (Nat.le_refl _) HPL.out d HDD.out).mono ?_); rintro e w4 ⟨rfl, hb4⟩; have HB4 := Lib.hid (HB3.out.trans (hb4.mono hz7)); have R4 := R3.all hb4 hz5; have S4 := S3.all hb4 hz4; have x4 := x3.all hb4; have y4 := y3.all hb4; have o4 := o3.all hb4; have hz9 : w.heap.size ≤ w4.heap.size := Nat.le_trans hz7 hb4.size; replace ex0 := cells_of hb4 ex0 hzx3; replace ex1 := cells_of hb4 ex1 hzx3; replace ex2 := cells_of hb4 ex2 hzx3; replace ey0 := cells_of hb4 ey0 hzy3; replace ey1 := cells_of hb4 ey1 hzy3; replace ey2 := cells_of hb4 ey2 hzy3; clear hb4))
          clear x1 y1 R1 S1 ho HB ex0 ex1 ex2 ey0 ey1 ey2 x3 y3 R3 S3 o3 HB3 own3 hzx hzy hzx3 hzy3 R1d
          cases d with
          | true =>
            have HN := Lib.hid (show L ++ [⟨(i : Int), (j : Int)⟩] = placesTo m xs pm pk ys i ++ rowPl m xs pm pk ys i (j + 1) by rw [rowPl_yes HOC.out, HL.out, List.append_assoc])
            clear HL
            have hr := RdF.lit (F := pairF) (w := w4) (cs := #[.int .i64 (i : Int), .int .i64 (j : Int)]) (a := ⟨(i : Int), (j : Int)⟩) rfl (ok_small (by omega) (by omega))
            have oA := o4.alloc (.cells #[.int .i64 (i : Int), .int .i64 (j : Int)] pairF.t)
            have hz10 : w.heap.size ≤ (w4.alloc (.cells #[.int .i64 (i : Int), .int .i64 (j : Int)] pairF.t)).heap.size := by simp; omega
            have xA := x4.alloc (.cells #[.int .i64 (i : Int), .int .i64 (j : Int)] pairF.t)
            have yA := y4.alloc (.cells #[.int .i64 (i : Int), .int .i64 (j : Int)] pairF.t)
            have RA := R4.alloc (Nat.le_trans hB hz9) (.cells #[.int .i64 (i : Int), .int .i64 (j : Int)] pairF.t)
            have SA := S4.alloc (Nat.le_trans hB' hz9) (.cells #[.int .i64 (i : Int), .int .i64 (j : Int)] pairF.t)
            have HBA := Lib.hid (HB4.out.alloc hz9 (.cells #[.int .i64 (i : Int), .int .i64 (j : Int)] pairF.t))
            clear x4 y4 R4 S4 HB4
            go_wp2_with (refine wpList_appendF pairF rfl _ (.tmp 37) (.tmp 41) 39 (.agg #[.int .i64 0, .int .i64 0]) 16 rfl Try.underlying39 info_Pair rfl (by decide) (by decide) w.heap.size _ L [⟨(i : Int), (j : Int)⟩] w4.heap.size 0 1 1 (w4.heap.size + 1) rfl rfl oA hr (by simp; omega) hz10 ?_)
            intro A5 c5 w5 o5 hg5
            have x5 := xA.mark hg5 (row_ne oA.1 xA (by decide))
            have y5 := yA.mark hg5 (row_ne oA.1 yA (by decide))
            have R5 := RA.mark hg5 (fun q hq => Nat.le_trans hB (oA.bd q hq).1) (Nat.le_trans hB hz10)
            have S5 := SA.mark hg5 (fun q hq => Nat.le_trans hB' (oA.bd q hq).1) (Nat.le_trans hB' hz10)
            have HB5 := Lib.hid (HBA.out.grown hg5 hz10 (fun q hq => (oA.bd q hq).1))
            clear oA xA yA RA SA HBA hr o4 hg5
            go_wp2
            go_roundw
            case rel => exact ⟨j + 1, A5, c5, L ++ [⟨(i : Int), (j : Int)⟩], by omega, by go_num, by rw [List.length_append]; rfl, HN, by rw [List.length_append]; exact o5, x5, y5, R5, S5, HB5⟩
            case measure => simp [intOf]; omega
          | false =>
            have HN := Lib.hid (show L = placesTo m xs pm pk ys i ++ rowPl m xs pm pk ys i (j + 1) by rw [rowPl_no HOC.out]; exact HL.out)
            clear HL
            go_wp2
            go_roundw
            case rel => exact ⟨j + 1, A, c, L, by omega, by go_num, rfl, HN, o4, x4, y4, R4, S4, HB4⟩
            case measure => simp [intOf]; omega
        · have HN := Lib.hid (show L = placesTo m xs pm pk ys (i + 1) by rw [placesTo_succ, HL.out, show j = m + 1 - pm by omega])
          have hgt : ¬ (j : Int) + (pm : Int) ≤ (m : Int) := by omega
          have hw2 : IntKind.i64.wrap ((j : Int) + (pm : Int)) = (j : Int) + (pm : Int) := IntWalk.i64_in _ (by omega)
          clear HL
          go_wp2
          go_roundw
          case rel => exact ⟨i + 1, A, c, L, by omega, by go_num, rfl, HN, ho, x1, y1, R1, S1, HB⟩
          case measure => simp [intOf]; omega
    · have HN := Lib.hid (show L = placesL m kk xs pm pk ys by rw [HL.out, placesL, show i = kk + 1 - pk by omega])
      have hgt : ¬ (i : Int) + (pk : Int) ≤ (kk : Int) := by omega
      have hw1 : IntKind.i64.wrap ((i : Int) + (pk : Int)) = (i : Int) + (pk : Int) := IntWalk.i64_in _ (by omega)
      clear HL
      go_wp2
      go_ret
      rw [← HN.out]
      exact ⟨A, c, rfl, ho, HB.out⟩
end Go.Proofs.Ytehhidpmbbabeaa
