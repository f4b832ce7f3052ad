/- The walk of the model's SwappedColors. No condition. -/
import Derived.Test.YtgkflgfjbaobcaaSwapI
import Derived.Test.YtgkflgfjbaobcaaSizeS
namespace Go.Proofs.Ytgkflgfjbaobcaa
open Go.RowKit

theorem ownF_blk0 {w : World} {lo g : Nat} (h : Blk w g 53 #[]) (hg : lo ≤ g) : OwnF pairF w lo (.slice (some ⟨g, 0, none⟩) 0 0) [] :=
  ⟨⟨rfl, .inr ⟨g, 0, #[], rfl, hg, h, Nat.le_refl _, Nat.zero_le _, rfl, rfl⟩⟩, fun _ h => by simp at h⟩
def smB (M : Nat → Nat → Bool) (a b i : Nat) : Bool := (!(decide (a = b))) && M i (a * 6 + b)
set_option maxRecDepth 100000 in
set_option maxHeartbeats 8000000 in
theorem specSwappedColors_any (V0 H0 : Int) (A0 : Option Addr) (n0 c0 B0 : Nat) (xs0 : List Int) (V1 H1 : Int) (A1 : Option Addr) (n1 c1 B1 : Nat) (xs1 : List Int) (w : World) (h0 : Rd w B0 A0 n0 c0 xs0) (hB0 : B0 ≤ w.heap.size) (h1 : Rd w B1 A1 n1 c1 xs1) (hB1 : B1 ≤ w.heap.size) :
    Calls Try.prog 17 #[chartV V0 H0 (.slice A0 n0 c0), chartV V1 H1 (.slice A1 n1 c1)] w (OutF pairF w (swX V0 H0 xs0 V1 H1 xs1) (sizeB V0 H0 xs0 V1 H1 xs1)) := by
  obtain rfl := h0.len
  obtain rfl := h1.len
  cases hok : sizeB V0 H0 xs0 V1 H1 xs1 with
  | false =>
    have HX := Lib.hid (swX_no hok)
    have HB := Lib.hid ((((Below.refl w.heap.size w).alloc (by first | (simp; done) | (simp; omega) | omega) (.cells #[.int .i64 V0, .int .i64 H0, .slice A0 xs0.length c0] 26)).alloc (by first | (simp; done) | (simp; omega) | omega) (.cells #[.int .i64 V1, .int .i64 H1, .slice A1 xs1.length c1] 26)).alloc (by first | (simp; done) | (simp; omega) | omega) (.cells #[] 53))
    have R0 := ((((h0)).alloc (hB0) (.cells #[.int .i64 V0, .int .i64 H0, .slice A0 xs0.length c0] 26)).alloc ((by first | (simp; done) | (simp; omega) | omega)) (.cells #[.int .i64 V1, .int .i64 H1, .slice A1 xs1.length c1] 26)).alloc ((by first | (simp; done) | (simp; omega) | omega)) (.cells #[] 53)
    have R1 := ((((h1)).alloc (hB1) (.cells #[.int .i64 V0, .int .i64 H0, .slice A0 xs0.length c0] 26)).alloc ((by first | (simp; done) | (simp; omega) | omega)) (.cells #[.int .i64 V1, .int .i64 H1, .slice A1 xs1.length c1] 26)).alloc ((by first | (simp; done) | (simp; omega) | omega)) (.cells #[] 53)
    have x := (((Blk.new w #[.int .i64 V0, .int .i64 H0, .slice A0 xs0.length c0] 26).alloc (.cells #[.int .i64 V1, .int .i64 H1, .slice A1 xs1.length c1] 26)).alloc (.cells #[] 53)).at_ (q := w.heap.size) (by simp)
    have y := ((Blk.new (w.alloc (.cells #[.int .i64 V0, .int .i64 H0, .slice A0 xs0.length c0] 26)) #[.int .i64 V1, .int .i64 H1, .slice A1 xs1.length c1] 26).alloc (.cells #[] 53)).at_ (q := w.heap.size + 1) (by simp)
    have o := (Blk.new ((w.alloc (.cells #[.int .i64 V0, .int .i64 H0, .slice A0 xs0.length c0] 26)).alloc (.cells #[.int .i64 V1, .int .i64 H1, .slice A1 xs1.length c1] 26)) #[] 53).at_ (q := w.heap.size + 1 + 1) (by simp)
    have hsz : w.heap.size + 3 ≤ (((w.alloc (.cells #[.int .i64 V0, .int .i64 H0, .slice A0 xs0.length c0] 26)).alloc (.cells #[.int .i64 V1, .int .i64 H1, .slice A1 xs1.length c1] 26)).alloc (.cells #[] 53)).heap.size := by simp
    clear h0 h1
    go_enter Try.func17, Try.ntmps17
    go_wp2_with fail
    obtain ⟨W0, hW0⟩ : ∃ v, (((w.alloc (.cells #[.int .i64 V0, .int .i64 H0, .slice A0 xs0.length c0] 26)).alloc (.cells #[.int .i64 V1, .int .i64 H1, .slice A1 xs1.length c1] 26)).alloc (.cells #[] 53)) = v := ⟨_, rfl⟩
    rw [hW0] at HB hsz R0 R1 x y o ⊢
    clear hW0
    have oo := ownF_blk0 (lo := w.heap.size) o (by omega)
    clear o
    have ex0 := x.cell 0
    have ex1 := x.cell 1
    have ex2 := x.cell 2
    have zx := x.lt
    have ey0 := y.cell 0
    have ey1 := y.cell 1
    have ey2 := y.cell 2
    have zy := y.lt
    go_wp2_with fail
    refine (l13Size_any V0 H0 A0 _ c0 _ xs0 V1 H1 A1 _ c1 _ xs1 _ R0 (Nat.le_trans hB0 (by omega)) R1 (Nat.le_trans hB1 (by omega))).mono ?_
    rintro e w1 ⟨rfl, hb⟩
    clear ex0 ex1 ex2 zx ey0 ey1 ey2 zy
    replace oo := oo.all hb
    replace x := x.all hb
    replace y := y.all hb
    replace R0 := R0.all hb (Nat.le_trans (hB0) (by omega))
    replace R1 := R1.all hb (Nat.le_trans (hB1) (by omega))
    replace HB := Lib.hid (HB.out.trans (hb.mono (by omega)))
    replace hsz := Nat.le_trans hsz hb.size
    clear hb
    rw [hok]
    go_wp2
    go_ret2
    rw [HX.out]
    exact ⟨_, _, rfl, oo, HB.out⟩
  | true =>
    obtain ⟨m, k, rfl, rfl, rfl, rfl, hl1, _, _, _, _, _, h64, h1n, hx0, hx1⟩ := size_open hok
    have HX := Lib.hid (swX_yes hok)
    have HC0 := Lib.hid (fun p hp => col_nat (p := p) hx0 hp)
    have HC1 := Lib.hid (fun p hp => col_nat (p := p) hx1 hp)
    clear hx0 hx1
    obtain ⟨b0, off0, rfl, _, _⟩ := h0.cells h1n
    obtain ⟨b1, off1, rfl, _, _⟩ := h1.cells (by rw [hl1.out]; exact h1n)
    have HB := Lib.hid ((((Below.refl w.heap.size w).alloc (by first | (simp; done) | (simp; omega) | omega) (.cells #[.int .i64 m, .int .i64 k, .slice (some ⟨b0, off0, none⟩) xs0.length c0] 26)).alloc (by first | (simp; done) | (simp; omega) | omega) (.cells #[.int .i64 m, .int .i64 k, .slice (some ⟨b1, off1, none⟩) xs1.length c1] 26)).alloc (by first | (simp; done) | (simp; omega) | omega) (.cells #[] 53))
    have R0 := ((((h0)).alloc (hB0) (.cells #[.int .i64 m, .int .i64 k, .slice (some ⟨b0, off0, none⟩) xs0.length c0] 26)).alloc ((by first | (simp; done) | (simp; omega) | omega)) (.cells #[.int .i64 m, .int .i64 k, .slice (some ⟨b1, off1, none⟩) xs1.length c1] 26)).alloc ((by first | (simp; done) | (simp; omega) | omega)) (.cells #[] 53)
    have R1 := ((((h1)).alloc (hB1) (.cells #[.int .i64 m, .int .i64 k, .slice (some ⟨b0, off0, none⟩) xs0.length c0] 26)).alloc ((by first | (simp; done) | (simp; omega) | omega)) (.cells #[.int .i64 m, .int .i64 k, .slice (some ⟨b1, off1, none⟩) xs1.length c1] 26)).alloc ((by first | (simp; done) | (simp; omega) | omega)) (.cells #[] 53)
    have x := (((Blk.new w #[.int .i64 m, .int .i64 k, .slice (some ⟨b0, off0, none⟩) xs0.length c0] 26).alloc (.cells #[.int .i64 m, .int .i64 k, .slice (some ⟨b1, off1, none⟩) xs1.length c1] 26)).alloc (.cells #[] 53)).at_ (q := w.heap.size) (by simp)
    have y := ((Blk.new (w.alloc (.cells #[.int .i64 m, .int .i64 k, .slice (some ⟨b0, off0, none⟩) xs0.length c0] 26)) #[.int .i64 m, .int .i64 k, .slice (some ⟨b1, off1, none⟩) xs1.length c1] 26).alloc (.cells #[] 53)).at_ (q := w.heap.size + 1) (by simp)
    have o := (Blk.new ((w.alloc (.cells #[.int .i64 m, .int .i64 k, .slice (some ⟨b0, off0, none⟩) xs0.length c0] 26)).alloc (.cells #[.int .i64 m, .int .i64 k, .slice (some ⟨b1, off1, none⟩) xs1.length c1] 26)) #[] 53).at_ (q := w.heap.size + 1 + 1) (by simp)
    have hsz : w.heap.size + 3 ≤ (((w.alloc (.cells #[.int .i64 m, .int .i64 k, .slice (some ⟨b0, off0, none⟩) xs0.length c0] 26)).alloc (.cells #[.int .i64 m, .int .i64 k, .slice (some ⟨b1, off1, none⟩) xs1.length c1] 26)).alloc (.cells #[] 53)).heap.size := by simp
    clear h0 h1
    go_enter Try.func17, Try.ntmps17
    go_wp2_with fail
    obtain ⟨W0, hW0⟩ : ∃ v, (((w.alloc (.cells #[.int .i64 m, .int .i64 k, .slice (some ⟨b0, off0, none⟩) xs0.length c0] 26)).alloc (.cells #[.int .i64 m, .int .i64 k, .slice (some ⟨b1, off1, none⟩) xs1.length c1] 26)).alloc (.cells #[] 53)) = v := ⟨_, rfl⟩
    rw [hW0] at HB hsz R0 R1 x y o ⊢
    clear hW0
    have oo := ownF_blk0 (lo := w.heap.size) o (by omega)
    clear o
    have ex0 := x.cell 0
    have ex1 := x.cell 1
    have ex2 := x.cell 2
    have zx := x.lt
    have ey0 := y.cell 0
    have ey1 := y.cell 1
    have ey2 := y.cell 2
    have zy := y.lt
    go_wp2_with fail
    refine (l13Size_any m k (some ⟨b0, off0, none⟩) _ c0 _ xs0 m k (some ⟨b1, off1, none⟩) _ c1 _ xs1 _ R0 (Nat.le_trans hB0 (by omega)) R1 (Nat.le_trans hB1 (by omega))).mono ?_
    rintro e w1 ⟨rfl, hb⟩
    clear ex0 ex1 ex2 zx ey0 ey1 ey2 zy
    replace oo := oo.all hb
    replace x := x.all hb
    replace y := y.all hb
    replace R0 := R0.all hb (Nat.le_trans (hB0) (by omega))
    replace R1 := R1.all hb (Nat.le_trans (hB1) (by omega))
    replace HB := Lib.hid (HB.out.trans (hb.mono (by omega)))
    replace hsz := Nat.le_trans hsz hb.size
    clear hb
    rw [hok]
    clear hok
    obtain ⟨M, hM⟩ : ∃ M, metTo xs0 xs1 = M := ⟨_, rfl⟩
    have HM0 := Lib.hid (fun q => metTo_zero xs0 xs1 q)
    have HMS := Lib.hid (fun p q => metTo_succ xs0 xs1 p q)
    rw [hM] at HM0 HMS HX
    clear hM
    have hhz : w.heap.size ≤ w1.heap.size := by omega
    go_wp2
    go_loopw [6, 7] (fun s6 s7 wr => ∃ (a : Nat) (A : Option Addr) (c9 : Nat) (K : List PairR), a ≤ 6 ∧ s7 = .int .i64 a ∧ s6 = .slice A K.length c9 ∧ Hid (K = swTo (M xs0.length) (a * 6)) ∧ OwnF pairF wr w.heap.size (.slice A K.length c9) K ∧ Blk wr w.heap.size 26 #[.int .i64 m, .int .i64 k, .slice (some ⟨b0, off0, none⟩) xs0.length c0] ∧ Blk wr (w.heap.size + 1) 26 #[.int .i64 m, .int .i64 k, .slice (some ⟨b1, off1, none⟩) xs1.length c1] ∧ Rd wr B0 (some ⟨b0, off0, none⟩) xs0.length c0 xs0 ∧ Rd wr B1 (some ⟨b1, off1, none⟩) xs1.length c1 xs1 ∧ w.heap.size + 2 ≤ wr.heap.size ∧ Hid (Below w.heap.size w wr)) (fun _ s7 _ => 6 - (intOf s7).toNat)
    case atStart => exact ⟨0, _, 0, [], Nat.zero_le _, rfl, rfl, Lib.hid (by rw [Nat.zero_mul]; exact (swTo_zero _).symm), oo, x, y, R0, R1, by omega, HB⟩
    case round =>
      clear x y R0 R1 oo HB hhz
      obtain ⟨a, A, c9, K, ha, rfl, rfl, HK, ho, x, y, R0, R1, hzw, HB⟩ := hrel
      by_cases hla : a < 6
      · skip
        have hai : (a : Int) < 6 := by omega
        go_wp2
        go_loopw [6, 8] (fun s6 s8 wr => ∃ (b : Nat) (A : Option Addr) (c9 : Nat) (K : List PairR), b ≤ 6 ∧ s8 = .int .i64 b ∧ s6 = .slice A K.length c9 ∧ Hid (K = swTo (M xs0.length) (a * 6 + b)) ∧ OwnF pairF wr w.heap.size (.slice A K.length c9) K ∧ Blk wr w.heap.size 26 #[.int .i64 m, .int .i64 k, .slice (some ⟨b0, off0, none⟩) xs0.length c0] ∧ Blk wr (w.heap.size + 1) 26 #[.int .i64 m, .int .i64 k, .slice (some ⟨b1, off1, none⟩) xs1.length c1] ∧ Rd wr B0 (some ⟨b0, off0, none⟩) xs0.length c0 xs0 ∧ Rd wr B1 (some ⟨b1, off1, none⟩) xs1.length c1 xs1 ∧ w.heap.size + 2 ≤ wr.heap.size ∧ Hid (Below w.heap.size w wr)) (fun _ s8 _ => 6 - (intOf s8).toNat)
        case atStart => exact ⟨0, A, c9, K, Nat.zero_le _, rfl, rfl, HK, ho, x, y, R0, R1, hzw, HB⟩
        case round =>
          clear HK ho x y R0 R1 hzw HB
          obtain ⟨b, A, c9, K, hb, rfl, rfl, HK, ho, x, y, R0, R1, hzw, HB⟩ := hrel
          by_cases hlb : b < 6
          · skip
            have hbi : (b : Int) < 6 := by omega
            have hK36 := Lib.hid (show K.length ≤ 36 by rw [HK.out]; exact Nat.le_trans (swTo_len _ _) (by omega))
            have HS0 := Lib.hid (show false = smB M a b 0 by unfold smB; rw [HM0.out, Bool.and_false])
            have HDV := Lib.hid (div6 (a := a) hlb)
            obtain ⟨t, ht⟩ : ∃ t, ((a : Int) != (b : Int)) = t := ⟨_, rfl⟩
            have HSS := Lib.hid (show ∀ i, smB M a b (i + 1) = (smB M a b i || (t && ((xs0.getD i 0 == (a : Int)) && (xs1.getD i 0 == (b : Int))))) from fun i => by
              have e : t = !(decide (a = b)) := by rw [← ht, Bool.eq_iff_iff]; simp; omega
              unfold smB
              rw [HMS.out, HDV.out.1, HDV.out.2, ← e]
              cases t <;> simp)
            obtain ⟨wo, hwo⟩ : ∃ wo : World, wo = wr := ⟨_, rfl⟩
            subst hwo
            go_wp2
            go_loopw [9, 10] (fun s9 s10 wr => ∃ (i : Nat) (s : Bool), i ≤ xs0.length ∧ s10 = .int .i64 i ∧ s9 = .bool s ∧ Hid (s = smB M a b i) ∧ wr = wo) (fun _ s10 _ => xs0.length - (intOf s10).toNat)
            case atStart => exact ⟨0, false, Nat.zero_le _, rfl, rfl, HS0, rfl⟩
            case round =>
              clear HS0
              obtain ⟨i, s, hi, rfl, rfl, HS, rfl⟩ := hrel
              have e2 := x.cell 2
              have d2 := y.cell 2
              by_cases hlt : i < xs0.length
              · skip
                have hlt1 : i < xs1.length := by rw [hl1.out]; exact hlt
                obtain ⟨v, hv⟩ : ∃ v, xs0.getD i 0 = v := ⟨_, rfl⟩
                obtain ⟨u, hu⟩ : ∃ u, xs1.getD i 0 = u := ⟨_, rfl⟩
                have g1 := rd_knot R0 hlt hv
                have g2 := rd_knot R1 hlt1 hu
                have hc0 := R0.cap
                have hc1 := R1.cap
                obtain ⟨p, hp⟩ : ∃ p, (v == (a : Int)) = p := ⟨_, rfl⟩
                obtain ⟨q, hq⟩ : ∃ q, (u == (b : Int)) = q := ⟨_, rfl⟩
                have HN := Lib.hid (show smB M a b (i + 1) = (s || (t && (p && q))) by rw [HSS.out, hv, hu, hp, hq, ← HS.out])
                clear hv hu
                cases s with
                | true =>
                  go_wp2
                  go_roundw
                  case rel => exact ⟨i + 1, true, hlt, by go_num, rfl, Lib.hid (by rw [HN.out]; rfl), by first | rfl | trivial⟩
                  case measure => simp [intOf]; omega
                | false =>
                  cases t with
                  | false =>
                    go_wp2
                    go_roundw
                    case rel => exact ⟨i + 1, false, hlt, by go_num, rfl, Lib.hid (by rw [HN.out]; rfl), by first | rfl | trivial⟩
                    case measure => simp [intOf]; omega
                  | true =>
                    cases p with
                    | false =>
                      go_wp2
                      go_roundw
                      case rel => exact ⟨i + 1, false, hlt, by go_num, rfl, Lib.hid (by rw [HN.out]; rfl), by first | rfl | trivial⟩
                      case measure => simp [intOf]; omega
                    | true =>
                      cases q with
                      | false =>
                        go_wp2
                        go_roundw
                        case rel => exact ⟨i + 1, false, hlt, by go_num, rfl, Lib.hid (by rw [HN.out]; rfl), by first | rfl | trivial⟩
                        case measure => simp [intOf]; omega
                      | true =>
                        go_wp2
                        go_roundw
                        case rel => exact ⟨i + 1, true, hlt, by go_num, rfl, Lib.hid (by rw [HN.out]; rfl), by first | rfl | trivial⟩
                        case measure => simp [intOf]; omega
              · have HF := Lib.hid (show s = smB M a b xs0.length by rw [HS.out, show i = xs0.length by omega])
                clear HS
                cases s with
                | false =>
                  have HNN := Lib.hid (show K = swTo (M xs0.length) (a * 6 + (b + 1)) by
                    have h1 := HF.out
                    unfold smB at h1
                    rw [← Nat.add_assoc, swTo_no HDV.out.1 HDV.out.2 (by
                      by_cases hab : a = b
                      · exact .inr hab
                      · left; rw [decide_eq_false hab] at h1; simpa using h1.symm)]; exact HK.out)
                  clear HK
                  go_wp2
                  go_roundw
                  case rel => exact ⟨b + 1, A, c9, K, hlb, by go_num, rfl, HNN, ho, x, y, R0, R1, hzw, HB⟩
                  case measure => simp [intOf]; omega
                | true =>
                  have HNN := Lib.hid (show K ++ [(⟨(a : Int), (b : Int)⟩ : PairR)] = swTo (M xs0.length) (a * 6 + (b + 1)) by
                    have h1 := HF.out
                    unfold smB at h1
                    have h2 := Bool.and_eq_true_iff.1 h1.symm
                    rw [← Nat.add_assoc, swTo_yes HDV.out.1 HDV.out.2 h2.2 (by simpa using h2.1), HK.out])
                  clear HK
                  have hl30 : K.length + 1 ≤ 1073741824 := by have := hK36.out; omega
                  have hr1 := RdF.lit (F := pairF) (w := wr) (cs := #[.int .i64 (a : Int), .int .i64 (b : Int)]) (a := ⟨(a : Int), (b : Int)⟩) rfl (ok_small (by omega) (by omega))
                  have oA := ho.alloc (.cells #[.int .i64 (a : Int), .int .i64 (b : Int)] pairF.t)
                  have xA := x.alloc (.cells #[.int .i64 (a : Int), .int .i64 (b : Int)] pairF.t)
                  have yA := y.alloc (.cells #[.int .i64 (a : Int), .int .i64 (b : Int)] pairF.t)
                  have RA := R0.alloc (Nat.le_trans hB0 (by omega)) (.cells #[.int .i64 (a : Int), .int .i64 (b : Int)] pairF.t)
                  have SA := R1.alloc (Nat.le_trans hB1 (by omega)) (.cells #[.int .i64 (a : Int), .int .i64 (b : Int)] pairF.t)
                  have HBA := Lib.hid (HB.out.alloc (by omega) (.cells #[.int .i64 (a : Int), .int .i64 (b : Int)] pairF.t))
                  have hzA : w.heap.size + 2 ≤ (wr.alloc (.cells #[.int .i64 (a : Int), .int .i64 (b : Int)] pairF.t)).heap.size := by rw [World.size_alloc]; omega
                  have hzA0 : w.heap.size ≤ (wr.alloc (.cells #[.int .i64 (a : Int), .int .i64 (b : Int)] pairF.t)).heap.size := by omega
                  have hbd := oA.bd
                  clear x y R0 R1 ho HB d2
                  go_wp2_with (refine wpList_appendF pairF rfl _ (.tmp 57) (.tmp 61) 31 (.agg #[.int .i64 0, .int .i64 0]) 16 rfl Try.underlying31 info_Pair rfl (by decide) (by decide) w.heap.size _ K [⟨(a : Int), (b : Int)⟩] wr.heap.size 0 1 1 (wr.heap.size + 1) rfl rfl oA hr1 hl30 hzA0 ?_)
                  intro A5 c5 w5 o5 hg5
                  have x5 := xA.mark hg5 (row_ne oA.1 xA (by decide))
                  have y5 := yA.mark hg5 (row_ne oA.1 yA (by decide))
                  have R5 := RA.mark hg5 (fun q hq => Nat.le_trans hB0 (hbd q hq).1) (Nat.le_trans hB0 hzA0)
                  have S5 := SA.mark hg5 (fun q hq => Nat.le_trans hB1 (hbd q hq).1) (Nat.le_trans hB1 hzA0)
                  have hz5 := Nat.le_trans hzA hg5.size
                  have HB5 := Lib.hid (HBA.out.grown hg5 hzA0 (fun q hq => (hbd q hq).1))
                  clear oA HBA hzA hzA0 hr1 hg5 hbd xA yA RA SA e2
                  go_wp2
                  go_roundw
                  case rel => exact ⟨b + 1, A5, c5, _, hlb, by go_num, by rw [List.length_append]; rfl, HNN, by rw [List.length_append]; exact o5, x5, y5, R5, S5, hz5, HB5⟩
                  case measure => simp [intOf]; omega
          · have HNN := Lib.hid (show K = swTo (M xs0.length) ((a + 1) * 6) by rw [Nat.succ_mul]; have := HK.out; rwa [show b = 6 by omega] at this)
            clear HK
            go_wp2
            go_roundw
            case rel => exact ⟨a + 1, A, c9, K, hla, by go_num, rfl, HNN, ho, x, y, R0, R1, hzw, HB⟩
            case measure => simp [intOf]; omega
      · have HF := Lib.hid (HX.out.trans (show swTo (M xs0.length) 36 = K by rw [HK.out, show a = 6 by omega]))
        go_wp2
        go_ret2
        rw [HF.out]
        exact ⟨A, c9, rfl, ho, HB.out⟩
end Go.Proofs.Ytgkflgfjbaobcaa
