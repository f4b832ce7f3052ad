/- The walk of the law FnShadeCards. No condition. -/
import Derived.Test.YtmdgclbcjjmpiaaDraws3c
import Derived.Test.YtmdgclbcjjmpiaaCardsMath
import Derived.Test.YtmdgclbcjjmpiaaNear
import Derived.Test.YtmdgclbcjjmpiaaNearSpec
import Derived.Test.YtmdgclbcjjmpiaaShadeDist
import Derived.Test.YtmdgclbcjjmpiaaApartI
import Derived.Test.YtmdgclbcjjmpiaaApartS
import Derived.Test.YtmdgclbcjjmpiaaTriadI
import Derived.Test.YtmdgclbcjjmpiaaTriadS
import Derived.Deep.CutRange
namespace Go.Proofs.Ytmdgclbcjjmpiaa
open Go.RowKit

theorem near_far {xs : List ShadeR} {wh d : Int} (h : nearB xs wh d = true) {i : Nat} {a : ShadeR} (ha : xs[i]? = some a) : farB a ⟨1, ⟨#[97]⟩, wh, d, 1⟩ = true ∧ farN a ⟨1, ⟨#[97]⟩, wh, d, 1⟩ = distI a.f2 a.f3 wh d := by
  unfold nearB at h
  simp only [Bool.and_eq_true] at h
  have h1 := ((cardB_of h.1.1.1).2 i a (List.getElem?_eq_some_iff.1 ha).1 ha).1
  have h2 : shadeB ⟨1, ⟨#[97]⟩, wh, d, 1⟩ = true := by
    show (inB 1 1 99 && wordB ⟨#[97]⟩ && inB wh 0 23 && inB d 0 9 && inB 1 1 8) = true
    rw [h.1.2, h.2]
    decide
  have h3 : farB a ⟨1, ⟨#[97]⟩, wh, d, 1⟩ = true := by rw [farB, h1, h2]; rfl
  exact ⟨h3, if_pos h3⟩
theorem triad_in {xs : List ShadeR} {wi : Int} (h : triadOk xs wi = true) : inB wi 0 4 = true := by
  unfold triadOk at h
  simp only [Bool.and_eq_true] at h
  exact h.2
theorem triadX_len (xs : List ShadeR) (wi : Int) : (triadX xs wi).length ≤ 100000 := by
  unfold triadX
  split
  · rename_i h
    have hc : cardB xs = true := by unfold triadOk at h; simp at h; exact h.1
    have hl : xs.length ≤ 10 := (cardB_of hc).1
    have h1 := iRows_len wi xs xs.length (Nat.le_refl _)
    have h2 := ten3 hl
    omega
  · simp
set_option maxRecDepth 100000 in
set_option maxHeartbeats 32000000 in
theorem fnShadeCards_walk (w : World) (A : Option Addr) (n c : Nat) (R : RdB w w.heap.size A n c) : Calls Try.prog 3 #[.slice A n c] w fun e w' => e = .returned (.bool true) ∧ Below w.heap.size w w' := by
  have hcap := R.cap
  have hmax := R.max
  unfold maxLen at hmax
  have HB := Below.refl w.heap.size w
  by_cases hn : n ≤ 65536
  · go_enter Try.func3, Try.ntmps3
    go_wp2_with fail
    refine (rBig_eq A n c _ (by omega) false (by simp; omega)).mono ?_
    rintro e w' ⟨rfl, rfl⟩
    go_wp2_with fail
    refine (drawNearestShade_any A n c w.heap.size _ R HB.size hn).mono ?_
    rintro e w1 ⟨A1, c1, xs, wh, d, rfl, hxl, hwh, hd, own, hb⟩
    replace R := R.all hb HB.size
    have OX := own.mono HB.size
    clear own
    replace HB := HB.trans (hb.mono HB.size)
    clear hb
    obtain ⟨ok, hok⟩ : ∃ z, nearB xs wh d = z := ⟨_, rfl⟩
    obtain ⟨id, hid⟩ : ∃ z, nearN xs wh d = z := ⟨_, rfl⟩
    have hNi : Hid (∀ (w : World) (A : Option Addr) (c : Nat), RdF shadeF w w.heap.size A xs.length c xs → Calls Try.prog 6 #[.slice A xs.length c, .int .i64 wh, .int .i64 d] w (Out w (.tuple #[.int .i64 id, .bool ok]))) := Lib.hid fun w A c h => (by have := implNearestShade_any A _ c _ xs wh d w h (Nat.le_refl _); rw [hok, hid] at this; exact this)
    have hNs : Hid (∀ (w : World) (A : Option Addr) (c : Nat), RdF shadeF w w.heap.size A xs.length c xs → Calls Try.prog 7 #[.slice A xs.length c, .int .i64 wh, .int .i64 d] w (Out w (.tuple #[.int .i64 id, .bool ok]))) := Lib.hid fun w A c h => (by have := specNearestShade_any A _ c _ xs wh d w h (Nat.le_refl _); rw [hok, hid] at this; exact this)
    have HNB : Hid (ok = true → (∀ (i j : Nat) (a b : ShadeR), xs[i]? = some a → xs[j]? = some b → a.f0 = id → ¬ distI b.f2 b.f3 wh d < distI a.f2 a.f3 wh d) ∧ (∀ (i : Nat) (a : ShadeR), xs[i]? = some a → farB a ⟨1, ⟨#[97]⟩, wh, d, 1⟩ = true ∧ farN a ⟨1, ⟨#[97]⟩, wh, d, 1⟩ = distI a.f2 a.f3 wh d)) := Lib.hid fun ht => by
      have h1 := hok.trans ht
      refine ⟨fun i j a b ha hb hi => near_best h1 ha hb (by rw [hi, hid]), fun i a ha => ?_⟩
      exact near_far h1 ha
    clear hok hid
    go_wp2_with fail
    refine (hNi.out _ _ _ OX.rd).mono ?_
    rintro e w2 ⟨rfl, hb⟩
    replace OX := OX.all hb
    replace R := R.all hb HB.size
    replace HB := HB.trans (hb.mono HB.size)
    clear hb
    go_wp2_with fail
    refine (hNs.out _ _ _ OX.rd).mono ?_
    rintro e w3 ⟨rfl, hb⟩
    replace OX := OX.all hb
    replace R := R.all hb HB.size
    replace HB := HB.trans (hb.mono HB.size)
    clear hb
    clear hNi hNs
    go_upto_region 6 with fail
    go_cut [69] from 62 to 69 (fun t wx => t = .bool false ∧ Below w3.heap.size w3 wx)
    case first =>
      go_wp2_with fail
      go_meet
      exact ⟨rfl, Below.refl _ _⟩
    case rest =>
      obtain ⟨rfl, hb⟩ := hcut
      obtain ⟨w4, hw⟩ : ∃ w4, w4 = wc := ⟨_, rfl⟩
      subst hw
      replace OX := OX.all hb
      replace R := R.all hb HB.size
      replace HB := HB.trans (hb.mono HB.size)
      clear hb
      replace OX := OX.alloc (.cells #[.int .i64 1, .string ⟨#[97]⟩, .int .i64 wh, .int .i64 d, .int .i64 1] 30)
      replace R := R.alloc HB.size (.cells #[.int .i64 1, .string ⟨#[97]⟩, .int .i64 wh, .int .i64 d, .int .i64 1] 30)
      have bQ := Blk.new w4 #[.int .i64 1, .string ⟨#[97]⟩, .int .i64 wh, .int .i64 d, .int .i64 1] 30
      replace HB := HB.alloc HB.size (.cells #[.int .i64 1, .string ⟨#[97]⟩, .int .i64 wh, .int .i64 d, .int .i64 1] 30)
      go_wp2
      obtain ⟨wo, hwo⟩ : ∃ v, w4.alloc (.cells #[.int .i64 1, .string ⟨#[97]⟩, .int .i64 wh, .int .i64 d, .int .i64 1] 30) = v := ⟨_, rfl⟩
      obtain ⟨Q, hQ⟩ : ∃ q, w4.heap.size = q := ⟨_, rfl⟩
      rw [hwo] at OX bQ R HB ⊢
      rw [hQ] at bQ ⊢
      clear hwo hQ
      have HB0 := Lib.hid HB
      clear HB
      go_loopw [11] (fun s11 wx => ∃ k : Nat, k ≤ xs.length ∧ s11 = .int .i64 k ∧ Below wo.heap.size wo wx) (fun s11 _ => xs.length - (intOf s11).toNat)
      case atStart => exact ⟨0, Nat.zero_le _, rfl, Below.refl _ _⟩
      case round =>
        obtain ⟨k, hk, rfl, hbx⟩ := hrel
        by_cases hkl : k < xs.length
        · cases ok with
          | true =>
            have hk0 : (0 : Int) ≤ (k : Int) := by omega
            have hkn : (k : Int) < (xs.length : Int) := by omega
            obtain ⟨HN1, HN2⟩ := HNB.out rfl
            have HM1 := Lib.hid HN1
            have HM2 := Lib.hid HN2
            have HBX := Lib.hid hbx
            clear HN1 HN2 hbx
            go_wp2
            go_loopw [12] (fun s12 wx => ∃ j : Nat, j ≤ xs.length ∧ s12 = .int .i64 j ∧ Below wo.heap.size wo wx) (fun s12 _ => xs.length - (intOf s12).toNat)
            case atStart => exact ⟨0, Nat.zero_le _, rfl, HBX.out⟩
            case round =>
              obtain ⟨j, hj, rfl, hbx⟩ := hrel
              by_cases hjl : j < xs.length
              · have hj0 : (0 : Int) ≤ (j : Int) := by omega
                have hjn : (j : Int) < (xs.length : Int) := by omega
                have OXx := (OX.all hbx).rd
                have bQx := bQ.all hbx
                have hzb := hbx.size
                obtain ⟨b0, o0, a, rfl, hb0, oka, HA, a0, a1, a2, a3, a4⟩ := ShadeR_at (F := shadeF) rfl (fun _ => rfl) (fun _ => rfl) OXx hkl
                obtain ⟨b1, o1, b, e, hb1, okb, HBb, b0c, b1c, b2c, b3c, b4c⟩ := ShadeR_at (F := shadeF) rfl (fun _ => rfl) (fun _ => rfl) OXx hjl
                cases e
                obtain ⟨fa, fna⟩ := HM2.out k a HA.out
                obtain ⟨fb, fnb⟩ := HM2.out j b HBb.out
                have hfin := Lib.hid (HM1.out k j a b HA.out HBb.out)
                obtain ⟨da, hda⟩ : ∃ z, distI a.f2 a.f3 wh d = z := ⟨_, rfl⟩
                obtain ⟨db, hdb⟩ : ∃ z, distI b.f2 b.f3 wh d = z := ⟨_, rfl⟩
                rw [hda, hdb] at hfin
                rw [hda] at fna
                rw [hdb] at fnb
                have KA : Hid (∀ w, Calls Try.prog 8 #[.agg #[.int .i64 a.f0, .string a.f1, .int .i64 a.f2, .int .i64 a.f3, .int .i64 a.f4], .agg #[.int .i64 1, .string ⟨#[97]⟩, .int .i64 wh, .int .i64 d, .int .i64 1]] w (Out w (.tuple #[.int .i64 da, .bool true]))) := Lib.hid fun w => (by have := implShadeDistance_any a ⟨1, ⟨#[97]⟩, wh, d, 1⟩ w oka.2.1 (show (⟨#[97]⟩ : ByteArray).size ≤ maxLen by decide); rw [fa, fna] at this; exact this)
                have KB : Hid (∀ w, Calls Try.prog 8 #[.agg #[.int .i64 b.f0, .string b.f1, .int .i64 b.f2, .int .i64 b.f3, .int .i64 b.f4], .agg #[.int .i64 1, .string ⟨#[97]⟩, .int .i64 wh, .int .i64 d, .int .i64 1]] w (Out w (.tuple #[.int .i64 db, .bool true]))) := Lib.hid fun w => (by have := implShadeDistance_any b ⟨1, ⟨#[97]⟩, wh, d, 1⟩ w okb.2.1 (show (⟨#[97]⟩ : ByteArray).size ≤ maxLen by decide); rw [fb, fnb] at this; exact this)
                obtain ⟨f0, f1, f2, f3, f4⟩ := a
                obtain ⟨g0, g1, g2, g3, g4⟩ := b
                simp only at a0 a1 a2 a3 a4 b0c b1c b2c b3c b4c hfin KA KB
                clear fa fna fb fnb hda hdb oka okb HA HBb OXx
                have q0 := bQx.cell 0
                have q1 := bQx.cell 1
                have q2 := bQx.cell 2
                have q3 := bQx.cell 3
                have q4 := bQx.cell 4
                have hzQ := bQx.lt
                have HBX2 := Lib.hid hbx
                clear hbx bQx
                go_wp2
                go_region_held3 (fun w' => w'.cell? ⟨b0, o0 + k * 5, none⟩ = some (.int .i64 f0) ∧ w'.cell? ⟨b0, o0 + k * 5 + 1, none⟩ = some (.string f1) ∧ w'.cell? ⟨b0, o0 + k * 5 + 2, none⟩ = some (.int .i64 f2) ∧ w'.cell? ⟨b0, o0 + k * 5 + 3, none⟩ = some (.int .i64 f3) ∧ w'.cell? ⟨b0, o0 + k * 5 + 4, none⟩ = some (.int .i64 f4) ∧ w'.cell? ⟨b0, o0 + j * 5, none⟩ = some (.int .i64 g0) ∧ w'.cell? ⟨b0, o0 + j * 5 + 1, none⟩ = some (.string g1) ∧ w'.cell? ⟨b0, o0 + j * 5 + 2, none⟩ = some (.int .i64 g2) ∧ w'.cell? ⟨b0, o0 + j * 5 + 3, none⟩ = some (.int .i64 g3) ∧ w'.cell? ⟨b0, o0 + j * 5 + 4, none⟩ = some (.int .i64 g4) ∧ w'.cell? ⟨Q, 0, none⟩ = some (.int .i64 1) ∧ w'.cell? ⟨Q, 1, none⟩ = some (.string ⟨#[97]⟩) ∧ w'.cell? ⟨Q, 2, none⟩ = some (.int .i64 wh) ∧ w'.cell? ⟨Q, 3, none⟩ = some (.int .i64 d) ∧ w'.cell? ⟨Q, 4, none⟩ = some (.int .i64 1)) (first | exact ⟨a0, a1, a2, a3, a4, b0c, b1c, b2c, b3c, b4c, q0, q1, q2, q3, q4⟩ | go_keep) (first | (go_at_call 8; (with_reducible refine (KA.out _).mono ?_); rintro e wKA ⟨rfl, hb4⟩; (try replace hb4 := below_drew' hb4); have HBY := Lib.hid (HBX2.out.trans (hb4.mono HBX2.out.size)); replace a0 := cells_of hb4 a0 hb0; replace a1 := cells_of hb4 a1 hb0; replace a2 := cells_of hb4 a2 hb0; replace a3 := cells_of hb4 a3 hb0; replace a4 := cells_of hb4 a4 hb0; replace b0c := cells_of hb4 b0c hb0; replace b1c := cells_of hb4 b1c hb0; replace b2c := cells_of hb4 b2c hb0; replace b3c := cells_of hb4 b3c hb0; replace b4c := cells_of hb4 b4c hb0; replace q0 := cells_of hb4 q0 hzQ; replace q1 := cells_of hb4 q1 hzQ; replace q2 := cells_of hb4 q2 hzQ; replace q3 := cells_of hb4 q3 hzQ; replace q4 := cells_of hb4 q4 hzQ; replace hb0 := Nat.lt_of_lt_of_le hb0 hb4.size; replace hzQ := Nat.lt_of_lt_of_le hzQ hb4.size; clear hb4))
                go_wp2
                go_region_held3 (fun w' => w'.cell? ⟨b0, o0 + k * 5, none⟩ = some (.int .i64 f0) ∧ w'.cell? ⟨b0, o0 + k * 5 + 1, none⟩ = some (.string f1) ∧ w'.cell? ⟨b0, o0 + k * 5 + 2, none⟩ = some (.int .i64 f2) ∧ w'.cell? ⟨b0, o0 + k * 5 + 3, none⟩ = some (.int .i64 f3) ∧ w'.cell? ⟨b0, o0 + k * 5 + 4, none⟩ = some (.int .i64 f4) ∧ w'.cell? ⟨b0, o0 + j * 5, none⟩ = some (.int .i64 g0) ∧ w'.cell? ⟨b0, o0 + j * 5 + 1, none⟩ = some (.string g1) ∧ w'.cell? ⟨b0, o0 + j * 5 + 2, none⟩ = some (.int .i64 g2) ∧ w'.cell? ⟨b0, o0 + j * 5 + 3, none⟩ = some (.int .i64 g3) ∧ w'.cell? ⟨b0, o0 + j * 5 + 4, none⟩ = some (.int .i64 g4) ∧ w'.cell? ⟨Q, 0, none⟩ = some (.int .i64 1) ∧ w'.cell? ⟨Q, 1, none⟩ = some (.string ⟨#[97]⟩) ∧ w'.cell? ⟨Q, 2, none⟩ = some (.int .i64 wh) ∧ w'.cell? ⟨Q, 3, none⟩ = some (.int .i64 d) ∧ w'.cell? ⟨Q, 4, none⟩ = some (.int .i64 1)) (first | exact ⟨a0, a1, a2, a3, a4, b0c, b1c, b2c, b3c, b4c, q0, q1, q2, q3, q4⟩ | go_keep) (first | (go_at_call 8; (with_reducible refine (KB.out _).mono ?_); rintro e wKB ⟨rfl, hb5⟩; (try replace hb5 := below_drew' hb5); have HBZ := Lib.hid (HBY.out.trans (hb5.mono HBY.out.size)); replace a0 := cells_of hb5 a0 hb0; replace a1 := cells_of hb5 a1 hb0; replace a2 := cells_of hb5 a2 hb0; replace a3 := cells_of hb5 a3 hb0; replace a4 := cells_of hb5 a4 hb0; replace b0c := cells_of hb5 b0c hb0; replace b1c := cells_of hb5 b1c hb0; replace b2c := cells_of hb5 b2c hb0; replace b3c := cells_of hb5 b3c hb0; replace b4c := cells_of hb5 b4c hb0; replace q0 := cells_of hb5 q0 hzQ; replace q1 := cells_of hb5 q1 hzQ; replace q2 := cells_of hb5 q2 hzQ; replace q3 := cells_of hb5 q3 hzQ; replace q4 := cells_of hb5 q4 hzQ; replace hb0 := Nat.lt_of_lt_of_le hb0 hb5.size; replace hzQ := Nat.lt_of_lt_of_le hzQ hb5.size; clear hb5))
                by_cases hid : f0 = id
                · subst hid
                  have hnl : decide (db < da) = false := decide_eq_false (by have := hfin.out rfl; omega)
                  go_wp2
                  go_roundw
                  case rel => exact ⟨j + 1, by omega, by go_num, HBZ.out⟩
                  case measure => simp [intOf]; omega
                · have hid2 : (f0 == id) = false := by simpa using hid
                  clear hid
                  go_wp2
                  go_roundw
                  case rel => exact ⟨j + 1, by omega, by go_num, HBZ.out⟩
                  case measure => simp [intOf]; omega
              · have hjn : ¬ (j : Int) < (xs.length : Int) := by omega
                go_wp2
                go_roundw
                case rel => exact ⟨k + 1, by omega, by go_num, hbx⟩
                case measure => simp [intOf]; omega
          | false =>
            have hkn : (k : Int) < (xs.length : Int) := by omega
            have HB := HB0.out.trans (hbx.mono HB0.out.size)
            replace R := R.all hbx HB0.out.size
            clear hbx HB0 OX bQ HNB
            obtain ⟨w5, hw⟩ : ∃ v, v = wr := ⟨_, rfl⟩
            subst hw
            go_wp2_with fail
            refine (drawFadedApart_any A n c w.heap.size _ R HB.size hn).mono ?_
            rintro e w6 ⟨A2, c2, ys, ye, le, rfl, hyl, hye, hle, own, hb⟩
            replace R := R.all hb HB.size
            have OY := own.mono HB.size
            clear own
            replace HB := HB.trans (hb.mono HB.size)
            clear hb
            obtain ⟨po, hpo⟩ : ∃ z, apartOk ys ye le = z := ⟨_, rfl⟩
            obtain ⟨px, hpx⟩ : ∃ z, apartX ys ye le = z := ⟨_, rfl⟩
            obtain ⟨p0, hp0⟩ : ∃ z, apartX ys 0 le = z := ⟨_, rfl⟩
            obtain ⟨o0, ho0⟩ : ∃ z, apartOk ys 0 le = z := ⟨_, rfl⟩
            have hFi : Hid (∀ (w : World) (A : Option Addr) (c : Nat), RdF shadeF w w.heap.size A ys.length c ys → Calls Try.prog 10 #[.slice A ys.length c, .int .i64 ye, .int .i64 le] w (OutIntss w px po)) := Lib.hid fun w A c h => (by have := implFadedApart_any A _ c _ ys ye le w h (Nat.le_refl _); rw [hpo, hpx] at this; exact this)
            have hFs : Hid (∀ (w : World) (A : Option Addr) (c : Nat), RdF shadeF w w.heap.size A ys.length c ys → Calls Try.prog 11 #[.slice A ys.length c, .int .i64 ye, .int .i64 le] w (OutIntss w px po)) := Lib.hid fun w A c h => (by have := specFadedApart_any A _ c _ ys ye le w h (Nat.le_refl _); rw [hpo, hpx] at this; exact this)
            have hF0 : Hid (∀ (w : World) (A : Option Addr) (c : Nat), RdF shadeF w w.heap.size A ys.length c ys → Calls Try.prog 10 #[.slice A ys.length c, .int .i64 0, .int .i64 le] w (OutIntss w p0 o0)) := Lib.hid fun w A c h => (by have := implFadedApart_any A _ c _ ys 0 le w h (Nat.le_refl _); rw [ho0, hp0] at this; exact this)
            have hpl : px.length ≤ 1048576 := by have := (apartX_len ys ye le).1; rw [hpx] at this; omega
            have HPB : Hid (po = true → o0 = true ∧ p0 = []) := Lib.hid fun ht => by
              have := apart_zero (hpo.trans ht)
              rw [ho0, hp0] at this
              exact this
            clear hpo hpx hp0 ho0
            go_wp2_with fail
            refine (hFi.out _ _ _ OY.rd).mono ?_
            rintro e w7 ⟨A3, c3, rfl, own, hb⟩
            replace OY := OY.all hb
            replace R := R.all hb HB.size
            have OA := own.mono HB.size
            clear own
            replace HB := HB.trans (hb.mono HB.size)
            clear hb
            go_wp2_with fail
            refine (hFs.out _ _ _ OY.rd).mono ?_
            rintro e w8 ⟨A4, c4, rfl, own, hb⟩
            replace OY := OY.all hb
            replace OA := OA.all hb
            replace R := R.all hb HB.size
            have OB := own.mono HB.size
            clear own
            replace HB := HB.trans (hb.mono HB.size)
            clear hb
            clear hFi hFs
            go_upto_region 22 with fail
            go_cut [154] from 146 to 154 (fun t wx => t = .bool false ∧ Below w8.heap.size w8 wx)
            case first =>
              go_wp2_with fail
              refine (rTable_same _ _ _ _ _ _ _ _ px _ OA OB hpl).mono ?_
              rintro e wb ⟨rfl, hb⟩
              go_wp2_with fail
              go_meet
              exact ⟨rfl, hb⟩
            case rest =>
              obtain ⟨rfl, hb⟩ := hcut
              obtain ⟨w9, hw⟩ : ∃ w9, w9 = wc := ⟨_, rfl⟩
              subst hw
              replace OY := OY.all hb
              replace OA := OA.all hb
              replace OB := OB.all hb
              replace R := R.all hb HB.size
              replace HB := HB.trans (hb.mono HB.size)
              clear hb
              clear OB OA
              go_wp2_with fail
              refine (hF0.out _ _ _ OY.rd).mono ?_
              rintro e w10 ⟨A5, c5, rfl, own, hb⟩
              replace OY := OY.all hb
              replace R := R.all hb HB.size
              have OC := own.mono HB.size
              clear own
              replace HB := HB.trans (hb.mono HB.size)
              clear hb
              clear hF0
              go_upto_region 25 with fail
              go_cut [170] from 161 to 170 (fun t wx => t = .bool false ∧ Below w10.heap.size w10 wx)
              case first =>
                cases po
                · skip
                  go_wp2_with fail
                  go_meet
                  exact ⟨rfl, Below.refl _ _⟩
                · obtain ⟨rfl, rfl⟩ := HPB.out rfl
                  go_wp2_with fail
                  go_meet
                  exact ⟨rfl, Below.refl _ _⟩
              case rest =>
                obtain ⟨rfl, hb⟩ := hcut
                obtain ⟨w11, hw⟩ : ∃ w11, w11 = wc := ⟨_, rfl⟩
                subst hw
                replace OY := OY.all hb
                replace OC := OC.all hb
                replace R := R.all hb HB.size
                replace HB := HB.trans (hb.mono HB.size)
                clear hb
                clear OY OC
                clear HPB hpl
                go_wp2_with fail
                refine (drawTriadsOf_any A n c w.heap.size _ R HB.size hn).mono ?_
                rintro e w12 ⟨A2, c2, zs, wi, rfl, hzl, hwi, own, hb⟩
                replace R := R.all hb HB.size
                have OZ := own.mono HB.size
                clear own
                replace HB := HB.trans (hb.mono HB.size)
                clear hb
                obtain ⟨wq, hwq⟩ : ∃ z, wrap64 (wi + 1) = z := ⟨_, rfl⟩
                obtain ⟨tq, htq⟩ : ∃ z, triadOk zs wi = z := ⟨_, rfl⟩
                obtain ⟨tx, htx⟩ : ∃ z, triadX zs wi = z := ⟨_, rfl⟩
                obtain ⟨uo, huo⟩ : ∃ z, triadOk zs wq = z := ⟨_, rfl⟩
                obtain ⟨ux, hux⟩ : ∃ z, triadX zs wq = z := ⟨_, rfl⟩
                have hTi : Hid (∀ (w : World) (A : Option Addr) (c : Nat), RdF shadeF w w.heap.size A zs.length c zs → Calls Try.prog 14 #[.slice A zs.length c, .int .i64 wi] w (OutIntss w tx tq)) := Lib.hid fun w A c h => (by have := implTriadsOf_any A _ c _ zs wi w h (Nat.le_refl _); rw [htq, htx] at this; exact this)
                have hTs : Hid (∀ (w : World) (A : Option Addr) (c : Nat), RdF shadeF w w.heap.size A zs.length c zs → Calls Try.prog 15 #[.slice A zs.length c, .int .i64 wi] w (OutIntss w tx tq)) := Lib.hid fun w A c h => (by have := specTriadsOf_any A _ c _ zs wi w h (Nat.le_refl _); rw [htq, htx] at this; exact this)
                have hTq : Hid (∀ (w : World) (A : Option Addr) (c : Nat), RdF shadeF w w.heap.size A zs.length c zs → Calls Try.prog 14 #[.slice A zs.length c, .int .i64 wq] w (OutIntss w ux uo)) := Lib.hid fun w A c h => (by have := implTriadsOf_any A _ c _ zs wq w h (Nat.le_refl _); rw [huo, hux] at this; exact this)
                have htl : tx.length ≤ 1048576 := by have := triadX_len zs wi; rw [htx] at this; omega
                have HTB : Hid (tq = true → uo = true → ¬ (ux.length : Int) < (tx.length : Int)) := Lib.hid fun ht hu => by
                  have h1 := htq.trans ht
                  have h2 := huo.trans hu
                  have h3 := inB_yes (triad_in h1)
                  have h4 : wq = wi + 1 := by rw [← hwq]; unfold wrap64; omega
                  rw [h4] at h2 hux
                  have h5 := triads_more h1 h2
                  rw [htx, hux] at h5
                  omega
                clear htq htx huo hux
                go_wp2_with fail
                refine (hTi.out _ _ _ OZ.rd).mono ?_
                rintro e w13 ⟨A3, c3, rfl, own, hb⟩
                replace OZ := OZ.all hb
                replace R := R.all hb HB.size
                have OA := own.mono HB.size
                clear own
                replace HB := HB.trans (hb.mono HB.size)
                clear hb
                go_wp2_with fail
                refine (hTs.out _ _ _ OZ.rd).mono ?_
                rintro e w14 ⟨A4, c4, rfl, own, hb⟩
                replace OZ := OZ.all hb
                replace OA := OA.all hb
                replace R := R.all hb HB.size
                have OB := own.mono HB.size
                clear own
                replace HB := HB.trans (hb.mono HB.size)
                clear hb
                clear hTi hTs
                go_upto_region 30 with fail
                go_cut [196] from 188 to 196 (fun t wx => t = .bool false ∧ Below w14.heap.size w14 wx)
                case first =>
                  go_wp2_with fail
                  refine (rTable_same _ _ _ _ _ _ _ _ tx _ OA OB htl).mono ?_
                  rintro e wb ⟨rfl, hb⟩
                  go_wp2_with fail
                  go_meet
                  exact ⟨rfl, hb⟩
                case rest =>
                  obtain ⟨rfl, hb⟩ := hcut
                  obtain ⟨w15, hw⟩ : ∃ w15, w15 = wc := ⟨_, rfl⟩
                  subst hw
                  replace OZ := OZ.all hb
                  replace OA := OA.all hb
                  replace OB := OB.all hb
                  replace R := R.all hb HB.size
                  replace HB := HB.trans (hb.mono HB.size)
                  clear hb
                  clear OB OA
                  have HWQ := Lib.hid hwq
                  clear hwq
                  go_wp2_with fail
                  rw [HWQ.out]
                  refine (hTq.out _ _ _ OZ.rd).mono ?_
                  rintro e w16 ⟨A5, c5, rfl, own, hb⟩
                  replace OZ := OZ.all hb
                  replace R := R.all hb HB.size
                  have OC := own.mono HB.size
                  clear own
                  replace HB := HB.trans (hb.mono HB.size)
                  clear hb hTq
                  go_upto_region 33 with fail
                  go_cut [214] from 204 to 214 (fun t wx => t = .bool false ∧ Below w16.heap.size w16 wx)
                  case first =>
                    cases tq
                    · skip
                      go_wp2_with fail
                      go_meet
                      exact ⟨rfl, Below.refl _ _⟩
                    · cases uo
                      · skip
                        go_wp2_with fail
                        go_meet
                        exact ⟨rfl, Below.refl _ _⟩
                      · have hnl := HTB.out rfl rfl
                        have hnl2 : decide (ux.length < tx.length) = false := decide_eq_false (by omega)
                        go_wp2_with fail
                        go_meet
                        exact ⟨rfl, Below.refl _ _⟩
                  case rest =>
                    obtain ⟨rfl, hb⟩ := hcut
                    obtain ⟨w17, hw⟩ : ∃ w17, w17 = wc := ⟨_, rfl⟩
                    subst hw
                    replace OZ := OZ.all hb
                    replace OC := OC.all hb
                    replace R := R.all hb HB.size
                    replace HB := HB.trans (hb.mono HB.size)
                    clear hb
                    clear OZ OC
                    clear HTB htl HWQ
                    go_wp2_with fail
                    refine (drawShadeDistance_any A n c w.heap.size _ R HB.size hn).mono ?_
                    rintro e w18 ⟨a, b, rfl, ha, hb2, hb⟩
                    replace R := R.all hb HB.size
                    replace HB := HB.trans (hb.mono HB.size)
                    clear hb
                    replace R := R.alloc HB.size (.cells #[.int .i64 a.f0, .string a.f1, .int .i64 a.f2, .int .i64 a.f3, .int .i64 a.f4] 30)
                    have bA := Blk.new w18 #[.int .i64 a.f0, .string a.f1, .int .i64 a.f2, .int .i64 a.f3, .int .i64 a.f4] 30
                    replace HB := HB.alloc HB.size (.cells #[.int .i64 a.f0, .string a.f1, .int .i64 a.f2, .int .i64 a.f3, .int .i64 a.f4] 30)
                    replace bA := bA.alloc (.cells #[.int .i64 b.f0, .string b.f1, .int .i64 b.f2, .int .i64 b.f3, .int .i64 b.f4] 30)
                    replace R := R.alloc HB.size (.cells #[.int .i64 b.f0, .string b.f1, .int .i64 b.f2, .int .i64 b.f3, .int .i64 b.f4] 30)
                    have bB := (Blk.new (w18.alloc (.cells #[.int .i64 a.f0, .string a.f1, .int .i64 a.f2, .int .i64 a.f3, .int .i64 a.f4] 30)) #[.int .i64 b.f0, .string b.f1, .int .i64 b.f2, .int .i64 b.f3, .int .i64 b.f4] 30).at_ (q := w18.heap.size + 1) (by simp)
                    replace HB := HB.alloc HB.size (.cells #[.int .i64 b.f0, .string b.f1, .int .i64 b.f2, .int .i64 b.f3, .int .i64 b.f4] 30)
                    obtain ⟨dk, hdk⟩ : ∃ z, farB a b = z := ⟨_, rfl⟩
                    obtain ⟨dn, hdn⟩ : ∃ z, farN a b = z := ⟨_, rfl⟩
                    have hDi : Hid (∀ w, Calls Try.prog 8 #[.agg #[.int .i64 a.f0, .string a.f1, .int .i64 a.f2, .int .i64 a.f3, .int .i64 a.f4], .agg #[.int .i64 b.f0, .string b.f1, .int .i64 b.f2, .int .i64 b.f3, .int .i64 b.f4]] w (Out w (.tuple #[.int .i64 dn, .bool dk]))) := Lib.hid fun w => (by have := implShadeDistance_any a b w ha.2.1 hb2.2.1; rw [hdk, hdn] at this; exact this)
                    have hDs : Hid (∀ w, Calls Try.prog 17 #[.agg #[.int .i64 a.f0, .string a.f1, .int .i64 a.f2, .int .i64 a.f3, .int .i64 a.f4], .agg #[.int .i64 b.f0, .string b.f1, .int .i64 b.f2, .int .i64 b.f3, .int .i64 b.f4]] w (Out w (.tuple #[.int .i64 dn, .bool dk]))) := Lib.hid fun w => (by have := specShadeDistance_any a b w ha.2.1 hb2.2.1; rw [hdk, hdn] at this; exact this)
                    clear hdk hdn ha hb2
                    have ebA0 := bA.cell 0
                    have ebA1 := bA.cell 1
                    have ebA2 := bA.cell 2
                    have ebA3 := bA.cell 3
                    have ebA4 := bA.cell 4
                    have zbA := bA.lt
                    have ebB0 := bB.cell 0
                    have ebB1 := bB.cell 1
                    have ebB2 := bB.cell 2
                    have ebB3 := bB.cell 3
                    have ebB4 := bB.cell 4
                    have zbB := bB.lt
                    go_wp2_with fail
                    refine (hDi.out _).mono ?_
                    rintro e w19 ⟨rfl, hb⟩
                    clear ebA0 ebA1 ebA2 ebA3 ebA4 zbA ebB0 ebB1 ebB2 ebB3 ebB4 zbB
                    replace bA := bA.all hb
                    replace bB := bB.all hb
                    replace R := R.all hb HB.size
                    replace HB := HB.trans (hb.mono HB.size)
                    clear hb
                    have ebA0 := bA.cell 0
                    have ebA1 := bA.cell 1
                    have ebA2 := bA.cell 2
                    have ebA3 := bA.cell 3
                    have ebA4 := bA.cell 4
                    have zbA := bA.lt
                    have ebB0 := bB.cell 0
                    have ebB1 := bB.cell 1
                    have ebB2 := bB.cell 2
                    have ebB3 := bB.cell 3
                    have ebB4 := bB.cell 4
                    have zbB := bB.lt
                    go_wp2_with fail
                    refine (hDs.out _).mono ?_
                    rintro e w20 ⟨rfl, hb⟩
                    clear ebA0 ebA1 ebA2 ebA3 ebA4 zbA ebB0 ebB1 ebB2 ebB3 ebB4 zbB
                    replace bA := bA.all hb
                    replace bB := bB.all hb
                    replace R := R.all hb HB.size
                    replace HB := HB.trans (hb.mono HB.size)
                    clear hb
                    go_wp2
                    go_ret
                    exact ⟨ret_bool (by simp), HB⟩
        · have hkn : ¬ (k : Int) < (xs.length : Int) := by omega
          have HB := HB0.out.trans (hbx.mono HB0.out.size)
          replace R := R.all hbx HB0.out.size
          clear hbx HB0 OX bQ HNB
          obtain ⟨w5, hw⟩ : ∃ v, v = wr := ⟨_, rfl⟩
          subst hw
          go_wp2_with fail
          refine (drawFadedApart_any A n c w.heap.size _ R HB.size hn).mono ?_
          rintro e w6 ⟨A2, c2, ys, ye, le, rfl, hyl, hye, hle, own, hb⟩
          replace R := R.all hb HB.size
          have OY := own.mono HB.size
          clear own
          replace HB := HB.trans (hb.mono HB.size)
          clear hb
          obtain ⟨po, hpo⟩ : ∃ z, apartOk ys ye le = z := ⟨_, rfl⟩
          obtain ⟨px, hpx⟩ : ∃ z, apartX ys ye le = z := ⟨_, rfl⟩
          obtain ⟨p0, hp0⟩ : ∃ z, apartX ys 0 le = z := ⟨_, rfl⟩
          obtain ⟨o0, ho0⟩ : ∃ z, apartOk ys 0 le = z := ⟨_, rfl⟩
          have hFi : Hid (∀ (w : World) (A : Option Addr) (c : Nat), RdF shadeF w w.heap.size A ys.length c ys → Calls Try.prog 10 #[.slice A ys.length c, .int .i64 ye, .int .i64 le] w (OutIntss w px po)) := Lib.hid fun w A c h => (by have := implFadedApart_any A _ c _ ys ye le w h (Nat.le_refl _); rw [hpo, hpx] at this; exact this)
          have hFs : Hid (∀ (w : World) (A : Option Addr) (c : Nat), RdF shadeF w w.heap.size A ys.length c ys → Calls Try.prog 11 #[.slice A ys.length c, .int .i64 ye, .int .i64 le] w (OutIntss w px po)) := Lib.hid fun w A c h => (by have := specFadedApart_any A _ c _ ys ye le w h (Nat.le_refl _); rw [hpo, hpx] at this; exact this)
          have hF0 : Hid (∀ (w : World) (A : Option Addr) (c : Nat), RdF shadeF w w.heap.size A ys.length c ys → Calls Try.prog 10 #[.slice A ys.length c, .int .i64 0, .int .i64 le] w (OutIntss w p0 o0)) := Lib.hid fun w A c h => (by have := implFadedApart_any A _ c _ ys 0 le w h (Nat.le_refl _); rw [ho0, hp0] at this; exact this)
          have hpl : px.length ≤ 1048576 := by have := (apartX_len ys ye le).1; rw [hpx] at this; omega
          have HPB : Hid (po = true → o0 = true ∧ p0 = []) := Lib.hid fun ht => by
            have := apart_zero (hpo.trans ht)
            rw [ho0, hp0] at this
            exact this
          clear hpo hpx hp0 ho0
          go_wp2_with fail
          refine (hFi.out _ _ _ OY.rd).mono ?_
          rintro e w7 ⟨A3, c3, rfl, own, hb⟩
          replace OY := OY.all hb
          replace R := R.all hb HB.size
          have OA := own.mono HB.size
          clear own
          replace HB := HB.trans (hb.mono HB.size)
          clear hb
          go_wp2_with fail
          refine (hFs.out _ _ _ OY.rd).mono ?_
          rintro e w8 ⟨A4, c4, rfl, own, hb⟩
          replace OY := OY.all hb
          replace OA := OA.all hb
          replace R := R.all hb HB.size
          have OB := own.mono HB.size
          clear own
          replace HB := HB.trans (hb.mono HB.size)
          clear hb
          clear hFi hFs
          go_upto_region 22 with fail
          go_cut [154] from 146 to 154 (fun t wx => t = .bool false ∧ Below w8.heap.size w8 wx)
          case first =>
            go_wp2_with fail
            refine (rTable_same _ _ _ _ _ _ _ _ px _ OA OB hpl).mono ?_
            rintro e wb ⟨rfl, hb⟩
            go_wp2_with fail
            go_meet
            exact ⟨rfl, hb⟩
          case rest =>
            obtain ⟨rfl, hb⟩ := hcut
            obtain ⟨w9, hw⟩ : ∃ w9, w9 = wc := ⟨_, rfl⟩
            subst hw
            replace OY := OY.all hb
            replace OA := OA.all hb
            replace OB := OB.all hb
            replace R := R.all hb HB.size
            replace HB := HB.trans (hb.mono HB.size)
            clear hb
            clear OB OA
            go_wp2_with fail
            refine (hF0.out _ _ _ OY.rd).mono ?_
            rintro e w10 ⟨A5, c5, rfl, own, hb⟩
            replace OY := OY.all hb
            replace R := R.all hb HB.size
            have OC := own.mono HB.size
            clear own
            replace HB := HB.trans (hb.mono HB.size)
            clear hb
            clear hF0
            go_upto_region 25 with fail
            go_cut [170] from 161 to 170 (fun t wx => t = .bool false ∧ Below w10.heap.size w10 wx)
            case first =>
              cases po
              · skip
                go_wp2_with fail
                go_meet
                exact ⟨rfl, Below.refl _ _⟩
              · obtain ⟨rfl, rfl⟩ := HPB.out rfl
                go_wp2_with fail
                go_meet
                exact ⟨rfl, Below.refl _ _⟩
            case rest =>
              obtain ⟨rfl, hb⟩ := hcut
              obtain ⟨w11, hw⟩ : ∃ w11, w11 = wc := ⟨_, rfl⟩
              subst hw
              replace OY := OY.all hb
              replace OC := OC.all hb
              replace R := R.all hb HB.size
              replace HB := HB.trans (hb.mono HB.size)
              clear hb
              clear OY OC
              clear HPB hpl
              go_wp2_with fail
              refine (drawTriadsOf_any A n c w.heap.size _ R HB.size hn).mono ?_
              rintro e w12 ⟨A2, c2, zs, wi, rfl, hzl, hwi, own, hb⟩
              replace R := R.all hb HB.size
              have OZ := own.mono HB.size
              clear own
              replace HB := HB.trans (hb.mono HB.size)
              clear hb
              obtain ⟨wq, hwq⟩ : ∃ z, wrap64 (wi + 1) = z := ⟨_, rfl⟩
              obtain ⟨tq, htq⟩ : ∃ z, triadOk zs wi = z := ⟨_, rfl⟩
              obtain ⟨tx, htx⟩ : ∃ z, triadX zs wi = z := ⟨_, rfl⟩
              obtain ⟨uo, huo⟩ : ∃ z, triadOk zs wq = z := ⟨_, rfl⟩
              obtain ⟨ux, hux⟩ : ∃ z, triadX zs wq = z := ⟨_, rfl⟩
              have hTi : Hid (∀ (w : World) (A : Option Addr) (c : Nat), RdF shadeF w w.heap.size A zs.length c zs → Calls Try.prog 14 #[.slice A zs.length c, .int .i64 wi] w (OutIntss w tx tq)) := Lib.hid fun w A c h => (by have := implTriadsOf_any A _ c _ zs wi w h (Nat.le_refl _); rw [htq, htx] at this; exact this)
              have hTs : Hid (∀ (w : World) (A : Option Addr) (c : Nat), RdF shadeF w w.heap.size A zs.length c zs → Calls Try.prog 15 #[.slice A zs.length c, .int .i64 wi] w (OutIntss w tx tq)) := Lib.hid fun w A c h => (by have := specTriadsOf_any A _ c _ zs wi w h (Nat.le_refl _); rw [htq, htx] at this; exact this)
              have hTq : Hid (∀ (w : World) (A : Option Addr) (c : Nat), RdF shadeF w w.heap.size A zs.length c zs → Calls Try.prog 14 #[.slice A zs.length c, .int .i64 wq] w (OutIntss w ux uo)) := Lib.hid fun w A c h => (by have := implTriadsOf_any A _ c _ zs wq w h (Nat.le_refl _); rw [huo, hux] at this; exact this)
              have htl : tx.length ≤ 1048576 := by have := triadX_len zs wi; rw [htx] at this; omega
              have HTB : Hid (tq = true → uo = true → ¬ (ux.length : Int) < (tx.length : Int)) := Lib.hid fun ht hu => by
                have h1 := htq.trans ht
                have h2 := huo.trans hu
                have h3 := inB_yes (triad_in h1)
                have h4 : wq = wi + 1 := by rw [← hwq]; unfold wrap64; omega
                rw [h4] at h2 hux
                have h5 := triads_more h1 h2
                rw [htx, hux] at h5
                omega
              clear htq htx huo hux
              go_wp2_with fail
              refine (hTi.out _ _ _ OZ.rd).mono ?_
              rintro e w13 ⟨A3, c3, rfl, own, hb⟩
              replace OZ := OZ.all hb
              replace R := R.all hb HB.size
              have OA := own.mono HB.size
              clear own
              replace HB := HB.trans (hb.mono HB.size)
              clear hb
              go_wp2_with fail
              refine (hTs.out _ _ _ OZ.rd).mono ?_
              rintro e w14 ⟨A4, c4, rfl, own, hb⟩
              replace OZ := OZ.all hb
              replace OA := OA.all hb
              replace R := R.all hb HB.size
              have OB := own.mono HB.size
              clear own
              replace HB := HB.trans (hb.mono HB.size)
              clear hb
              clear hTi hTs
              go_upto_region 30 with fail
              go_cut [196] from 188 to 196 (fun t wx => t = .bool false ∧ Below w14.heap.size w14 wx)
              case first =>
                go_wp2_with fail
                refine (rTable_same _ _ _ _ _ _ _ _ tx _ OA OB htl).mono ?_
                rintro e wb ⟨rfl, hb⟩
                go_wp2_with fail
                go_meet
                exact ⟨rfl, hb⟩
              case rest =>
                obtain ⟨rfl, hb⟩ := hcut
                obtain ⟨w15, hw⟩ : ∃ w15, w15 = wc := ⟨_, rfl⟩
                subst hw
                replace OZ := OZ.all hb
                replace OA := OA.all hb
                replace OB := OB.all hb
                replace R := R.all hb HB.size
                replace HB := HB.trans (hb.mono HB.size)
                clear hb
                clear OB OA
                have HWQ := Lib.hid hwq
                clear hwq
                go_wp2_with fail
                rw [HWQ.out]
                refine (hTq.out _ _ _ OZ.rd).mono ?_
                rintro e w16 ⟨A5, c5, rfl, own, hb⟩
                replace OZ := OZ.all hb
                replace R := R.all hb HB.size
                have OC := own.mono HB.size
                clear own
                replace HB := HB.trans (hb.mono HB.size)
                clear hb hTq
                go_upto_region 33 with fail
                go_cut [214] from 204 to 214 (fun t wx => t = .bool false ∧ Below w16.heap.size w16 wx)
                case first =>
                  cases tq
                  · skip
                    go_wp2_with fail
                    go_meet
                    exact ⟨rfl, Below.refl _ _⟩
                  · cases uo
                    · skip
                      go_wp2_with fail
                      go_meet
                      exact ⟨rfl, Below.refl _ _⟩
                    · have hnl := HTB.out rfl rfl
                      have hnl2 : decide (ux.length < tx.length) = false := decide_eq_false (by omega)
                      go_wp2_with fail
                      go_meet
                      exact ⟨rfl, Below.refl _ _⟩
                case rest =>
                  obtain ⟨rfl, hb⟩ := hcut
                  obtain ⟨w17, hw⟩ : ∃ w17, w17 = wc := ⟨_, rfl⟩
                  subst hw
                  replace OZ := OZ.all hb
                  replace OC := OC.all hb
                  replace R := R.all hb HB.size
                  replace HB := HB.trans (hb.mono HB.size)
                  clear hb
                  clear OZ OC
                  clear HTB htl HWQ
                  go_wp2_with fail
                  refine (drawShadeDistance_any A n c w.heap.size _ R HB.size hn).mono ?_
                  rintro e w18 ⟨a, b, rfl, ha, hb2, hb⟩
                  replace R := R.all hb HB.size
                  replace HB := HB.trans (hb.mono HB.size)
                  clear hb
                  replace R := R.alloc HB.size (.cells #[.int .i64 a.f0, .string a.f1, .int .i64 a.f2, .int .i64 a.f3, .int .i64 a.f4] 30)
                  have bA := Blk.new w18 #[.int .i64 a.f0, .string a.f1, .int .i64 a.f2, .int .i64 a.f3, .int .i64 a.f4] 30
                  replace HB := HB.alloc HB.size (.cells #[.int .i64 a.f0, .string a.f1, .int .i64 a.f2, .int .i64 a.f3, .int .i64 a.f4] 30)
                  replace bA := bA.alloc (.cells #[.int .i64 b.f0, .string b.f1, .int .i64 b.f2, .int .i64 b.f3, .int .i64 b.f4] 30)
                  replace R := R.alloc HB.size (.cells #[.int .i64 b.f0, .string b.f1, .int .i64 b.f2, .int .i64 b.f3, .int .i64 b.f4] 30)
                  have bB := (Blk.new (w18.alloc (.cells #[.int .i64 a.f0, .string a.f1, .int .i64 a.f2, .int .i64 a.f3, .int .i64 a.f4] 30)) #[.int .i64 b.f0, .string b.f1, .int .i64 b.f2, .int .i64 b.f3, .int .i64 b.f4] 30).at_ (q := w18.heap.size + 1) (by simp)
                  replace HB := HB.alloc HB.size (.cells #[.int .i64 b.f0, .string b.f1, .int .i64 b.f2, .int .i64 b.f3, .int .i64 b.f4] 30)
                  obtain ⟨dk, hdk⟩ : ∃ z, farB a b = z := ⟨_, rfl⟩
                  obtain ⟨dn, hdn⟩ : ∃ z, farN a b = z := ⟨_, rfl⟩
                  have hDi : Hid (∀ w, Calls Try.prog 8 #[.agg #[.int .i64 a.f0, .string a.f1, .int .i64 a.f2, .int .i64 a.f3, .int .i64 a.f4], .agg #[.int .i64 b.f0, .string b.f1, .int .i64 b.f2, .int .i64 b.f3, .int .i64 b.f4]] w (Out w (.tuple #[.int .i64 dn, .bool dk]))) := Lib.hid fun w => (by have := implShadeDistance_any a b w ha.2.1 hb2.2.1; rw [hdk, hdn] at this; exact this)
                  have hDs : Hid (∀ w, Calls Try.prog 17 #[.agg #[.int .i64 a.f0, .string a.f1, .int .i64 a.f2, .int .i64 a.f3, .int .i64 a.f4], .agg #[.int .i64 b.f0, .string b.f1, .int .i64 b.f2, .int .i64 b.f3, .int .i64 b.f4]] w (Out w (.tuple #[.int .i64 dn, .bool dk]))) := Lib.hid fun w => (by have := specShadeDistance_any a b w ha.2.1 hb2.2.1; rw [hdk, hdn] at this; exact this)
                  clear hdk hdn ha hb2
                  have ebA0 := bA.cell 0
                  have ebA1 := bA.cell 1
                  have ebA2 := bA.cell 2
                  have ebA3 := bA.cell 3
                  have ebA4 := bA.cell 4
                  have zbA := bA.lt
                  have ebB0 := bB.cell 0
                  have ebB1 := bB.cell 1
                  have ebB2 := bB.cell 2
                  have ebB3 := bB.cell 3
                  have ebB4 := bB.cell 4
                  have zbB := bB.lt
                  go_wp2_with fail
                  refine (hDi.out _).mono ?_
                  rintro e w19 ⟨rfl, hb⟩
                  clear ebA0 ebA1 ebA2 ebA3 ebA4 zbA ebB0 ebB1 ebB2 ebB3 ebB4 zbB
                  replace bA := bA.all hb
                  replace bB := bB.all hb
                  replace R := R.all hb HB.size
                  replace HB := HB.trans (hb.mono HB.size)
                  clear hb
                  have ebA0 := bA.cell 0
                  have ebA1 := bA.cell 1
                  have ebA2 := bA.cell 2
                  have ebA3 := bA.cell 3
                  have ebA4 := bA.cell 4
                  have zbA := bA.lt
                  have ebB0 := bB.cell 0
                  have ebB1 := bB.cell 1
                  have ebB2 := bB.cell 2
                  have ebB3 := bB.cell 3
                  have ebB4 := bB.cell 4
                  have zbB := bB.lt
                  go_wp2_with fail
                  refine (hDs.out _).mono ?_
                  rintro e w20 ⟨rfl, hb⟩
                  clear ebA0 ebA1 ebA2 ebA3 ebA4 zbA ebB0 ebB1 ebB2 ebB3 ebB4 zbB
                  replace bA := bA.all hb
                  replace bB := bB.all hb
                  replace R := R.all hb HB.size
                  replace HB := HB.trans (hb.mono HB.size)
                  clear hb
                  go_wp2
                  go_ret
                  exact ⟨ret_bool (by simp), HB⟩
  · go_enter Try.func3, Try.ntmps3
    go_wp2_with fail
    refine (rBig_eq A n c _ (by omega) true (by simp; omega)).mono ?_
    rintro e w' ⟨rfl, rfl⟩
    go_wp2
    go_ret
    exact ⟨rfl, HB⟩
end Go.Proofs.Ytmdgclbcjjmpiaa
