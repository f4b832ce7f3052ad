/- The walk of the program's AnyWayPlaces. No condition. -/
import Derived.Test.YtehhidpmbbabeaaAnyPI
namespace Go.Proofs.Ytehhidpmbbabeaa
open Go.RowKit

def sumP (m kk : Nat) (xs : List Int) (ps : List Pic) (i : Nat) : Nat := ((ps.take i).map fun q => (placesL m kk xs q.m q.k q.xs).length).sum
theorem sumP_succ {m kk i : Nat} {xs : List Int} {ps : List Pic} {q : Pic} (h : ps[i]? = some q) : sumP m kk xs ps (i + 1) = sumP m kk xs ps i + (placesL m kk xs q.m q.k q.xs).length := by
  obtain ⟨hi, rfl⟩ := List.getElem?_eq_some_iff.1 h
  unfold sumP
  rw [List.take_succ_eq_append_getElem hi, List.map_append, List.sum_append_nat]
  simp
theorem sumP_le {m kk : Nat} {xs : List Int} {ps : List Pic} (m8 : m ≤ 8) (k8 : kk ≤ 8) (h : ∀ q ∈ ps, q.Ok) : ∀ i, sumP m kk xs ps i ≤ 64 * i
  | 0 => by simp [sumP]
  | i + 1 => by
    have ih := sumP_le (xs := xs) m8 k8 h i
    by_cases hi : i < ps.length
    · have hq := h _ (List.getElem_mem hi)
      have := placesL_len (xs := xs) (ys := (ps[i]'hi).xs) m8 k8 hq.1 hq.2.2.1
      rw [sumP_succ (List.getElem?_eq_getElem hi)]
      omega
    · have e1 : ps.take (i + 1) = ps.take i := by rw [List.take_of_length_le (show ps.length ≤ i + 1 by omega), List.take_of_length_le (show ps.length ≤ i by omega)]
      unfold sumP at ih ⊢
      rw [e1]
      omega
set_option maxRecDepth 100000 in
set_option maxHeartbeats 8000000 in
theorem implAnyWayPlaces_any (W H : Int) (A : Option Addr) (n c B : Nat) (xs : List Int) (pW pH : Int) (A' : Option Addr) (n' c' B' : Nat) (ys : List Int) (w : World) (hR : Rd w B A n c xs) (hR' : Rd w B' A' n' c' ys) (hB : B ≤ w.heap.size) (hB' : B' ≤ w.heap.size) :
    Calls Try.prog 37 #[chartV W H (.slice A n c), chartV pW pH (.slice A' n' c')] w (Out w (.tuple #[.int .i64 (anyN W H xs pW pH ys), .bool (twoOk W H xs pW pH ys)])) := by
  have hb0 := Lib.hid (((Below.refl w.heap.size w).alloc (Nat.le_refl _) (.cells #[.int .i64 W, .int .i64 H, .slice A n c] 26)).alloc (by simp) (.cells #[.int .i64 pW, .int .i64 pH, .slice A' n' c'] 26))
  have h1 := Lib.hid ((hR.alloc hB (.cells #[.int .i64 W, .int .i64 H, .slice A n c] 26)).alloc (by simp; omega) (.cells #[.int .i64 pW, .int .i64 pH, .slice A' n' c'] 26))
  have h2 := Lib.hid ((hR'.alloc hB' (.cells #[.int .i64 W, .int .i64 H, .slice A n c] 26)).alloc (by simp; omega) (.cells #[.int .i64 pW, .int .i64 pH, .slice A' n' c'] 26))
  have x0 := (Blk.new w #[.int .i64 W, .int .i64 H, .slice A n c] 26).alloc (.cells #[.int .i64 pW, .int .i64 pH, .slice A' n' c'] 26)
  have p0 := (Blk.new (w.alloc (.cells #[.int .i64 W, .int .i64 H, .slice A n c] 26)) #[.int .i64 pW, .int .i64 pH, .slice A' n' c'] 26).at_ (q := w.heap.size + 1) (by simp)
  by_cases g1 : goodB W H xs = true
  rotate_left
  · have hno := not_false g1
    have H' := Lib.hid (any_no6 (W := W) (H := H) (xs := xs) (pW := pW) (pH := pH) (ys := ys) (.inl hno))
    go_enter Try.func37, Try.ntmps37
    go_wp2_with fail
    refine (implIsChart_any W H A n c B xs _ h1.out (by first | omega | (simp; done) | (simp; omega))).mono ?_
    rintro e w1 ⟨rfl, hb⟩
    have HB := Lib.hid (hb0.out.trans (hb.mono (by simp; omega)))
    rw [hno]
    clear hb x0 p0
    go_wp2
    go_ret2
    exact ⟨ret_ib H'.out.1.symm H'.out.2.symm, HB.out⟩
  by_cases g2 : goodB pW pH ys = true
  rotate_left
  · have hno := not_false g2
    have H' := Lib.hid (any_no6 (W := W) (H := H) (xs := xs) (pW := pW) (pH := pH) (ys := ys) (.inr hno))
    go_enter Try.func37, Try.ntmps37
    go_wp2_with fail
    refine (implIsChart_any W H A n c B xs _ h1.out (by first | omega | (simp; done) | (simp; omega))).mono ?_
    rintro e w1 ⟨rfl, hb⟩
    have HB := Lib.hid (hb0.out.trans (hb.mono (by simp; omega)))
    have p1 := p0.all hb
    have R2 := Lib.hid (h2.out.all hb (by simp; omega))
    have hz1 : w.heap.size ≤ w1.heap.size := HB.out.size
    have hz2 : B' ≤ w1.heap.size := Nat.le_trans hB' hz1
    have e0 := p1.cell 0
    have e1 := p1.cell 1
    have e2 := p1.cell 2
    rw [g1]
    clear hb x0 p0
    go_wp2_with fail
    refine (implIsChart_any pW pH A' n' c' B' ys _ R2.out (by first | omega | (simp; done) | (simp; omega))).mono ?_
    rintro e w2 ⟨rfl, hb⟩
    have HB2 := Lib.hid (HB.out.trans (hb.mono hz1))
    clear HB hb
    have HB := HB2
    rw [hno]
    go_wp2
    go_ret2
    exact ⟨ret_ib H'.out.1.symm H'.out.2.symm, HB.out⟩
  have HV := Lib.hid (any_yes6 g1 g2)
  obtain ⟨m, kk, rfl, rfl, m1, m8, k1, k8, hl, h64, hl1, hcx⟩ := good_nat g1
  obtain ⟨pm, pk, rfl, rfl, pm1, pm8, pk1, pk8, hl', h64', hl1', hcy⟩ := good_nat g2
  simp only [Int.toNat_natCast] at *
  obtain rfl := hR.len
  obtain rfl := hR'.len
  obtain ⟨b, off, rfl, _, _⟩ := hR.cells (by omega)
  obtain ⟨b', off', rfl, _, _⟩ := hR'.cells (by omega)
  clear hR hR'
  go_enter Try.func37, Try.ntmps37
  go_wp2_with fail
  refine (implIsChart_any m kk _ _ c B xs _ h1.out (by simp; omega)).mono ?_
  rintro e w1 ⟨rfl, hb⟩
  have x1 := x0.all hb
  have p1 := p0.all hb
  have RA1 := Lib.hid (h1.out.all hb (by simp; omega))
  have RB1 := Lib.hid (h2.out.all hb (by simp; omega))
  have HB1 := Lib.hid (hb0.out.trans (hb.mono (by simp; omega)))
  have hz1 : w.heap.size ≤ w1.heap.size := HB1.out.size
  have e0 := p1.cell 0
  have e1 := p1.cell 1
  have e2 := p1.cell 2
  rw [g1]
  clear hb x0 p0 h1 h2 hb0 g1
  go_wp2_with fail
  refine (implIsChart_any pm pk _ _ c' B' ys _ RB1.out (Nat.le_trans hB' hz1)).mono ?_
  rintro e w2 ⟨rfl, hb⟩
  have x2 := x1.all hb
  have p2 := p1.all hb
  have RA := Lib.hid (RA1.out.all hb (Nat.le_trans hB hz1))
  have RB := Lib.hid (RB1.out.all hb (Nat.le_trans hB' hz1))
  have HB := Lib.hid (HB1.out.trans (hb.mono hz1))
  have hz2 : w.heap.size ≤ w2.heap.size := HB.out.size
  rw [g2]
  clear hb x1 p1 RA1 RB1 HB1 hz1 e0 e1 e2 g2
  have ep0 := p2.cell 0
  have ep1 := p2.cell 1
  have ep2 := p2.cell 2
  have hpok : (⟨pm, pk, ys⟩ : Pic).Ok := pic_ok pm1 pm8 pk1 pk8 hl'.out
  go_wp2_with fail
  refine (waysOf_any ⟨pm, pk, ys⟩ b' off' c' B' _ RB.out (Nat.le_trans hB' hz2) hpok).mono ?_
  rintro e w3 ⟨A3, c3, hs, rfl, ho, hse, hb3⟩
  have x3 := x2.all hb3
  have RA3 := RA.out.all hb3 (Nat.le_trans hB hz2)
  have HB3 := Lib.hid (HB.out.trans (hb3.mono hz2))
  replace ho := ho.mono hz2
  have hse3 : Hid (SeenH w3 w.heap.size hs (seenP ⟨pm, pk, ys⟩ 8)) := Lib.hid ⟨hse.out.1, fun j x q hx hq => by obtain ⟨a, b, c, d⟩ := hse.out.2 j x q hx hq; exact ⟨a, b, c, d.mono hz2⟩⟩
  have hok := Lib.hid (show ∀ q ∈ seenP ⟨pm, pk, ys⟩ 8, q.Ok from fun q hq => by
    obtain ⟨t, rfl⟩ := seenP_mem hq
    exact hpok.move t)
  have hl8 : hs.length ≤ 8 := by rw [hse.out.1]; exact seenP_len
  have hll := Lib.hid hse.out.1
  have HSUM := Lib.hid (show anyTo m kk xs ⟨pm, pk, ys⟩ 8 = sumP m kk xs (seenP ⟨pm, pk, ys⟩ 8) hs.length by
    unfold anyTo sumP
    rw [List.take_of_length_le (by rw [hll.out]; exact Nat.le_refl _)])
  have hse0 := hse3
  clear hb3 x2 p2 RA RB HB hse ep0 ep1 ep2 hse3
  generalize seenP ⟨pm, pk, ys⟩ 8 = ps at *
  go_wp2
  go_loopw [6, 20] (fun s6 s20 wr => ∃ (i : Nat), i ≤ hs.length ∧ s20 = .int .i64 i ∧ s6 = .int .i64 (sumP m kk xs ps i : Int) ∧ Hid (SeenH wr w.heap.size hs ps) ∧ OwnF chartsF wr w.heap.size (.slice A3 hs.length c3) hs ∧ Blk wr w.heap.size 26 #[.int .i64 m, .int .i64 kk, .slice (some ⟨b, off, none⟩) xs.length c] ∧ Rd wr B (some ⟨b, off, none⟩) xs.length c xs ∧ Hid (Below w.heap.size w wr)) (fun _ s20 _ => hs.length - (intOf s20).toNat)
  case atStart => exact ⟨0, Nat.zero_le _, rfl, rfl, hse0, ho, x3, RA3, HB3⟩
  case round =>
    clear hse0 ho x3 RA3 HB3
    obtain ⟨i, hi, rfl, rfl, hse, ho, x3, RA3, HB3⟩ := hrel
    by_cases hlt : i < hs.length
    · obtain ⟨bh, oh, a, rfl, hbh, HX, e0, e1, e2⟩ := Ch_at ho.rd hlt
      obtain ⟨q, hq, ea, hoq⟩ := hse.out.at HX.out
      have hqok := hok.out q (List.mem_of_getElem? hq)
      have hsucc := Lib.hid (sumP_succ (m := m) (kk := kk) (xs := xs) hq)
      obtain ⟨qm, qk, qx⟩ := q
      simp only at ea hoq hsucc
      rw [ea] at e0 e1 e2
      simp only at e0 e1 e2
      obtain ⟨gq, egq, _, _⟩ := hoq.some_ (by have := hqok.len.2; exact this)
      rw [egq] at hoq e2
      obtain ⟨cq, hcq⟩ : ∃ cq, cq = a.c := ⟨_, rfl⟩
      rw [← hcq] at hoq e2
      clear HX ea egq hcq hq
      have hwz := HB3.out.size
      have ex0 := x3.cell 0
      have ex1 := x3.cell 1
      have ex2 := x3.cell 2
      have hxl := x3.lt
      have hq1 : 1 ≤ qm := hqok.1
      have hq2 : qm ≤ 8 := hqok.2.1
      have hq3 : 1 ≤ qk := hqok.2.2.1
      have hq4 : qk ≤ 8 := hqok.2.2.2.1
      have hq5 := Lib.hid (show qx.length = qm * qk from hqok.2.2.2.2)
      have hsum := sumP_le (xs := xs) m8 k8 hok.out i
      have hpl := placesL_len (xs := xs) (ys := qx) m8 k8 hq1 hq3
      clear hqok
      go_wp2_with fail
      have x4 := x3.alloc (.cells #[.int .i64 (qm : Int), .int .i64 (qk : Int), .slice (some ⟨gq, 0, none⟩) qx.length cq] 26)
      have R4 := RA3.alloc (Nat.le_trans hB hwz) (.cells #[.int .i64 (qm : Int), .int .i64 (qk : Int), .slice (some ⟨gq, 0, none⟩) qx.length cq] 26)
      have o4 := ho.alloc (.cells #[.int .i64 (qm : Int), .int .i64 (qk : Int), .slice (some ⟨gq, 0, none⟩) qx.length cq] 26)
      have q4 := hoq.alloc (.cells #[.int .i64 (qm : Int), .int .i64 (qk : Int), .slice (some ⟨gq, 0, none⟩) qx.length cq] 26)
      have s4 := Lib.hid (hse.out.all ((Below.refl wr.heap.size wr).alloc (Nat.le_refl _) (.cells #[.int .i64 (qm : Int), .int .i64 (qk : Int), .slice (some ⟨gq, 0, none⟩) qx.length cq] 26)))
      have HB4 := Lib.hid (HB3.out.alloc hwz (.cells #[.int .i64 (qm : Int), .int .i64 (qk : Int), .slice (some ⟨gq, 0, none⟩) qx.length cq] 26))
      clear ho hoq hse x3 RA3 HB3
      refine (placesIn_any m kk qm qk b off c B gq 0 cq _ xs qx _ R4 q4.rd (by simp; omega) (Nat.le_refl _) m1 m8 k8 hq1 hq3 hq2 hq4 hl hq5).mono ?_
      rintro e w5 ⟨A5, c5, rfl, _, hb5⟩
      have x5 := x4.all hb5
      have R5 := R4.all hb5 (by simp; omega)
      have o5 := o4.all hb5
      have s5 := Lib.hid (s4.out.all hb5)
      have HB5 := Lib.hid (HB4.out.trans (hb5.mono HB4.out.size))
      have hwrap : IntKind.i64.wrap ((sumP m kk xs ps i : Int) + ((placesL m kk xs qm qk qx).length : Int)) = (sumP m kk xs ps i : Int) + ((placesL m kk xs qm qk qx).length : Int) := IntWalk.i64_in _ (by omega)
      clear x4 R4 o4 s4 q4 HB4 hb5 e0 e1 e2 ex0 ex1 ex2
      go_wp2
      go_roundw
      case rel => exact ⟨i + 1, by omega, by go_num, by rw [hsucc.out]; simp, s5, o5, x5, R5, HB5⟩
      case measure => simp [intOf]; omega
    · obtain rfl : i = hs.length := by omega
      have HE := Lib.hid (show anyN m kk xs pm pk ys = ((sumP m kk xs ps hs.length : Nat) : Int) by rw [HV.out.1, ← HSUM.out]; first | done | simp)
      clear HSUM
      go_wp2
      go_ret2
      exact ⟨ret_ib HE.out.symm HV.out.2.symm, HB3.out⟩
end Go.Proofs.Ytehhidpmbbabeaa
