/- The walks of the program's isSameChart, waysOf, AnyWayPlaces. No condition. -/
import Derived.Test.YtehhidpmbbabeaaPlacesI
import Derived.Test.YtehhidpmbbabeaaContC
namespace Go.Proofs.Ytehhidpmbbabeaa
open Go.RowKit

set_option maxRecDepth 100000 in
set_option maxHeartbeats 2000000 in
theorem isSameChart_eq (q r : Pic) (b off c B b' off' c' B' : Nat) (w : World) (hR : Rd w B (some ⟨b, off, none⟩) q.xs.length c q.xs) (hR' : Rd w B' (some ⟨b', off', none⟩) r.xs.length c' r.xs) (hB : B ≤ w.heap.size) (hB' : B' ≤ w.heap.size)
    (hq : q.Ok) (hr : r.Ok) (d : Bool) (hd : eqPic q r = d) :
    Calls Try.prog 102 #[chartV q.m q.k (.slice (some ⟨b, off, none⟩) q.xs.length c), chartV r.m r.k (.slice (some ⟨b', off', none⟩) r.xs.length c')] w (Out w (.bool d)) := by
  obtain ⟨m, k, xs⟩ := q
  obtain ⟨m', k', ys⟩ := r
  simp only at hR hR' ⊢
  have hb0 := Lib.hid (((Below.refl w.heap.size w).alloc (Nat.le_refl _) (.cells #[.int .i64 m, .int .i64 k, .slice (some ⟨b, off, none⟩) xs.length c] 26)).alloc (by simp) (.cells #[.int .i64 m', .int .i64 k', .slice (some ⟨b', off', none⟩) ys.length c'] 26))
  have R0 := (hR.alloc hB (.cells #[.int .i64 m, .int .i64 k, .slice (some ⟨b, off, none⟩) xs.length c] 26)).alloc (by simp; omega) (.cells #[.int .i64 m', .int .i64 k', .slice (some ⟨b', off', none⟩) ys.length c'] 26)
  have S0 := (hR'.alloc hB' (.cells #[.int .i64 m, .int .i64 k, .slice (some ⟨b, off, none⟩) xs.length c] 26)).alloc (by simp; omega) (.cells #[.int .i64 m', .int .i64 k', .slice (some ⟨b', off', none⟩) ys.length c'] 26)
  have hl1 : 1 ≤ xs.length := hq.len.2
  have hl2 : 1 ≤ ys.length := hr.len.2
  have hzz : w.heap.size ≤ ((w.alloc (.cells #[.int .i64 m, .int .i64 k, .slice (some ⟨b, off, none⟩) xs.length c] 26)).alloc (.cells #[.int .i64 m', .int .i64 k', .slice (some ⟨b', off', none⟩) ys.length c'] 26)).heap.size := by simp; omega
  clear hR hR'
  by_cases hm : m' = m
  · subst hm
    have HE := Lib.hid (show decide (xs = ys) = d by
      rw [← hd]
      unfold eqPic
      rw [decide_eq_decide]
      refine ⟨fun e => ⟨rfl, ?_, e.symm⟩, fun e => e.2.2.symm⟩
      have h1 : xs.length = m' * k := hq.2.2.2.2
      have h2 : ys.length = m' * k' := hr.2.2.2.2
      rw [e, h2] at h1
      exact Nat.eq_of_mul_eq_mul_left hr.1 h1)
    clear hd hq hr
    go_enter Try.func102, Try.ntmps102
    go_wp2_with (go_at_call 96; (with_reducible refine (equal_eq b off _ c b' off' _ c' B B' xs ys _ R0 S0 hl1 hl2 d HE.out).mono ?_); rintro e w2 ⟨rfl, hb2⟩)
    go_ret
    exact ⟨rfl, hb0.out.trans (hb2.mono hzz)⟩
  · have HE := Lib.hid (show d = false by
      rw [← hd]
      unfold eqPic
      rw [decide_eq_false_iff_not]
      exact fun e => hm e.1)
    have hmi : ¬ ((m : Int) = (m' : Int)) := by omega
    clear hd hq hr
    go_enter Try.func102, Try.ntmps102
    go_wp2
    go_ret
    exact ⟨ret_bool (by rw [HE.out]), hb0.out⟩
set_option maxRecDepth 100000 in
set_option maxHeartbeats 1000000 in
/-- The closure of waysOf: its captured chart lies in a box. -/
theorem isWay_eq (q r : Pic) (A : Option Addr) (c B q0 : Nat) (A' : Option Addr) (c' B' : Nat) (w : World) (hR : Rd w B A q.xs.length c q.xs) (hR' : Rd w B' A' r.xs.length c' r.xs) (hB : B ≤ w.heap.size) (hB' : B' ≤ w.heap.size)
    (hx : Blk w q0 26 #[.int .i64 r.m, .int .i64 r.k, .slice A' r.xs.length c']) (hq : q.Ok) (hr : r.Ok) :
    Calls Try.prog 101 #[.agg #[.int .i64 q.m, .int .i64 q.k, .slice A q.xs.length c], .pointer (some ⟨q0, 0, none⟩)] w (Out w (.bool (eqPic q r))) := by
  obtain ⟨b, off, rfl, _, _⟩ := hR.cells (by have := hq.len.2; omega)
  obtain ⟨b', off', rfl, _, _⟩ := hR'.cells (by have := hr.len.2; omega)
  have hb0 := Lib.hid ((Below.refl w.heap.size w).alloc (Nat.le_refl _) (.cells #[.int .i64 q.m, .int .i64 q.k, .slice (some ⟨b, off, none⟩) q.xs.length c] 26))
  have R0 := hR.alloc hB (.cells #[.int .i64 q.m, .int .i64 q.k, .slice (some ⟨b, off, none⟩) q.xs.length c] 26)
  have S0 := hR'.alloc hB' (.cells #[.int .i64 q.m, .int .i64 q.k, .slice (some ⟨b, off, none⟩) q.xs.length c] 26)
  have e0 := hx.cell 0
  have e1 := hx.cell 1
  have e2 := hx.cell 2
  have hzx := hx.lt
  have h1 : B ≤ (w.alloc (.cells #[.int .i64 q.m, .int .i64 q.k, .slice (some ⟨b, off, none⟩) q.xs.length c] 26)).heap.size := by simp; omega
  have h2 : B' ≤ (w.alloc (.cells #[.int .i64 q.m, .int .i64 q.k, .slice (some ⟨b, off, none⟩) q.xs.length c] 26)).heap.size := by simp; omega
  clear hR hR' hx
  go_enter Try.func101, Try.ntmps101
  go_wp2_with (go_at_call 102; (with_reducible refine (isSameChart_eq q r b off c B b' off' c' B' _ R0 S0 h1 h2 hq hr _ rfl).mono ?_); rintro e w2 ⟨rfl, hb2⟩)
  go_ret
  exact ⟨rfl, hb0.out.trans (hb2.mono (by simp))⟩
def OwnWays (w : World) (ps : List Pic) (e : Ending) (w' : World) : Prop :=
  ∃ A c hs, e = .returned (.slice A hs.length c) ∧ OwnF chartsF w' w.heap.size (.slice A hs.length c) hs ∧ Hid (SeenH w' w.heap.size hs ps) ∧ Below w.heap.size w w'
theorem SeenH.at {w : World} {lo j : Nat} {hs : List ChR} {ps : List Pic} {a : ChR} (h : SeenH w lo hs ps) (ha : hs[j]? = some a) : ∃ q, ps[j]? = some q ∧ a = ⟨(q.m : Int), (q.k : Int), a.A, q.xs.length, a.c⟩ ∧ Own w lo (.slice a.A q.xs.length a.c) q.xs := by
  have hl := h.1
  have hj := (List.getElem?_eq_some_iff.1 ha).1
  have hq : ps[j]? = some (ps[j]'(by omega)) := List.getElem?_eq_getElem (by omega)
  obtain ⟨h1, h2, h3, h4⟩ := h.2 j a _ ha hq
  refine ⟨_, hq, ?_, h3 ▸ h4⟩
  obtain ⟨W, H, A, n, c⟩ := a
  simp only at h1 h2 h3
  rw [h1, h2, h3]
theorem any_range {ps : List Pic} {n : Nat} (r : Pic) (h : ps.length = n) : (List.range n).any (fun j => match ps[j]? with | some q => eqPic q r | none => false) = ps.any fun q => eqPic q r := by
  subst h
  rw [Bool.eq_iff_iff, List.any_eq_true, List.any_eq_true]
  constructor
  · rintro ⟨j, hj, e⟩
    have hj := List.mem_range.1 hj
    rw [List.getElem?_eq_getElem hj] at e
    exact ⟨_, List.getElem_mem hj, e⟩
  · rintro ⟨q, hq, e⟩
    obtain ⟨j, hj, rfl⟩ := List.getElem_of_mem hq
    refine ⟨j, List.mem_range.2 hj, ?_⟩
    rw [List.getElem?_eq_getElem hj]
    exact e
set_option maxRecDepth 100000 in
set_option maxHeartbeats 8000000 in
theorem waysOf_any (p : Pic) (b off cc B : Nat) (w : World) (hR : Rd w B (some ⟨b, off, none⟩) p.xs.length cc p.xs) (hB : B ≤ w.heap.size) (hpok : p.Ok) :
    Calls Try.prog 77 #[chartV p.m p.k (.slice (some ⟨b, off, none⟩) p.xs.length cc)] w (OwnWays w (seenP p 8)) := by
  obtain ⟨m, kk, xs⟩ := p
  simp only at hR ⊢
  have hb0 := Lib.hid ((Below.refl w.heap.size w).alloc (Nat.le_refl _) (.cells #[.int .i64 m, .int .i64 kk, .slice (some ⟨b, off, none⟩) xs.length cc] 26))
  have R0 := hR.alloc hB (.cells #[.int .i64 m, .int .i64 kk, .slice (some ⟨b, off, none⟩) xs.length cc] 26)
  have x0 := Blk.new w #[.int .i64 m, .int .i64 kk, .slice (some ⟨b, off, none⟩) xs.length cc] 26
  have o0 : OwnF chartsF (w.alloc (.cells #[.int .i64 m, .int .i64 kk, .slice (some ⟨b, off, none⟩) xs.length cc] 26)) (w.heap.size + 1) (.slice none 0 0) [] := OwnF.nil _ _ _
  have s0 := Lib.hid (SeenH.nil (w.alloc (.cells #[.int .i64 m, .int .i64 kk, .slice (some ⟨b, off, none⟩) xs.length cc] 26)) w.heap.size)
  clear hR
  go_enter Try.func77, Try.ntmps77
  go_wp2
  go_loopw [3, 7] (fun s3 s7 wr => ∃ (s : Nat) (A : Option Addr) (c : Nat) (hs : List ChR), s ≤ 8 ∧ s7 = .int .i64 s ∧ s3 = .slice A hs.length c ∧ Hid (SeenH wr w.heap.size hs (seenP ⟨m, kk, xs⟩ s)) ∧ OwnF chartsF wr (w.heap.size + 1) (.slice A hs.length c) hs ∧ Blk wr w.heap.size 26 #[.int .i64 m, .int .i64 kk, .slice (some ⟨b, off, none⟩) xs.length cc] ∧ Rd wr B (some ⟨b, off, none⟩) xs.length cc xs ∧ Hid (Below w.heap.size w wr)) (fun _ s7 _ => 8 - (intOf s7).toNat)
  case atStart => exact ⟨0, none, 0, [], by omega, rfl, rfl, s0, o0, x0, R0, hb0⟩
  case round =>
    clear s0 o0 x0 R0 hb0
    obtain ⟨s, A, c, hs, hs8, rfl, rfl, hse, ho, x1, R1, HB⟩ := hrel
    by_cases hlt : s < 8
    · have hlt' : (s : Int) < 8 := by omega
      have ex0 := x1.cell 0
      have ex1 := x1.cell 1
      have ex2 := x1.cell 2
      have hwz := HB.out.size
      have hxl := x1.lt
      go_wp2_with fail
      refine (movedBy_any m kk b off cc B s xs wr R1 (Nat.le_trans hB hwz) hpok (by omega)).mono ?_
      rintro e w3 ⟨A3, c3, rfl, own3, hb3⟩
      have x3 := x1.all hb3
      have R3 := R1.all hb3 (Nat.le_trans hB hwz)
      have HB3 := Lib.hid (HB.out.trans (hb3.mono hwz))
      have o3 := ho.all hb3
      have s3 := Lib.hid (hse.out.all hb3)
      have hz3 : wr.heap.size ≤ w3.heap.size := hb3.size
      have hlo3 := own3.bd
      replace own3 := own3.mono hwz
      clear x1 R1 HB ho hse hb3 ex0 ex1 ex2
      replace own3 : Own w3 w.heap.size (.slice A3 ((⟨m, kk, xs⟩ : Pic).move s).xs.length c3) ((⟨m, kk, xs⟩ : Pic).move s).xs := own3
      have x4 := x3.alloc (.cells #[.int .i64 (((⟨m, kk, xs⟩ : Pic).move s).m : Int), .int .i64 (((⟨m, kk, xs⟩ : Pic).move s).k : Int), .slice A3 ((⟨m, kk, xs⟩ : Pic).move s).xs.length c3] 26)
      have R4 := R3.alloc (by omega) (.cells #[.int .i64 (((⟨m, kk, xs⟩ : Pic).move s).m : Int), .int .i64 (((⟨m, kk, xs⟩ : Pic).move s).k : Int), .slice A3 ((⟨m, kk, xs⟩ : Pic).move s).xs.length c3] 26)
      have HB4 := Lib.hid (HB3.out.alloc (by omega) (.cells #[.int .i64 (((⟨m, kk, xs⟩ : Pic).move s).m : Int), .int .i64 (((⟨m, kk, xs⟩ : Pic).move s).k : Int), .slice A3 ((⟨m, kk, xs⟩ : Pic).move s).xs.length c3] 26))
      have o4 := o3.alloc (.cells #[.int .i64 (((⟨m, kk, xs⟩ : Pic).move s).m : Int), .int .i64 (((⟨m, kk, xs⟩ : Pic).move s).k : Int), .slice A3 ((⟨m, kk, xs⟩ : Pic).move s).xs.length c3] 26)
      have s4 := Lib.hid (s3.out.all ((Below.refl w3.heap.size w3).alloc (Nat.le_refl _) (.cells #[.int .i64 (((⟨m, kk, xs⟩ : Pic).move s).m : Int), .int .i64 (((⟨m, kk, xs⟩ : Pic).move s).k : Int), .slice A3 ((⟨m, kk, xs⟩ : Pic).move s).xs.length c3] 26)))
      have own4 := own3.alloc (.cells #[.int .i64 (((⟨m, kk, xs⟩ : Pic).move s).m : Int), .int .i64 (((⟨m, kk, xs⟩ : Pic).move s).k : Int), .slice A3 ((⟨m, kk, xs⟩ : Pic).move s).xs.length c3] 26)
      have y4 := Blk.new w3 #[.int .i64 (((⟨m, kk, xs⟩ : Pic).move s).m : Int), .int .i64 (((⟨m, kk, xs⟩ : Pic).move s).k : Int), .slice A3 ((⟨m, kk, xs⟩ : Pic).move s).xs.length c3] 26
      have hmok := hpok.move s
      have hsl := Lib.hid (show hs.length = (seenP ⟨m, kk, xs⟩ s).length from s3.out.1)
      obtain ⟨d, HD⟩ : ∃ d, Hid (((seenP ⟨m, kk, xs⟩ s).any fun q => eqPic q ((⟨m, kk, xs⟩ : Pic).move s)) = d) := ⟨_, rfl⟩
      have hp := Lib.hid (show ∀ (W : World) (j : Nat) (a : ChR), hs[j]? = some a → Below (w3.alloc (.cells #[.int .i64 (((⟨m, kk, xs⟩ : Pic).move s).m : Int), .int .i64 (((⟨m, kk, xs⟩ : Pic).move s).k : Int), .slice A3 ((⟨m, kk, xs⟩ : Pic).move s).xs.length c3] 26)).heap.size (w3.alloc (.cells #[.int .i64 (((⟨m, kk, xs⟩ : Pic).move s).m : Int), .int .i64 (((⟨m, kk, xs⟩ : Pic).move s).k : Int), .slice A3 ((⟨m, kk, xs⟩ : Pic).move s).xs.length c3] 26)) W → Calls Try.prog 101 #[.agg #[.int .i64 a.W, .int .i64 a.H, .slice a.A a.n a.c], .pointer (some ⟨w3.heap.size, 0, none⟩)] W (Out W (.bool ((fun j => match (seenP ⟨m, kk, xs⟩ s)[j]? with | some q => eqPic q ((⟨m, kk, xs⟩ : Pic).move s) | none => false) j))) from fun W j a ha hbW => by
        obtain ⟨q, hq, ea, hoq⟩ := s4.out.at ha
        have hqok : q.Ok := by
          obtain ⟨t, rfl⟩ := seenP_mem (List.mem_of_getElem? hq)
          exact hpok.move t
        rw [ea]
        simp only [hq]
        exact isWay_eq q ((⟨m, kk, xs⟩ : Pic).move s) a.A a.c _ w3.heap.size A3 c3 _ W (hoq.all hbW).rd (own4.all hbW).rd (Nat.le_refl _) (Nat.le_refl _) (y4.all hbW) hqok hmok)
      clear x3 R3 HB3 o3 s3 own3
      go_wp2_with fail
      refine (containsC_any A hs.length c _ w3.heap.size hs _ o4.rd (Nat.le_refl _) (fun j => match (seenP ⟨m, kk, xs⟩ s)[j]? with | some q => eqPic q ((⟨m, kk, xs⟩ : Pic).move s) | none => false) hp d ((any_range ((⟨m, kk, xs⟩ : Pic).move s) hsl.out.symm).trans HD.out)).mono ?_
      rintro e w6 ⟨rfl, hb6⟩
      have x6 := x4.all hb6
      have R6 := R4.all hb6 (by simp; omega)
      have HB6 := Lib.hid (HB4.out.trans (hb6.mono (by simp; omega)))
      have o6 := o4.all hb6
      have s6 := Lib.hid (s4.out.all hb6)
      have own6 := own4.all hb6
      have y6 := y4.all hb6
      have hz6 : w3.heap.size < w6.heap.size := y6.lt
      have hzw : w.heap.size ≤ w6.heap.size := HB6.out.size
      clear x4 R4 HB4 o4 s4 own4 y4 hp hb6
      cases d with
      | true =>
        have HN := Lib.hid (show SeenH w6 w.heap.size hs (seenP ⟨m, kk, xs⟩ (s + 1)) by rw [seenP_yes HD.out]; exact s6.out)
        clear s6 y6 own6
        go_wp2
        go_roundw
        case rel => exact ⟨s + 1, A, c, hs, by omega, by go_num, rfl, HN, o6, x6, R6, HB6⟩
        case measure => simp [intOf]; omega
      | false =>
        have y60 := y6.cell 0
        have y61 := y6.cell 1
        have y62 := y6.cell 2
        have hr := RdF.lit (F := chartsF) (w := w6) (cs := #[.int .i64 (((⟨m, kk, xs⟩ : Pic).move s).m : Int), .int .i64 (((⟨m, kk, xs⟩ : Pic).move s).k : Int), .slice A3 ((⟨m, kk, xs⟩ : Pic).move s).xs.length c3]) (a := ⟨(((⟨m, kk, xs⟩ : Pic).move s).m : Int), (((⟨m, kk, xs⟩ : Pic).move s).k : Int), A3, ((⟨m, kk, xs⟩ : Pic).move s).xs.length, c3⟩) rfl trivial
        have oA := o6.alloc (.cells #[.int .i64 (((⟨m, kk, xs⟩ : Pic).move s).m : Int), .int .i64 (((⟨m, kk, xs⟩ : Pic).move s).k : Int), .slice A3 ((⟨m, kk, xs⟩ : Pic).move s).xs.length c3] chartsF.t)
        have xA := x6.alloc (.cells #[.int .i64 (((⟨m, kk, xs⟩ : Pic).move s).m : Int), .int .i64 (((⟨m, kk, xs⟩ : Pic).move s).k : Int), .slice A3 ((⟨m, kk, xs⟩ : Pic).move s).xs.length c3] chartsF.t)
        have RA := R6.alloc (by omega) (.cells #[.int .i64 (((⟨m, kk, xs⟩ : Pic).move s).m : Int), .int .i64 (((⟨m, kk, xs⟩ : Pic).move s).k : Int), .slice A3 ((⟨m, kk, xs⟩ : Pic).move s).xs.length c3] chartsF.t)
        have ownA := own6.alloc (.cells #[.int .i64 (((⟨m, kk, xs⟩ : Pic).move s).m : Int), .int .i64 (((⟨m, kk, xs⟩ : Pic).move s).k : Int), .slice A3 ((⟨m, kk, xs⟩ : Pic).move s).xs.length c3] chartsF.t)
        have sA := Lib.hid (s6.out.all ((Below.refl w6.heap.size w6).alloc (Nat.le_refl _) (.cells #[.int .i64 (((⟨m, kk, xs⟩ : Pic).move s).m : Int), .int .i64 (((⟨m, kk, xs⟩ : Pic).move s).k : Int), .slice A3 ((⟨m, kk, xs⟩ : Pic).move s).xs.length c3] chartsF.t)))
        have HBA := Lib.hid (HB6.out.alloc hzw (.cells #[.int .i64 (((⟨m, kk, xs⟩ : Pic).move s).m : Int), .int .i64 (((⟨m, kk, xs⟩ : Pic).move s).k : Int), .slice A3 ((⟨m, kk, xs⟩ : Pic).move s).xs.length c3] chartsF.t))
        have hz10 : w.heap.size + 1 ≤ (w6.alloc (.cells #[.int .i64 (((⟨m, kk, xs⟩ : Pic).move s).m : Int), .int .i64 (((⟨m, kk, xs⟩ : Pic).move s).k : Int), .slice A3 ((⟨m, kk, xs⟩ : Pic).move s).xs.length c3] chartsF.t)).heap.size := by simp; omega
        have hl8 : hs.length ≤ 8 := by rw [hsl.out]; exact Nat.le_trans seenP_len hs8
        clear o6 x6 R6 own6 s6 HB6 y6
        go_wp2_with (refine wpList_appendF chartsF rfl _ (.tmp 18) (.tmp 20) 53 (.agg #[.int .i64 0, .int .i64 0, .slice none 0 0]) 40 rfl Try.underlying53 info_Chart6 rfl (by decide) (by decide) (w.heap.size + 1) _ hs [⟨(((⟨m, kk, xs⟩ : Pic).move s).m : Int), (((⟨m, kk, xs⟩ : Pic).move s).k : Int), A3, ((⟨m, kk, xs⟩ : Pic).move s).xs.length, c3⟩] w6.heap.size 0 1 1 (w6.heap.size + 1) rfl rfl oA hr (by simp; omega) hz10 ?_)
        intro A7 c7 w7 o7 hg7
        have x7 := xA.mark hg7 (fun k hk e => by have := (oA.bd k hk).1; omega)
        have R7 := RA.mark hg7 (fun k hk => by have := (oA.bd k hk).1; omega) (by simp; omega)
        have s7 := Lib.hid (sA.out.mark oA.1 hg7)
        have own7 := ownA.mark hg7 (fun k k' hk hk' e => by
          subst e
          rcases ownA.1.2 with ⟨e1, _⟩ | ⟨g, cap, cur, e1, _, hgc, _⟩
          · rw [e1] at hk'; cases hk'
          · rw [e1] at hk'; cases hk'
            rcases oA.1.2 with ⟨e2, _⟩ | ⟨g2, cap2, cur2, e2, _, hgc2, _⟩
            · rw [e2] at hk; cases hk
            · rw [e2] at hk; cases hk
              rw [hgc] at hgc2
              simp only [Option.some.injEq, Obj.cells.injEq] at hgc2
              exact absurd hgc2.2.1 (by decide))
        have HB7 := Lib.hid (HBA.out.grown hg7 (by omega) (fun k hk => by have := (oA.bd k hk).1; omega))
        have HN := Lib.hid (show SeenH w7 w.heap.size (hs ++ [⟨(((⟨m, kk, xs⟩ : Pic).move s).m : Int), (((⟨m, kk, xs⟩ : Pic).move s).k : Int), A3, ((⟨m, kk, xs⟩ : Pic).move s).xs.length, c3⟩]) (seenP ⟨m, kk, xs⟩ (s + 1)) by
          rw [seenP_no HD.out]
          exact s7.out.push rfl rfl rfl own7)
        clear oA xA RA ownA sA HBA hr hg7 y60 y61 y62 s7
        go_wp2
        go_roundw
        case rel => exact ⟨s + 1, A7, c7, hs ++ [⟨(((⟨m, kk, xs⟩ : Pic).move s).m : Int), (((⟨m, kk, xs⟩ : Pic).move s).k : Int), A3, ((⟨m, kk, xs⟩ : Pic).move s).xs.length, c3⟩], by omega, by go_num, by rw [List.length_append]; rfl, HN, by rw [List.length_append]; exact o7, x7, R7, HB7⟩
        case measure => simp [intOf]; omega
    · obtain rfl : s = 8 := by omega
      go_wp2
      go_ret
      exact ⟨A, c, hs, rfl, ho.mono (by omega), hse, HB.out⟩
end Go.Proofs.Ytehhidpmbbabeaa
