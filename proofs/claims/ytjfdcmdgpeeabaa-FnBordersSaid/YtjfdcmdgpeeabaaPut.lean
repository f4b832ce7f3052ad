/- The walks of PutPart, the program's and the model's. No condition. -/
import Derived.Test.YtjfdcmdgpeeabaaPutSpec
import Derived.Test.YtjfdcmdgpeeabaaCopyStep
namespace Go.Proofs.Ytjfdcmdgpeeabaa
open Go.RowKit

def putOk (W H : Int) (xs : List Int) (pW pH : Int) (ys : List Int) (row col : Int) : Bool := goodB W H xs && goodB pW pH ys && withinB W H row col pH pW
def putX (W H : Int) (xs : List Int) (pW pH : Int) (ys : List Int) (row col : Int) : List Int := if putOk W H xs pW pH ys row col = true then putL W.toNat H.toNat pW.toNat pH.toNat xs ys row.toNat col.toNat else []
theorem put_yes {W H : Int} {xs : List Int} {pW pH : Int} {ys : List Int} {row col : Int} (h : putOk W H xs pW pH ys row col = true) : goodB W H xs = true ∧ goodB pW pH ys = true ∧ withinB W H row col pH pW = true := by
  simp only [putOk, Bool.and_eq_true] at h
  exact ⟨h.1.1, h.1.2, h.2⟩
theorem put_no {W H : Int} {xs : List Int} {pW pH : Int} {ys : List Int} {row col : Int} (h : ¬ putOk W H xs pW pH ys row col = true) :
    goodB W H xs = false ∨ (goodB W H xs = true ∧ goodB pW pH ys = false) ∨ (goodB W H xs = true ∧ goodB pW pH ys = true ∧ withinB W H row col pH pW = false) := by
  simp only [putOk] at h
  cases h1 : goodB W H xs <;> cases h2 : goodB pW pH ys <;> cases h3 : withinB W H row col pH pW <;> simp_all
theorem put_no2 {W H : Int} {xs : List Int} {pW pH : Int} {ys : List Int} {row col : Int} (h : ¬ putOk W H xs pW pH ys row col = true) :
    goodB pW pH ys = false ∨ (goodB pW pH ys = true ∧ partOk W H xs row col pH pW = false) := by
  simp only [putOk] at h
  simp only [partOk]
  cases h1 : goodB W H xs <;> cases h2 : goodB pW pH ys <;> cases h3 : withinB W H row col pH pW <;> simp_all
theorem putX_len (W H : Int) (xs : List Int) (pW pH : Int) (ys : List Int) (row col : Int) : (putX W H xs pW pH ys row col).length ≤ 1048576 := by
  unfold putX
  split
  · rename_i h
    obtain ⟨m, k, rfl, rfl, m1, m8, k1, k8, _⟩ := good_nat (put_yes h).1
    have := Nat.mul_le_mul k8 m8
    simp only [Int.toNat_natCast]
    rw [putL_len]
    omega
  · simp
/-- What a valid call of PutPart knows. -/
theorem put_nat {W H : Int} {xs : List Int} {pW pH : Int} {ys : List Int} {row col : Int} (h : putOk W H xs pW pH ys row col = true) :
    ∃ m kk pm pk r q : Nat, W = m ∧ H = kk ∧ pW = pm ∧ pH = pk ∧ row = r ∧ col = q ∧ 1 ≤ m ∧ m ≤ 8 ∧ 1 ≤ kk ∧ kk ≤ 8 ∧ 1 ≤ pm ∧ pm ≤ 8 ∧ 1 ≤ pk ∧ pk ≤ 8 ∧ Hid (xs.length = m * kk) ∧ Hid (ys.length = pm * pk) ∧ m * kk ≤ 64 ∧ pm * pk ≤ 64 ∧ 1 ≤ xs.length ∧ 1 ≤ ys.length ∧ xs.length ≤ 64 ∧ ys.length ≤ 64 ∧ r + pk ≤ kk ∧ q + pm ≤ m := by
  obtain ⟨h1, h2, h3⟩ := put_yes h
  obtain ⟨m, kk, rfl, rfl, m1, m8, k1, k8, hl, h64, hl1, _⟩ := good_nat h1
  obtain ⟨pm, pk, rfl, rfl, pm1, pm8, pk1, pk8, hl', h64', hl1', _⟩ := good_nat h2
  obtain ⟨r0, c0, _, _, rh, ck⟩ := withinB_yes h3
  obtain ⟨r, rfl⟩ := Int.eq_ofNat_of_zero_le r0
  obtain ⟨q, rfl⟩ := Int.eq_ofNat_of_zero_le c0
  exact ⟨m, kk, pm, pk, r, q, rfl, rfl, rfl, rfl, rfl, rfl, m1, m8, k1, k8, pm1, pm8, pk1, pk8, hl, hl', Nat.mul_le_mul m8 k8, Nat.mul_le_mul pm8 pk8, hl1, hl1', h64, h64', by omega, by omega⟩
theorem row_src {w : World} {B b off cc m kk r : Nat} {xs : List Int} (h : Rd w B (some ⟨b, off, none⟩) xs.length cc xs) (hl : xs.length = m * kk) (hr : r < kk) :
    ∀ j v, ((rowL m r xs).map (Value.int .i64))[j]? = some v → w.cell? ((⟨b, off + r * m, none⟩ : Addr).add j) = some v := by
  intro j v hv
  have hrl := rowL_len hl hr
  have hj : j < m := by have := (List.getElem?_eq_some_iff.1 hv).1; rw [List.length_map, hrl] at this; exact this
  have hlt := at_lt hl hr hj
  obtain ⟨_, _, e, _, hc⟩ := h.cells (by omega)
  cases e
  have e : (⟨b, off + r * m, none⟩ : Addr).add j = ⟨b, off + (r * m + j), none⟩ := by
    unfold Addr.add
    split
    · rename_i h0; subst h0; simp
    · simp [Nat.add_assoc]
  rw [e, hc _ hlt]
  have hx : (rowL m r xs)[j]? = some (xs.getD (r * m + j) 0) := by
    rw [List.getElem?_eq_getElem (by rw [hrl]; exact hj), ← getD_at, rowL_get hj]
  rw [List.getElem?_map, hx] at hv
  exact hv
theorem rowOf_f (m k r b off n c : Nat) (w : World) (h : n = m * k) (hc : n ≤ c) (hcm : c ≤ maxLen) (hm : 1 ≤ m) (hm8 : m ≤ 8) (hr : r < k) (hk8 : k ≤ 8) (i : Int) (hi : i = r) :
    Calls Try.prog 46 #[chartV m k (.slice (some ⟨b, off, none⟩) n c), .int .i64 i] w (Out w (.slice (some ⟨b, off + r * m, none⟩) m (c - r * m))) := by
  subst hi
  have := rowOf_any m k r b off c (List.replicate n 0) w (by rw [List.length_replicate]; exact h) (by rw [List.length_replicate]; exact hc) hcm hm hm8 hr hk8
  rwa [List.length_replicate] at this
theorem rowOf_f0 (m k r b n c : Nat) (w : World) (h : n = m * k) (hc : n ≤ c) (hcm : c ≤ maxLen) (hm : 1 ≤ m) (hm8 : m ≤ 8) (hr : r < k) (hk8 : k ≤ 8) (i : Int) (hi : i = r) :
    Calls Try.prog 46 #[chartV m k (.slice (some ⟨b, 0, none⟩) n c), .int .i64 i] w (Out w (.slice (some ⟨b, r * m, none⟩) m (c - r * m))) := by
  have := rowOf_f m k r b 0 n c w h hc hcm hm hm8 hr hk8 i hi
  rwa [Nat.zero_add] at this
set_option maxRecDepth 100000 in
set_option maxHeartbeats 4000000 in
theorem implPutPart_yes (m kk pm pk b off cc B b' off' cc' B' r q : Nat) (xs ys : List Int) (w : World) (hR : Rd w B (some ⟨b, off, none⟩) xs.length cc xs) (hR' : Rd w B' (some ⟨b', off', none⟩) ys.length cc' ys) (hB : B ≤ w.heap.size) (hB' : B' ≤ w.heap.size)
    (m1 : 1 ≤ m) (m8 : m ≤ 8) (k1 : 1 ≤ kk) (kk8 : kk ≤ 8) (pm1 : 1 ≤ pm) (pm8 : pm ≤ 8) (pk8 : pk ≤ 8) (hl : Hid (xs.length = m * kk)) (hl' : Hid (ys.length = pm * pk)) (hx64 : xs.length ≤ 64) (hl1 : 1 ≤ xs.length) (hr : r + pk ≤ kk) (hq : q + pm ≤ m) (hg : goodB m kk xs = true) (hg' : goodB pm pk ys = true) (hw : withinB m kk r q pk pm = true) :
    Calls Try.prog 30 #[chartV m kk (.slice (some ⟨b, off, none⟩) xs.length cc), chartV pm pk (.slice (some ⟨b', off', none⟩) ys.length cc'), .int .i64 r, .int .i64 q] w (OutChart w m kk (putL m kk pm pk xs ys r q) true) := by
  obtain ⟨i0, hi, hz0, hz1, hz2⟩ := info_parts info_int
  have hsz : (Try.prog.info? 3).map (·.size) = some 1 := by rw [hi]; exact congrArg some hz1
  have hb0 := Lib.hid ((((Below.refl w.heap.size w).alloc (Nat.le_refl _) (.cells #[.int .i64 m, .int .i64 kk, .slice (some ⟨b, off, none⟩) xs.length cc] 26)).alloc (by simp) (.cells #[.int .i64 pm, .int .i64 pk, .slice (some ⟨b', off', none⟩) ys.length cc'] 26)).alloc (by simp; omega) (.cells #[.int .i64 0, .int .i64 0, .slice none 0 0] 26))
  have h1 := Lib.hid (((hR.alloc hB (.cells #[.int .i64 m, .int .i64 kk, .slice (some ⟨b, off, none⟩) xs.length cc] 26)).alloc (by simp; omega) (.cells #[.int .i64 pm, .int .i64 pk, .slice (some ⟨b', off', none⟩) ys.length cc'] 26)).alloc (by simp; omega) (.cells #[.int .i64 0, .int .i64 0, .slice none 0 0] 26))
  have h2 := Lib.hid (((hR'.alloc hB' (.cells #[.int .i64 m, .int .i64 kk, .slice (some ⟨b, off, none⟩) xs.length cc] 26)).alloc (by simp; omega) (.cells #[.int .i64 pm, .int .i64 pk, .slice (some ⟨b', off', none⟩) ys.length cc'] 26)).alloc (by simp; omega) (.cells #[.int .i64 0, .int .i64 0, .slice none 0 0] 26))
  have x0 := (((Blk.new w #[.int .i64 m, .int .i64 kk, .slice (some ⟨b, off, none⟩) xs.length cc] 26).alloc (.cells #[.int .i64 pm, .int .i64 pk, .slice (some ⟨b', off', none⟩) ys.length cc'] 26)).alloc (.cells #[.int .i64 0, .int .i64 0, .slice none 0 0] 26))
  have p0 := (((Blk.new (w.alloc (.cells #[.int .i64 m, .int .i64 kk, .slice (some ⟨b, off, none⟩) xs.length cc] 26)) #[.int .i64 pm, .int .i64 pk, .slice (some ⟨b', off', none⟩) ys.length cc'] 26).alloc (.cells #[.int .i64 0, .int .i64 0, .slice none 0 0] 26)).at_ (q := w.heap.size + 1) (by simp))
  have r0 := ((Blk.new ((w.alloc (.cells #[.int .i64 m, .int .i64 kk, .slice (some ⟨b, off, none⟩) xs.length cc] 26)).alloc (.cells #[.int .i64 pm, .int .i64 pk, .slice (some ⟨b', off', none⟩) ys.length cc'] 26)) #[.int .i64 0, .int .i64 0, .slice none 0 0] 26).at_ (q := w.heap.size + 1 + 1) (by simp))
  have hcap := hR'.cap
  have hmax := hR'.max
  clear hR hR'
  go_enter Try.func30, Try.ntmps30
  go_wp2_with fail
  refine (implIsChart_any m kk _ _ cc B xs _ h1.out (by simp; omega)).mono ?_
  rintro e wA ⟨rfl, hb⟩
  have rA := r0.all hb
  have xA := x0.all hb
  have pA := p0.all hb
  have R1A := Lib.hid (h1.out.all hb (by simp; omega))
  have R2A := h2.out.all hb (by simp; omega)
  have HBA := Lib.hid (hb0.out.trans (hb.mono (by simp; omega)))
  have hsA : w.heap.size + 3 ≤ wA.heap.size := by have := hb.size; simp at this; omega
  have e0 := pA.cell 0
  have e1 := pA.cell 1
  have e2 := pA.cell 2
  clear hb r0 x0 p0 h1 h2 hb0
  rw [hg]
  go_wp2_with fail
  refine (implIsChart_any pm pk _ _ cc' B' ys _ R2A (by omega)).mono ?_
  rintro e wC ⟨rfl, hb⟩
  have rC := rA.all hb
  have xC := xA.all hb
  have pC := pA.all hb
  have R1C := Lib.hid (R1A.out.all hb (by omega))
  have R2C := R2A.all hb (by omega)
  have HBC := Lib.hid (HBA.out.trans (hb.mono (by omega)))
  have hsC : w.heap.size + 3 ≤ wC.heap.size := by have := hb.size; omega
  clear hb rA xA pA R1A R2A HBA e0 e1 e2
  have e0 := pC.cell 0
  have e1 := pC.cell 1
  have f0 := xC.cell 0
  have f1 := xC.cell 1
  have f2 := xC.cell 2
  rw [hg']
  go_wp2_with fail
  refine (isWithin_any m kk r q pk pm _ _ (by omega) (by omega) ⟨by omega, by omega⟩ ⟨by omega, by omega⟩).mono ?_
  rintro e wD ⟨rfl, hb⟩
  have rD := rC.all hb
  have xD := xC.all hb
  have pD := pC.all hb
  have R1D := R1C.out.all hb (by omega)
  have R2D := R2C.all hb (by omega)
  have HBD := Lib.hid (HBC.out.trans (hb.mono (by omega)))
  have hsD : w.heap.size + 3 ≤ wD.heap.size := by have := hb.size; omega
  clear hb rC xC pC R1C R2C HBC e0 e1 f0 f1 f2
  have f0 := xD.cell 0
  have f1 := xD.cell 1
  have f2 := xD.cell 2
  rw [hw]
  go_wp2_with fail
  refine (copyChart_any m kk _ _ cc B xs _ R1D (by omega) (by omega)).mono ?_
  rintro e w1 ⟨A', c', rfl, own, hb⟩
  obtain ⟨g, rfl, hg1, hg2⟩ := own.some_ (by omega)
  have r1 := rD.all hb
  have x1 := xD.all hb
  have p1 := pD.all hb
  have R1 := R2D.all hb (by omega)
  have HB := Lib.hid (HBD.out.trans (hb.mono (by omega)))
  have hs1 : w.heap.size + 3 ≤ w1.heap.size := by have := hb.size; omega
  have hg3 : w.heap.size + 3 ≤ g := by omega
  replace own := own.mono (show w.heap.size ≤ _ by omega)
  have hcap2 := own.rd.cap
  have hmax2 := own.rd.max
  clear hb rD xD pD R1D R2D HBD hg1 f0 f1 f2
  have lim1 := p1.cell 1
  have hplt := p1.lt
  go_wp2
  have own0 := own.alloc (.cells #[.int .i64 m, .int .i64 kk, .slice (some ⟨g, 0, none⟩) xs.length c'] 26)
  go_loopw [36, 11] (fun s36 s11 wr => ∃ (i : Nat) (zs : List Int), i ≤ pk ∧ s36 = .int .i64 i ∧ Hid (PutTo m kk pm xs ys r q i 0 zs) ∧ Own wr w.heap.size (.slice (some ⟨g, 0, none⟩) xs.length c') zs ∧
      Blk wr (w.heap.size + 1 + 1) 26 #[.int .i64 0, .int .i64 0, .slice none 0 0] ∧ Blk wr w1.heap.size 26 #[.int .i64 m, .int .i64 kk, .slice (some ⟨g, 0, none⟩) xs.length c'] ∧
      Blk wr (w.heap.size + 1) 26 #[.int .i64 pm, .int .i64 pk, .slice (some ⟨b', off', none⟩) ys.length cc'] ∧ Rd wr B' (some ⟨b', off', none⟩) ys.length cc' ys ∧ Below w.heap.size w wr)
    (fun s36 _ _ => pk - (intOf s36).toNat)
  case atStart => exact ⟨0, xs, Nat.zero_le _, rfl, Lib.hid (put_start hl.out), own0, r1.alloc _, Blk.new _ _ _, p1.alloc _, R1.alloc (by omega) _, HB.out.alloc (by omega) _⟩
  case round =>
    obtain ⟨i, zs, hi', rfl, hput, ho, r3, f3, p3, R3, hbl⟩ := hrel
    have HB3 := Lib.hid hbl
    have hbz := hbl.size
    clear hbl own own0 HB r1 x1 p1 R1
    by_cases hlt : i < pk
    · go_wp2
      have p30 := p3.cell 0
      have p31 := p3.cell 1
      have p32 := p3.cell 2
      have f30 := f3.cell 0
      have f31 := f3.cell 1
      have f32 := f3.cell 2
      have hzf := f3.lt
      have hzp := p3.lt
      have hri : r + i < kk := by omega
      have HRI := Lib.hid (show IntKind.i64.wrap ((r : Int) + (i : Int)) = ((r + i : Nat) : Int) by rw [IntWalk.i64_in _ (by omega)]; omega)
      have hrow := row_le hl.out hri
      have hqc : q ≤ m := by omega
      have hqi : (q : Int) ≤ (m : Int) := by omega
      have hq0 : (0 : Int) ≤ (q : Int) := by omega
      have hqcap : q ≤ c' - (r + i) * m := by omega
      have hcne : ¬ c' - (r + i) * m = q := by omega
      have hzl : zs.length = xs.length := hput.out.1.trans hl.out.symm
      have hrl : (rowL pm i ys).length = pm := rowL_len hl'.out hlt
      have HN := Lib.hid (show (rowL pm i ys).length = Nat.min pm (m - q) by rw [hrl]; exact (Nat.min_eq_left (by omega)).symm)
      have HF := Lib.hid (show (r + i) * m + q + (rowL pm i ys).length ≤ zs.length by rw [hrl, hzl]; omega)
      have HI := Lib.hid (show ∀ x ∈ rowL pm i ys, I64 x from fun x hx => R3.fits x (List.mem_of_mem_drop (List.mem_of_mem_take hx)))
      have HM := Lib.hid (put_row hput.out hri hq hrl (fun j hj => by rw [rowL_get hj]; rfl))
      clear hrl hzl
      go_region_law (first | (refine step_copy_own rfl (.tmp 45) (.tmp 48) 24 24 rfl Try.underlying24 hsz w.heap.size g ((r + i) * m + q) xs.length c' (m - q) (c' - (r + i) * m - q) ⟨b', off' + i * pm, none⟩ pm (cc' - i * pm) rfl rfl zs (rowL pm i ys) ob HN.out HSb.out HF.out HI.out ?_; intro w5 o5 hg5; have r5 := rb.mark hg5 (fun z hz => by cases hz; omega); have f5 := fb.mark hg5 (row_ne ob.1 fb (by decide)); have p5 := pb.mark hg5 (fun z hz => by cases hz; omega); have R5 := Rb.mark hg5 (fun z hz => by cases hz; omega) (Nat.le_trans hB' hzb); have HB5 := Lib.hid (HBb.out.grown hg5 hzb (fun z hz => by cases hz; omega))) | (go_simp; go_at_call 46; (with_reducible refine (rowOf_f0 m kk (r + i) g xs.length c' wr.drew hl.out hcap2 hmax2 m1 m8 hri kk8 (IntKind.i64.wrap ((r : Int) + (i : Int))) HRI.out).mono ?_); rintro e wa ⟨rfl, hba⟩; have hb6 : Below wr.heap.size wr wa := below_drew hba; have hz6 : wr.heap.size ≤ wa.heap.size := hb6.size; have oa := ho.all hb6; have fa := f3.all hb6; have pa := p3.all hb6; have pa0 := pa.cell 0; have pa1 := pa.cell 1; have pa2 := pa.cell 2; have ra := r3.all hb6; have Ra := R3.all hb6 (Nat.le_trans hB' hbz); have HBa := Lib.hid (HB3.out.trans (hb6.mono hbz)); have hza : w.heap.size ≤ wa.heap.size := Nat.le_trans hbz hz6) | (go_simp; go_at_call 46; (with_reducible refine (rowOf_f pm pk i b' off' ys.length cc' wa hl'.out hcap hmax pm1 pm8 hlt pk8 (i : Int) rfl).mono ?_); rintro e wb ⟨rfl, hbb⟩; have ob := oa.all hbb; have fb := fa.all hbb; have rb := ra.all hbb; have pb := pa.all hbb; have Rb := Ra.all hbb (Nat.le_trans hB' hza); have HBb := Lib.hid (HBa.out.trans (hbb.mono hza)); have hzb : w.heap.size ≤ wb.heap.size := Nat.le_trans hza hbb.size; have HSb := Lib.hid (row_src Rb hl'.out hlt)))
      all_goals
        go_wp2
        go_roundw
        case rel => exact ⟨i + 1, _, by omega, by go_num, HM, o5, r5, f5, p5, R5, HB5.out⟩
        case measure => simp [intOf]; omega
    · obtain rfl : i = pk := by omega
      obtain rfl := put_end hput.out
      have f0 := f3.cell 0
      have f1 := f3.cell 1
      have f2' := f3.cell 2
      have g0 := r3.cell 0
      have g1 := r3.cell 1
      have g2 := r3.cell 2
      have z0 := r3.frozen 0
      have z1 := r3.frozen 1
      have z2 := r3.frozen 2
      have HML := Lib.hid (show (putL m kk pm i xs ys r q).length = xs.length by rw [putL_len, Nat.mul_comm]; exact hl.out.symm)
      have F := fin3 (p := w.heap.size + 1 + 1) (a := .int .i64 m) (b := .int .i64 kk) (c := .slice (some ⟨g, 0, none⟩) xs.length c') ho (by simp [Value.ownBlock]; omega) HB3.out (by omega)
      go_wp2
      exact bodyPost_ret (v := .tuple #[chartV m kk (.slice (some ⟨g, 0, none⟩) xs.length c'), .bool true]) (by simp [results, Try.results30, go_sem, g0, g1, g2]) rfl ⟨_, c', by rw [HML.out], by rw [HML.out]; exact F.1, F.2⟩
set_option maxRecDepth 100000 in
set_option maxHeartbeats 2000000 in
theorem implPutPart_any (W H : Int) (A : Option Addr) (n c B : Nat) (xs : List Int) (pW pH : Int) (A' : Option Addr) (n' c' B' : Nat) (ys : List Int) (row col : Int) (w : World) (hR : Rd w B A n c xs) (hR' : Rd w B' A' n' c' ys) (hB : B ≤ w.heap.size) (hB' : B' ≤ w.heap.size) (i1 : I64 row) (i2 : I64 col) :
    Calls Try.prog 30 #[chartV W H (.slice A n c), chartV pW pH (.slice A' n' c'), .int .i64 row, .int .i64 col] w (OutChart w (orZero (putOk W H xs pW pH ys row col) W) (orZero (putOk W H xs pW pH ys row col) H) (putX W H xs pW pH ys row col) (putOk W H xs pW pH ys row col)) := by
  by_cases h : putOk W H xs pW pH ys row col = true
  · rw [putX, if_pos h, h]
    obtain ⟨h1, h2, h3⟩ := put_yes h
    obtain ⟨m, kk, pm, pk, r, q, rfl, rfl, rfl, rfl, rfl, rfl, m1, m8, k1, k8, pm1, pm8, pk1, pk8, hl, hl', h64, h64', hl1, hl1', hx64, hy64, hr, hq⟩ := put_nat h
    simp only [Int.toNat_natCast]
    obtain rfl := hR.len
    obtain rfl := hR'.len
    obtain ⟨b, off, rfl, _, _⟩ := hR.cells (by omega)
    obtain ⟨b', off', rfl, _, _⟩ := hR'.cells (by omega)
    exact implPutPart_yes m kk pm pk b off c B b' off' c' B' r q xs ys w hR hR' hB hB' m1 m8 k1 k8 pm1 pm8 pk8 hl hl' hx64 hl1 hr hq h1 h2 h3
  · rw [putX, if_neg h, not_false h]
    have hb0 := Lib.hid ((((Below.refl w.heap.size w).alloc (Nat.le_refl _) (.cells #[.int .i64 W, .int .i64 H, .slice A n c] 26)).alloc (by simp) (.cells #[.int .i64 pW, .int .i64 pH, .slice A' n' c'] 26)).alloc (by simp; omega) (.cells #[.int .i64 0, .int .i64 0, .slice none 0 0] 26))
    have h1 := Lib.hid (((hR.alloc hB (.cells #[.int .i64 W, .int .i64 H, .slice A n c] 26)).alloc (by simp; omega) (.cells #[.int .i64 pW, .int .i64 pH, .slice A' n' c'] 26)).alloc (by simp; omega) (.cells #[.int .i64 0, .int .i64 0, .slice none 0 0] 26))
    have h2 := Lib.hid (((hR'.alloc hB' (.cells #[.int .i64 W, .int .i64 H, .slice A n c] 26)).alloc (by simp; omega) (.cells #[.int .i64 pW, .int .i64 pH, .slice A' n' c'] 26)).alloc (by simp; omega) (.cells #[.int .i64 0, .int .i64 0, .slice none 0 0] 26))
    have x0 := (((Blk.new w #[.int .i64 W, .int .i64 H, .slice A n c] 26).alloc (.cells #[.int .i64 pW, .int .i64 pH, .slice A' n' c'] 26)).alloc (.cells #[.int .i64 0, .int .i64 0, .slice none 0 0] 26))
    have p0 := (((Blk.new (w.alloc (.cells #[.int .i64 W, .int .i64 H, .slice A n c] 26)) #[.int .i64 pW, .int .i64 pH, .slice A' n' c'] 26).alloc (.cells #[.int .i64 0, .int .i64 0, .slice none 0 0] 26)).at_ (q := w.heap.size + 1) (by simp))
    have r0 := ((Blk.new ((w.alloc (.cells #[.int .i64 W, .int .i64 H, .slice A n c] 26)).alloc (.cells #[.int .i64 pW, .int .i64 pH, .slice A' n' c'] 26)) #[.int .i64 0, .int .i64 0, .slice none 0 0] 26).at_ (q := w.heap.size + 1 + 1) (by simp))
    clear hR hR'
    rcases put_no h with hg | ⟨hg, hg'⟩ | ⟨hg, hg', hw⟩
    · clear h
      go_enter Try.func30, Try.ntmps30
      go_wp2_with fail
      refine (implIsChart_any W H A n c B xs _ h1.out (by simp; omega)).mono ?_
      rintro e wA ⟨rfl, hb⟩
      have rA := r0.all hb
      have xA := x0.all hb
      have pA := p0.all hb
      have R1A := Lib.hid (h1.out.all hb (by simp; omega))
      have R2A := Lib.hid (h2.out.all hb (by simp; omega))
      have HBA := Lib.hid (hb0.out.trans (hb.mono (by simp; omega)))
      have hsA : w.heap.size + 3 ≤ wA.heap.size := by have := hb.size; simp at this; omega
      clear hb
      rw [hg]
      have g0 := rA.cell 0
      have g1 := rA.cell 1
      have g2 := rA.cell 2
      have z0 := rA.frozen 0
      have z1 := rA.frozen 1
      have z2 := rA.frozen 2
      go_wp2_with fail
      have F := fin3 (p := w.heap.size + 1 + 1) (a := .int .i64 0) (b := .int .i64 0) (c := .slice none 0 0) (Own.nil wA w.heap.size) (by simp [Value.ownBlock]) HBA.out (by omega)
      exact bodyPost_ret (v := .tuple #[chartV 0 0 (.slice none 0 0), .bool false]) (by simp [results, Try.results30, go_sem, g0, g1, g2]) rfl ⟨none, 0, rfl, F.1, F.2⟩
    · clear h
      go_enter Try.func30, Try.ntmps30
      go_wp2_with fail
      refine (implIsChart_any W H A n c B xs _ h1.out (by simp; omega)).mono ?_
      rintro e wA ⟨rfl, hb⟩
      have rA := r0.all hb
      have xA := x0.all hb
      have pA := p0.all hb
      have R1A := Lib.hid (h1.out.all hb (by simp; omega))
      have R2A := Lib.hid (h2.out.all hb (by simp; omega))
      have HBA := Lib.hid (hb0.out.trans (hb.mono (by simp; omega)))
      have hsA : w.heap.size + 3 ≤ wA.heap.size := by have := hb.size; simp at this; omega
      clear hb
      have e0 := pA.cell 0
      have e1 := pA.cell 1
      have e2 := pA.cell 2
      rw [hg]
      go_wp2_with fail
      refine (implIsChart_any pW pH A' n' c' B' ys _ R2A.out (by omega)).mono ?_
      rintro e wC ⟨rfl, hb⟩
      have rC := rA.all hb
      have xC := xA.all hb
      have pC := pA.all hb
      have R1C := Lib.hid (R1A.out.all hb (by omega))
      have R2C := Lib.hid (R2A.out.all hb (by omega))
      have HBC := Lib.hid (HBA.out.trans (hb.mono (by omega)))
      have hsC : w.heap.size + 3 ≤ wC.heap.size := by have := hb.size; omega
      clear hb
      rw [hg']
      have g0 := rC.cell 0
      have g1 := rC.cell 1
      have g2 := rC.cell 2
      have z0 := rC.frozen 0
      have z1 := rC.frozen 1
      have z2 := rC.frozen 2
      go_wp2_with fail
      have F := fin3 (p := w.heap.size + 1 + 1) (a := .int .i64 0) (b := .int .i64 0) (c := .slice none 0 0) (Own.nil wC w.heap.size) (by simp [Value.ownBlock]) HBC.out (by omega)
      exact bodyPost_ret (v := .tuple #[chartV 0 0 (.slice none 0 0), .bool false]) (by simp [results, Try.results30, go_sem, g0, g1, g2]) rfl ⟨none, 0, rfl, F.1, F.2⟩
    · have hWH := goodB_yes hg
      obtain ⟨hW, hH, _, _⟩ := hWH
      clear h
      go_enter Try.func30, Try.ntmps30
      go_wp2_with fail
      refine (implIsChart_any W H A n c B xs _ h1.out (by simp; omega)).mono ?_
      rintro e wA ⟨rfl, hb⟩
      have rA := r0.all hb
      have xA := x0.all hb
      have pA := p0.all hb
      have R1A := Lib.hid (h1.out.all hb (by simp; omega))
      have R2A := Lib.hid (h2.out.all hb (by simp; omega))
      have HBA := Lib.hid (hb0.out.trans (hb.mono (by simp; omega)))
      have hsA : w.heap.size + 3 ≤ wA.heap.size := by have := hb.size; simp at this; omega
      clear hb
      have e0 := pA.cell 0
      have e1 := pA.cell 1
      have e2 := pA.cell 2
      rw [hg]
      go_wp2_with fail
      refine (implIsChart_any pW pH A' n' c' B' ys _ R2A.out (by omega)).mono ?_
      rintro e wC ⟨rfl, hb⟩
      have rC := rA.all hb
      have xC := xA.all hb
      have pC := pA.all hb
      have R1C := Lib.hid (R1A.out.all hb (by omega))
      have R2C := Lib.hid (R2A.out.all hb (by omega))
      have HBC := Lib.hid (HBA.out.trans (hb.mono (by omega)))
      have hsC : w.heap.size + 3 ≤ wC.heap.size := by have := hb.size; omega
      clear hb
      clear e0 e1 e2
      have e0 := pC.cell 0
      have e1 := pC.cell 1
      have e2 := pC.cell 2
      have f0 := xC.cell 0
      have f1 := xC.cell 1
      have f2 := xC.cell 2
      rw [hg']
      go_wp2_with fail
      refine (isWithin_any W H row col pH pW _ _ hW hH i1 i2).mono ?_
      rintro e wD ⟨rfl, hb⟩
      have rD := rC.all hb
      have HBD := Lib.hid (HBC.out.trans (hb.mono (by omega)))
      clear hb
      rw [hw]
      have g0 := rD.cell 0
      have g1 := rD.cell 1
      have g2 := rD.cell 2
      have z0 := rD.frozen 0
      have z1 := rD.frozen 1
      have z2 := rD.frozen 2
      go_wp2_with fail
      have F := fin3 (p := w.heap.size + 1 + 1) (a := .int .i64 0) (b := .int .i64 0) (c := .slice none 0 0) (Own.nil wD w.heap.size) (by simp [Value.ownBlock]) HBD.out (by omega)
      exact bodyPost_ret (v := .tuple #[chartV 0 0 (.slice none 0 0), .bool false]) (by simp [results, Try.results30, go_sem, g0, g1, g2]) rfl ⟨none, 0, rfl, F.1, F.2⟩
end Go.Proofs.Ytjfdcmdgpeeabaa
