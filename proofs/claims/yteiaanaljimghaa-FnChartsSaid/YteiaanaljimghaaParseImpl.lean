/- The walk of the program's ParseChart. No condition. -/
import Derived.Test.YteiaanaljimghaaParseSpec
namespace Go.Proofs.Yteiaanaljimghaa
open Go.RowKit

def kR (s : ByteArray) (r : Nat) : List Int := ((readRows s).take r).flatten.map colorOf
def kX (s x : ByteArray) (r j : Nat) : List Int := kR s r ++ (x.data.toList.take j).map colorOf
theorem kR_succ {s x : ByteArray} {r : Nat} (h : (readRows s)[r]? = some x.data.toList) : kR s (r + 1) = kR s r ++ x.data.toList.map colorOf := by
  obtain ⟨hlt, e⟩ := List.getElem?_eq_some_iff.1 h
  unfold kR
  rw [List.take_succ_eq_append_getElem hlt, List.flatten_append, List.map_append, e]
  simp
theorem kX_step {s x : ByteArray} {r j : Nat} (h : j < x.size) : kX s x r (j + 1) = kX s x r j ++ [colorOf x[j]] := by
  unfold kX
  rw [takeS x j h, List.map_append, List.append_assoc]; rfl
theorem kX_end {s x : ByteArray} {r j : Nat} (h : (readRows s)[r]? = some x.data.toList) (hj : ¬ j < x.size) : kX s x r j = kR s (r + 1) := by
  unfold kX
  rw [takeAllS x j hj, kR_succ h]
theorem kX_start (s x : ByteArray) (r : Nat) : kX s x r 0 = kR s r := by simp [kX]
theorem kR_all (s : ByteArray) : kR s (readRows s).length = readK s := by
  unfold kR
  rw [List.take_length, readK_flat]
theorem kR_len (s : ByteArray) (r : Nat) : (kR s r).length ≤ s.size := by
  have h : ((readRows s).take r).flatten.length + ((readRows s).drop r).flatten.length = (readRows s).flatten.length := by
    rw [← List.length_append, ← List.flatten_append, List.take_append_drop]
  have h2 : (readRows s).flatten.length ≤ s.size := by
    unfold readRows splitL
    rw [split_flat, List.nil_append, ← sizeL s]
    exact List.length_filter_le _ _
  unfold kR
  rw [List.length_map]; omega
theorem kX_len {s x : ByteArray} {r : Nat} (h : (readRows s)[r]? = some x.data.toList) (j : Nat) : (kX s x r j).length ≤ s.size := by
  have := kR_len s (r + 1)
  rw [kR_succ h, List.length_append] at this
  unfold kX
  rw [List.length_append, List.length_map, List.length_take]
  rw [List.length_map] at this
  omega
theorem read_rows (s : ByteArray) (h : s.size ≤ 4000) : (splitX s ⟨#[47]⟩).map (·.data.toList) = readRows s := by
  rw [splitX_yes ⟨h, rfl⟩, List.map_map]
  have : ((fun x : ByteArray => x.data.toList) ∘ fun l : List UInt8 => (⟨l.toArray⟩ : ByteArray)) = id := by funext x; simp
  rw [this, List.map_id]; rfl

set_option maxRecDepth 100000 in
set_option maxHeartbeats 8000000 in
theorem implParseChart_any (s : ByteArray) (w : World) (hs : s.size ≤ maxLen) : Calls Try.prog 9 #[.string s] w (OutChart w (orZero (readOk s) (readM s)) (orZero (readOk s) (readH s)) (readX s) (readOk s)) := by
  have hsp : Hid (∀ w : World, Calls Try.prog 43 #[.string s, .string ⟨#[47]⟩] w (OutF strF w (splitX s ⟨#[47]⟩) (splitOk s ⟨#[47]⟩))) := Lib.hid fun w => implSplitString_any s ⟨#[47]⟩ w hs (by decide)
  unfold maxLen at hs
  have hb0 := (Below.refl w.heap.size w).alloc (Nat.le_refl _) (.cells #[.int .i64 0, .int .i64 0, .slice none 0 0] 26)
  have r0 := Blk.new w #[.int .i64 0, .int .i64 0, .slice none 0 0] 26
  by_cases h4 : s.size ≤ 4000
  · have hP := read_rows s h4
    obtain ⟨x0, hx0, hxm, hPl⟩ := readRows_head s hP
    obtain ⟨P, hPP⟩ : ∃ P, splitX s ⟨#[47]⟩ = P := ⟨_, rfl⟩
    rw [hPP] at hP hsp hx0 hPl
    rw [show splitOk s ⟨#[47]⟩ = true from decide_eq_true ⟨h4, rfl⟩] at hsp
    have hmem := (splitX_bd s ⟨#[47]⟩).1
    rw [hPP] at hmem
    have hP1 : 1 ≤ P.length := by have := readRows_ne s; have : readH s = (readRows s).length := rfl; omega
    have hM4 : readM s ≤ 4000 := by rw [← hxm]; exact hmem _ (List.mem_of_getElem? hx0)
    have hPn := (splitX_bd s ⟨#[47]⟩).2
    rw [hPP] at hPn
    obtain ⟨M, hM⟩ : ∃ M, readM s = M := ⟨_, rfl⟩
    obtain ⟨H, hH⟩ : ∃ H, readH s = H := ⟨_, rfl⟩
    rw [hM] at hxm hM4
    rw [hH] at hPl
    have hH1 : 1 ≤ H := by omega
    have HM := Lib.hid hM
    have HH := Lib.hid hH
    have HP := Lib.hid hP
    have HX0 := Lib.hid hx0
    have HME := Lib.hid hmem
    clear hM hH hP hx0 hPP hmem
    go_enter Try.func9, Try.ntmps9
    go_wp2_with fail
    refine (hsp.out _).mono ?_
    rintro e w1 ⟨A, c, rfl, hO, hb⟩
    have hb1 := hb0.trans (hb.mono (by simp))
    have r1 := r0.all hb
    have hz1 := r1.lt
    obtain ⟨b, off, y0, rfl, hbB, hy0, hc0, HY⟩ := strs_at hO.rd (j := 0) (by omega)
    obtain rfl : x0 = y0 := Option.some.inj (HX0.out.symm.trans HY.out)
    rw [Nat.add_zero] at hc0
    have R1 := hO.rd
    rw [hPl] at R1
    clear HY HX0 hb0 r0 hb hO
    obtain ⟨g, hg⟩ : ∃ g, w1.heap.size = g := ⟨_, rfl⟩
    have x2 := Blk.new w1 #[.int .i64 M, .int .i64 H, .slice none 0 0] 26
    rw [hg] at x2
    have r2 := r1.alloc (.cells #[.int .i64 M, .int .i64 H, .slice none 0 0] 26)
    have hb2 := hb1.alloc (by omega) (.cells #[.int .i64 M, .int .i64 H, .slice none 0 0] 26)
    have R2 := R1.alloc (Nat.le_refl _) (.cells #[.int .i64 M, .int .i64 H, .slice none 0 0] 26)
    have hgw : w.heap.size < g := by omega
    rw [hg] at R2
    go_wp2
    go_loopw [27, 8, 9] (fun i _ _ wr => ∃ (r : Nat) (A : Option Addr) (c' : Nat), r ≤ H ∧ i = .int .i64 r ∧ Own wr g (.slice A (kR s r).length c') (kR s r) ∧
        Blk wr g 26 #[.int .i64 M, .int .i64 H, .slice A (kR s r).length c'] ∧ Blk wr w.heap.size 26 #[.int .i64 0, .int .i64 0, .slice none 0 0] ∧ RdF strF wr g (some ⟨b, off, none⟩) H c P ∧ Below w.heap.size w wr ∧ (∀ q, q < r → ∃ l, (readRows s)[q]? = some l ∧ l.length = M))
      (fun i _ _ _ => H - (intOf i).toNat)
    case atStart => exact ⟨0, none, 0, Nat.zero_le _, rfl, Own.nil _ _, x2, r2, R2, hb2, fun q hq => by omega⟩
    case round =>
      obtain ⟨r, A3, c3, hr, rfl, ho3, x3, r3, R3, hbl, hall⟩ := hrel
      have HB3 := Lib.hid hbl
      have HAL := Lib.hid hall
      have hbz := hbl.size
      have hgz := x3.lt
      clear hbl hall x2 r2 hb2 hc0 hb1 r1 R1 R2
      by_cases hlt : r < H
      · obtain ⟨_, _, x, e, hbg, hxs, hcx, HXR⟩ := strs_at R3 hlt
        cases e
        have hrow : (readRows s)[r]? = some x.data.toList := by rw [← HP.out, List.getElem?_map, HXR.out]; rfl
        have HRW := Lib.hid hrow
        have hx4 : x.size ≤ 4000 := HME.out x (List.mem_of_getElem? HXR.out)
        have f0 := x3.cell 0
        clear hrow
        by_cases hxM : x.size = M
        · have hxq : ((x.size : Int) != (M : Int)) = false := by rw [hxM]; simp
          clear hxm
          subst hxM
          have hlr' := kX_len HRW.out
          have HKL := Lib.hid hlr'
          have K0 := kX_start s x r
          rw [← K0] at ho3 x3
          have HK0 := Lib.hid K0
          clear K0 hlr'
          obtain ⟨wo, rfl⟩ : ∃ wo : World, wo = wr := ⟨_, rfl⟩
          go_wp2
          clear f0 hcx
          go_loopw [39, 9] (fun i _ wi => ∃ (j : Nat) (A : Option Addr) (c' : Nat), j ≤ x.size ∧ i = .int .i64 j ∧ Own wi g (.slice A (kX s x r j).length c') (kX s x r j) ∧
              Blk wi g 26 #[.int .i64 x.size, .int .i64 H, .slice A (kX s x r j).length c'] ∧ Blk wi w.heap.size 26 #[.int .i64 0, .int .i64 0, .slice none 0 0] ∧ RdF strF wi g (some ⟨b, off, none⟩) H c P ∧ Below w.heap.size w wi)
            (fun i _ _ => x.size - (intOf i).toNat)
          case atStart => exact ⟨0, A3, c3, Nat.zero_le _, rfl, ho3, x3, r3, R3, HB3.out⟩
          case round =>
            obtain ⟨j, A4, c4, hj, rfl, ho4, x4, r4, R4, hbl⟩ := hrel
            have HB4 := Lib.hid hbl
            have hbz4 := hbl.size
            have hgz4 := x4.lt
            clear hbl ho3 x3 r3 R3 HB3
            by_cases hjl : j < x.size
            · have HK := Lib.hid (kX_step (s := s) (r := r) hjl)
              have hkl := HKL.out j
              have h256 := x[j].toNat_lt
              have hx256 : (x[j].toNat : Int) < 256 := by omega
              have hx00 : 0 ≤ (x[j].toNat : Int) := by omega
              obtain ⟨z, hz⟩ : ∃ z, (x[j].toNat : Int) - 97 = z := ⟨_, rfl⟩
              have HX := Lib.hid (show colorOf x[j] = z from hz)
              have hzz : I64 z := ⟨by omega, by omega⟩
              have hw1 : IntKind.i64.wrap (x[j].toNat : Int) = (x[j].toNat : Int) := IntWalk.i64_in _ (by omega)
              have hw2 : IntKind.i64.wrap ((x[j].toNat : Int) - 97) = z := by rw [IntWalk.i64_in _ (by omega), hz]
              have f2 := x4.cell 2
              have z2 := x4.frozen 2
              obtain ⟨T, hT⟩ : ∃ T, (kX s x r j).length = T := ⟨_, rfl⟩
              rw [hT] at ho4 x4 f2 hkl
              have HT := Lib.hid hT
              have hdr : Below wr.heap.size wr wr.drew := ⟨rfl, rfl, rfl, Nat.le_refl _, fun _ _ => rfl⟩
              have oa := ho4.all hdr
              have xa := x4.all hdr
              have ra := r4.all hdr
              have Ra := R4.all hdr (Nat.le_of_lt hgz4)
              have hza : g ≤ wr.drew.heap.size := Nat.le_of_lt hgz4
              have HBa := Lib.hid (HB4.out.trans (hdr.mono hbz4))
              have hlr : T ≤ 1073741824 := by omega
              clear hdr hT hz
              go_wp2
              go_region_law (refine step_append_one wr.drew rfl (.tmp 43) (.tmp 49) 24 rfl Try.underlying24 info_int g T _ _ _ HT.out rfl rfl oa hlr hzz hza ?_; intro A5 c5 w5 o5 hg5; have x5 := xa.mark hg5 (row_ne oa.1 xa (by decide)); have r5 := ra.mark hg5 (row_ne oa.1 ra (by decide)); have R5 : RdF strF w5 g (some ⟨b, off, none⟩) H c P := Ra.mark hg5 (fun q hq => (oa.bd q hq).1) hza; have HB5 := Lib.hid (HBa.out.grown hg5 (Nat.le_trans (Nat.le_of_lt hgw) hza) (fun q hq => Nat.le_trans (Nat.le_of_lt hgw) (oa.bd q hq).1)); have f5 := x5.cell 2; have z5 := x5.frozen 2)
              all_goals
                have HL5 := Lib.hid (show (kX s x r (j + 1)).length = T + 1 by rw [HK.out, List.length_append, HT.out]; rfl)
                rw [← HX.out, ← HK.out] at o5
                clear hw1 hw2
                go_wp2
                go_roundw
                case rel => exact ⟨j + 1, A5, c5, by omega, by go_num, by rw [HL5.out]; exact o5.far (row_ne' o5.1 x5 (by decide)) _, by rw [HL5.out]; have := x5.set_ 2 (.slice A5 (T + 1) c5); simpa using this, r5.far (by simp; omega) _, R5.keep (fun b' o' hb' => World.cell?_setCell_other _ _ _ _ (by first | (simp; done) | (simp; omega))), HB5.out.setCell (by show w.heap.size ≤ g; omega) _⟩
                case measure => simp [intOf]; omega
            · have HE := Lib.hid (kX_end HRW.out hjl)
              rw [HE.out] at ho4 x4
              go_wp2
              go_roundw
              case rel =>
                refine ⟨r + 1, A4, c4, by omega, by go_num, ho4, x4, r4, R4, HB4.out, fun q hq => ?_⟩
                by_cases hqr : q < r
                · exact HAL.out q hqr
                · obtain rfl : q = r := by omega
                  exact ⟨_, HRW.out, sizeL x⟩
              case measure => simp [intOf]; omega
        · have hxq : ((x.size : Int) != (M : Int)) = true := by simp; omega
          have hno : readOk s = false := by
            unfold readOk
            rw [HM.out]
            have : (readRows s).all (fun r => r.length == M) = false := by
              rw [List.all_eq_false]
              refine ⟨x.data.toList, List.mem_of_getElem? HRW.out, ?_⟩
              rw [sizeL]; simpa using hxM
            rw [this]; simp
          have g0 := r3.cell 0
          have g1 := r3.cell 1
          have g2 := r3.cell 2
          have y0 := r3.frozen 0
          have y1 := r3.frozen 1
          have y2 := r3.frozen 2
          have F := fin3 (p := w.heap.size) (lo := w.heap.size) (a := .int .i64 0) (b := .int .i64 0) (c := .slice none 0 0) (Own.nil wr w.heap.size) (by simp [Value.ownBlock]) HB3.out (Nat.le_refl _)
          go_wp2
          exact bodyPost_ret (v := .tuple #[chartV 0 0 (.slice none 0 0), .bool false]) (by simp [results, Try.results9, go_sem, g0, g1, g2]) rfl (by
            rw [show readX s = [] by (unfold readX; rw [hno]; rfl), hno]; exact ⟨none, 0, rfl, F.1, F.2⟩)
      · obtain rfl : r = H := by omega
        have hrl : r = (readRows s).length := HH.out.symm
        have hKl := kR_len s r
        have e : kR s r = readK s := by rw [hrl, kR_all]
        rw [e] at ho3 x3 hKl
        obtain ⟨K, hK⟩ : ∃ K, readK s = K := ⟨_, rfl⟩
        rw [hK] at ho3 x3 hKl
        have hX : readX s = if readOk s = true then K else [] := by unfold readX; rw [hK]
        obtain ⟨gd, hgd⟩ : ∃ gd, goodB M r K = gd := ⟨_, rfl⟩
        have hok : readOk s = gd := by
          unfold readOk
          rw [HM.out, HH.out, hK, hgd, decide_eq_true h4]
          have : (readRows s).all (fun r => r.length == M) = true := by
            rw [List.all_eq_true]
            intro l hl
            obtain ⟨q, hq, rfl⟩ := List.getElem_of_mem hl
            obtain ⟨l', e1, e2⟩ := HAL.out q (by omega)
            rw [List.getElem?_eq_getElem hq] at e1
            cases e1
            simpa using e2
          rw [this]; simp
        have HX := Lib.hid hX
        have HOK := Lib.hid hok
        have hgood := implIsChart_any M r A3 K.length c3 _ K wr ho3.rd (Nat.le_refl _)
        rw [hgd] at hgood
        have f0 := x3.cell 0
        have f1 := x3.cell 1
        have f2 := x3.cell 2
        clear hX hok hgd hK hrl e
        go_wp2_with fail
        refine hgood.mono ?_
        rintro e w4 ⟨rfl, hb4⟩
        have ho4 := ho3.all hb4
        have x4 := x3.all hb4
        have r4 := r3.all hb4
        have HB4 := Lib.hid (HB3.out.trans (hb4.mono hbz))
        clear hgood ho3 x3 r3 hb4 f0 f1 f2
        have f0 := x4.cell 0
        have f1 := x4.cell 1
        have f2 := x4.cell 2
        have g0 := r4.cell 0
        have g1 := r4.cell 1
        have g2 := r4.cell 2
        have y0 := r4.frozen 0
        have y1 := r4.frozen 1
        have y2 := r4.frozen 2
        cases gd
        · have F := fin3 (p := w.heap.size) (lo := w.heap.size) (a := .int .i64 0) (b := .int .i64 0) (c := .slice none 0 0) (Own.nil w4 w.heap.size) (by simp [Value.ownBlock]) HB4.out (Nat.le_refl _)
          go_wp2
          exact bodyPost_ret (v := .tuple #[chartV 0 0 (.slice none 0 0), .bool false]) (by simp [results, Try.results9, go_sem, g0, g1, g2]) rfl (by
            rw [HX.out, HOK.out]; exact ⟨none, 0, rfl, F.1, F.2⟩)
        · have F := fin3 (p := w.heap.size) (a := .int .i64 M) (b := .int .i64 r) (c := .slice A3 K.length c3) (ho4.mono (Nat.le_of_lt hgw)) (row_ne' ho4.1 r4 (by decide)) HB4.out (Nat.le_refl _)
          go_wp2
          exact bodyPost_ret (v := .tuple #[chartV M r (.slice A3 K.length c3), .bool true]) (by simp [results, Try.results9, go_sem, g0, g1, g2]) rfl (by
            rw [HX.out, HOK.out, HM.out, HH.out]; exact ⟨A3, c3, rfl, F.1, F.2⟩)
  · have hno : readOk s = false := by unfold readOk; rw [decide_eq_false h4]; simp
    have hX : readX s = [] := by unfold readX; rw [hno]; rfl
    rw [show splitOk s ⟨#[47]⟩ = false from decide_eq_false (fun e => h4 e.1), (splitX_no (fun e => h4 e.1)).1] at hsp
    rw [hno, hX]
    go_enter Try.func9, Try.ntmps9
    go_wp2_with fail
    refine (hsp.out _).mono ?_
    rintro e w1 ⟨A, c, rfl, hO, hb⟩
    have hb1 := hb0.trans (hb.mono (by simp))
    have r1 := r0.all hb
    have g0 := r1.cell 0
    have g1 := r1.cell 1
    have g2 := r1.cell 2
    have y0 := r1.frozen 0
    have y1 := r1.frozen 1
    have y2 := r1.frozen 2
    have F := fin3 (p := w.heap.size) (lo := w.heap.size) (a := .int .i64 0) (b := .int .i64 0) (c := .slice none 0 0) (Own.nil w1 w.heap.size) (by simp [Value.ownBlock]) hb1 (Nat.le_refl _)
    go_wp2
    exact bodyPost_ret (v := .tuple #[chartV 0 0 (.slice none 0 0), .bool false]) (by simp [results, Try.results9, go_sem, g0, g1, g2]) rfl ⟨none, 0, rfl, F.1, F.2⟩
theorem readX_len (s : ByteArray) : (readX s).length ≤ 1048576 := by
  unfold readX
  split
  · rename_i h
    have hg : goodB (readM s) (readH s) (readK s) = true := by
      unfold readOk at h
      simp only [Bool.and_eq_true] at h
      exact h.2
    have := (good_bd hg).1
    omega
  · simp
end Go.Proofs.Yteiaanaljimghaa
