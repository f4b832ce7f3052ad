/- The walk of the program's PartOf. No condition. -/
import Derived.Test.YtjfdcmdgpeeabaaPart
namespace Go.Proofs.Ytjfdcmdgpeeabaa
open Go.RowKit

theorem rowOf_n (m k r b off n c : Nat) (w : World) (h : n = m * k) (hc : n ≤ c) (hcm : c ≤ maxLen) (hm : 1 ≤ m) (hm8 : m ≤ 8) (hr : r < k) (hk8 : k ≤ 8) (a b' : Int) (i : Int) (ha : a = m) (hb : b' = k) (hi : i = r) :
    Calls Try.prog 46 #[chartV a b' (.slice (some ⟨b, off, none⟩) n c), .int .i64 i] w (Out w (.slice (some ⟨b, off + r * m, none⟩) m (c - r * m))) := by
  subst ha; subst hb; subst hi
  have := rowOf_any m k r b off c (List.replicate n 0) w (by rw [List.length_replicate]; exact h) (by rw [List.length_replicate]; exact hc) hcm hm hm8 hr hk8
  rwa [List.length_replicate] at this
theorem rowOf_0 (m k r b n c : Nat) (w : World) (h : n = m * k) (hc : n ≤ c) (hcm : c ≤ maxLen) (hm : 1 ≤ m) (hm8 : m ≤ 8) (hr : r < k) (hk8 : k ≤ 8) (a b' : Int) (i : Int) (ha : a = m) (hb : b' = k) (hi : i = r) :
    Calls Try.prog 46 #[chartV a b' (.slice (some ⟨b, 0, none⟩) n c), .int .i64 i] w (Out w (.slice (some ⟨b, r * m, none⟩) m (c - r * m))) := by
  have := rowOf_n m k r b 0 n c w h hc hcm hm hm8 hr hk8 a b' i ha hb hi
  rwa [Nat.zero_add] at this
/-- A row of a part, as cells. -/
def prow (m : Nat) (xs : List Int) (r c k : Nat) : List Int := (List.range k).map fun j => elt m xs r (c + j)
theorem prow_len (m : Nat) (xs : List Int) (r c k : Nat) : (prow m xs r c k).length = k := by simp [prow]
theorem prow_splice {m : Nat} {xs : List Int} {r c h k i : Nat} {ys : List Int} (hi : i < h) (hl : ys.length = h * k) (ht : ys.take (i * k) = (partL m xs r c h k).take (i * k)) :
    (splice (ys.map (Value.int .i64)) (i * k) ((prow m xs (r + i) c k).map (Value.int .i64))) = (splice ys (i * k) (prow m xs (r + i) c k)).map (Value.int .i64) ∧ (splice ys (i * k) (prow m xs (r + i) c k)).length = h * k ∧
      (splice ys (i * k) (prow m xs (r + i) c k)).take ((i + 1) * k) = (partL m xs r c h k).take ((i + 1) * k) := by
  have hle : (i + 1) * k ≤ h * k := Nat.mul_le_mul_right _ hi
  rw [Nat.succ_mul] at hle
  refine ⟨by simp [splice, List.map_take, List.map_drop], ?_, ?_⟩
  · rw [length_splice _ _ _ (by rw [prow_len, hl]; exact hle), hl]
  · have hp : (partL m xs r c h k).take (i * k) ++ prow m xs (r + i) c k = (partL m xs r c h k).take ((i + 1) * k) := by
      have : ∀ j, j ≤ k → (partL m xs r c h k).take (i * k) ++ (prow m xs (r + i) c k).take j = (partL m xs r c h k).take (i * k + j) := by
        intro j
        induction j with
        | zero => intro _; simp
        | succ j ih =>
          intro hj
          rw [← Nat.add_assoc, partL_take hi (by omega), ← ih (by omega), List.append_assoc, List.take_succ_eq_append_getElem (by rw [prow_len]; omega)]
          congr 2
          simp [prow]
      have := this k (Nat.le_refl _)
      have e : (prow m xs (r + i) c k).take k = prow m xs (r + i) c k := List.take_of_length_le (by rw [prow_len]; exact Nat.le_refl _)
      rw [e] at this
      rw [this, Nat.succ_mul]
    rw [← hp, ← ht]
    unfold splice
    rw [← List.append_assoc, List.take_append_of_le_length (by rw [List.length_append, take_len (by omega), prow_len, Nat.succ_mul]; exact Nat.le_refl _), List.take_of_length_le (by rw [List.length_append, take_len (by omega), prow_len, Nat.succ_mul]; exact Nat.le_refl _)]

theorem prow_src {w : World} {B b off cc m kk r c k : Nat} {xs : List Int} (h : Rd w B (some ⟨b, off, none⟩) xs.length cc xs) (hl : xs.length = m * kk) (hr : r < kk) (hck : c + k ≤ m) :
    ∀ j v, ((prow m xs r c k).map (Value.int .i64))[j]? = some v → w.cell? ((⟨b, off + r * m + c, none⟩ : Addr).add j) = some v := by
  intro j v hv
  have hj : j < k := by have := (List.getElem?_eq_some_iff.1 hv).1; simpa [prow] using this
  have hlt := at_lt hl hr (show c + j < m by omega)
  obtain ⟨_, _, e, _, hc⟩ := h.cells (by omega)
  cases e
  have e : (⟨b, off + r * m + c, none⟩ : Addr).add j = ⟨b, off + (r * m + (c + j)), none⟩ := by
    unfold Addr.add
    split
    · rename_i h0; subst h0; first | (simp; done) | (simp; omega)
    · first | (simp [Nat.add_assoc]; done) | (simp; omega)
  rw [e, hc _ hlt]
  simp [prow, hj] at hv
  rw [← hv]; rfl

set_option maxRecDepth 100000 in
set_option maxHeartbeats 4000000 in
theorem implPartOf_yes (m kk b off cc B r c h k : Nat) (xs : List Int) (w : World) (hR : Rd w B (some ⟨b, off, none⟩) xs.length cc xs) (hB : B ≤ w.heap.size) (hg : goodB m kk xs = true) (hw : withinB m kk r c h k = true) (m1 : 1 ≤ m) (m8 : m ≤ 8) (kk8 : kk ≤ 8) (hl : Hid (xs.length = m * kk)) (h64 : m * kk ≤ 64)
    (hrh : r + h ≤ kk) (hck : c + k ≤ m) (h1 : 1 ≤ h) (k1 : 1 ≤ k) :
    Calls Try.prog 39 #[chartV m kk (.slice (some ⟨b, off, none⟩) xs.length cc), .int .i64 r, .int .i64 c, .int .i64 h, .int .i64 k] w (OutChart w k h (partL m xs r c h k) true) := by
  obtain ⟨i0, hi, hz0, hz1, hz2⟩ := info_parts info_int
  have hsz : (Try.prog.info? 3).map (·.size) = some 1 := by rw [hi]; exact congrArg some hz1
  have hb0 := Lib.hid (((Below.refl w.heap.size w).alloc (Nat.le_refl _) (.cells #[.int .i64 m, .int .i64 kk, .slice (some ⟨b, off, none⟩) xs.length cc] 26)).alloc (by simp) (.cells #[.int .i64 0, .int .i64 0, .slice none 0 0] 26))
  have h' := Lib.hid ((hR.alloc hB (.cells #[.int .i64 m, .int .i64 kk, .slice (some ⟨b, off, none⟩) xs.length cc] 26)).alloc (by simp; omega) (.cells #[.int .i64 0, .int .i64 0, .slice none 0 0] 26))
  have r0 := (Blk.new (w.alloc (.cells #[.int .i64 m, .int .i64 kk, .slice (some ⟨b, off, none⟩) xs.length cc] 26)) #[.int .i64 0, .int .i64 0, .slice none 0 0] 26)
  have x0 := (Blk.new w #[.int .i64 m, .int .i64 kk, .slice (some ⟨b, off, none⟩) xs.length cc] 26).alloc (.cells #[.int .i64 0, .int .i64 0, .slice none 0 0] 26)
  have hhk := part_le h64 hrh hck
  have hcap := hR.cap
  have hmax := hR.max
  have e0 : (k : Int) * (h : Int) = ((h * k : Nat) : Int) := by rw [← Int.natCast_mul, Nat.mul_comm]
  have q0 : 0 ≤ (k : Int) * (h : Int) := by omega
  have q1 : (k : Int) * (h : Int) ≤ 64 := by omega
  have E0 := Lib.hid e0
  clear hR e0
  go_enter Try.func39, Try.ntmps39
  go_wp2_with fail
  refine (implIsChart_any m kk _ _ cc B xs _ h'.out (by simp; omega)).mono ?_
  rintro e w1 ⟨rfl, hb⟩
  have r1 := (r0.all hb).at_ (q := w.heap.size + 1) (by simp)
  have x1 := x0.all hb
  have R1 := h'.out.all hb (by simp; omega)
  have HB := Lib.hid (hb0.out.trans (hb.mono (by simp; omega)))
  have f0 := x1.cell 0
  have f1 := x1.cell 1
  have f2 := x1.cell 2
  clear hb r0 x0 h'
  rw [hg]
  go_wp2_with fail
  refine (isWithin_any m kk r c h k _ _ (by omega) (by omega) ⟨by omega, by omega⟩ ⟨by omega, by omega⟩).mono ?_
  rintro e w2 ⟨rfl, hb⟩
  have r2 := r1.all hb
  have x2 := x1.all hb
  have hs1 := r1.lt
  have R2 := R1.all hb (by omega)
  have HB2 := Lib.hid (HB.out.trans (hb.mono (by omega)))
  clear hb r1 x1 R1 HB f0 f1 f2
  rw [hw]
  have hs2 := r2.lt
  go_wp2_with (at_make; refine wpList_make_full _ rfl _ _ 24 rfl w.heap.size 3 i0 (.int .i64 0) 1 Try.underlying24 hi hz0 hz1 _ _ _ _ (h * k) rfl rfl E0.out E0.out (by rw [hz2]; omega) (by unfold maxLen; omega) (by omega) ?_)
  intro w3 hown0 hg0
  have hs3 : w2.heap.size < w3.heap.size := (hown0.lt _ rfl).2
  have r3 := r2.mark hg0 (fun q hq => by cases hq)
  have x3 := x2.mark hg0 (fun q hq => by cases hq)
  have R3 := R2.mark hg0 (fun q hq => by cases hq) (by omega)
  have HB3 := Lib.hid (HB2.out.grown hg0 (by omega) (fun q hq => by cases hq))
  have G3 := row_blk hown0
  rw [toList_madeCells_one] at G3
  clear hg0 r2 x2 R2 HB2 hown0
  go_wp2
  go_loopw [35, 13] (fun i i13 wr => ∃ (j : Nat) (ys : List Int), j ≤ h ∧ i = .int .i64 j ∧ ys.length = h * k ∧ ys.take (j * k) = (partL m xs r c h k).take (j * k) ∧ Blk wr w2.heap.size 3 (ys.map (Value.int .i64)).toArray ∧
      Blk wr (w.heap.size + 1) 26 #[.int .i64 0, .int .i64 0, .slice none 0 0] ∧ Blk wr w3.heap.size 26 #[.int .i64 k, .int .i64 h, .slice (some ⟨w2.heap.size, 0, none⟩) (h * k) (h * k)] ∧
      Blk wr w.heap.size 26 #[.int .i64 m, .int .i64 kk, .slice (some ⟨b, off, none⟩) xs.length cc] ∧ Rd wr B (some ⟨b, off, none⟩) xs.length cc xs ∧ Below w.heap.size w wr)
    (fun i _ _ => h - (intOf i).toNat)
  case atStart => exact ⟨0, List.replicate (h * k) 0, Nat.zero_le _, rfl, by simp, by simp, by rw [List.map_replicate]; exact G3.alloc _, r3.alloc _, Blk.new _ _ _, x3.alloc _, R3.alloc (by omega) _, HB3.out.alloc (by omega) _⟩
  case round =>
    obtain ⟨i, ys, hi', rfl, hyl, hyt, G, r4, p4, x4, R4, hbl⟩ := hrel
    have HB4 := Lib.hid hbl
    have hbz := hbl.size
    clear hbl r3 x3 R3 HB3 G3
    by_cases hlt : i < h
    · go_wp2
      have g0 := p4.cell 0
      have g1 := p4.cell 1
      have g2 := p4.cell 2
      have f0 := x4.cell 0
      have f1 := x4.cell 1
      have f2 := x4.cell 2
      have hp4 := p4.lt
      have hx4 := x4.lt
      have c1 : h * k ≤ maxLen := by unfold maxLen; omega
      have C1 := Lib.hid (Nat.mul_comm h k)
      have h8 : h ≤ 8 := by omega
      have k8 : k ≤ 8 := by omega
      have hri : r + i < kk := by omega
      have HRI := Lib.hid (show IntKind.i64.wrap ((r : Int) + (i : Int)) = ((r + i : Nat) : Int) by rw [IntWalk.i64_in _ (by omega)]; omega)
      have hrow := row_le hl.out hri
      have hcc : c < cc - (r + i) * m := by omega
      have hcm : (c : Int) ≤ (m : Int) := by omega
      have hc0 : (0 : Int) ≤ (c : Int) := by omega
      have hcne : ¬ cc - (r + i) * m = c := by omega
      have HPS := Lib.hid (prow_splice (m := m) (xs := xs) (r := r) (c := c) hlt hyl hyt)
      have hle : (i + 1) * k ≤ h * k := Nat.mul_le_mul_right _ hlt
      rw [Nat.succ_mul] at hle
      have hn : ((prow m xs (r + i) c k).map (Value.int .i64)).length = Nat.min (m - c) k := by
        rw [List.length_map, prow_len]
        exact (Nat.min_eq_right (by omega)).symm
      have hfit : i * k + ((prow m xs (r + i) c k).map (Value.int .i64)).length ≤ (ys.map (Value.int .i64)).length := by rw [List.length_map, prow_len, List.length_map, hyl]; exact hle
      have HN := Lib.hid hn
      have HF := Lib.hid hfit
      have HL := Lib.hid hyl
      have HT := Lib.hid hyt
      clear hn hfit hyl hyt
      go_region_law (first | (refine step_copy_row rfl (.tmp 40) (.tmp 47) 24 24 rfl 3 Try.underlying24 hsz w2.heap.size (i * k) k (h * k - i * k) ⟨b, off + (r + i) * m + c, none⟩ (m - c) (cc - (r + i) * m - c) rfl rfl _ 3 Gb _ HN.out HSb.out HF.out (ints_oneCell _ _) ?_; intro w5 G5 hg5; have r5 := rb.mark hg5 (fun q hq => by cases hq; omega); have p5 := pb.mark hg5 (fun q hq => by cases hq; omega); have x5 := xb.mark hg5 (fun q hq => by cases hq; omega); have R5 := Rb.mark hg5 (fun q hq => by cases hq; omega) (Nat.le_trans hB hzb); have HB5 := Lib.hid (HBb.out.grown hg5 hzb (fun q hq => by cases hq; omega))) | (go_simp; go_at_call 46; (with_reducible refine (rowOf_0 k h i w2.heap.size (h * k) (h * k) wr.drew C1.out (Nat.le_refl _) c1 k1 k8 hlt h8 (k : Int) (h : Int) (i : Int) rfl rfl rfl).mono ?_); rintro e wa ⟨rfl, hba⟩; have hb6 : Below wr.heap.size wr wa := below_drew hba; have hz6 : wr.heap.size ≤ wa.heap.size := hb6.size; have xa := x4.all hb6; have a0 := xa.cell 0; have a1 := xa.cell 1; have a2 := xa.cell 2; have Ga := G.all hb6; have ra := r4.all hb6; have pa := p4.all hb6; have Ra := R4.all hb6 (Nat.le_trans hB hbz); have HBa := Lib.hid (HB4.out.trans (hb6.mono hbz)); have hza : w.heap.size ≤ wa.heap.size := Nat.le_trans hbz hz6) | (go_simp; go_at_call 46; (with_reducible refine (rowOf_n m kk (r + i) b off xs.length cc wa hl.out hcap hmax m1 m8 hri kk8 (m : Int) (kk : Int) (IntKind.i64.wrap ((r : Int) + (i : Int))) rfl rfl HRI.out).mono ?_); rintro e wb ⟨rfl, hbb⟩; have xb := xa.all hbb; have Gb := Ga.all hbb; have rb := ra.all hbb; have pb := pa.all hbb; have Rb := Ra.all hbb (Nat.le_trans hB hza); have HBb := Lib.hid (HBa.out.trans (hbb.mono hza)); have hzb : w.heap.size ≤ wb.heap.size := Nat.le_trans hza hbb.size; have HSb := Lib.hid (prow_src (k := k) Rb hl.out hri hck)))
      all_goals
        have P1 := HPS.out
        rw [P1.1] at G5
        have P2 := Lib.hid P1.2.1
        have P3 := Lib.hid P1.2.2
        clear P1
        go_wp2
        go_roundw
        case rel => exact ⟨i + 1, _, by omega, by go_num, P2.out, P3.out, G5, r5, p5, x5, R5, HB5.out⟩
        case measure => simp [intOf]; omega
    · obtain rfl : i = h := by omega
      have ey : ys = partL m xs r c i k := by rw [List.take_of_length_le (by omega), partL_all] at hyt; exact hyt
      subst ey
      have g0 := r4.cell 0
      have g1 := r4.cell 1
      have g2 := r4.cell 2
      have z0 := r4.frozen 0
      have z1 := r4.frozen 1
      have z2 := r4.frozen 2
      have p0 := p4.cell 0
      have p1 := p4.cell 1
      have p2 := p4.cell 2
      have HO := blk_own (lo := w.heap.size) G (by omega) (by unfold maxLen; rw [hyl]; omega) (fun x hx => by
        simp only [partL, List.mem_map] at hx
        obtain ⟨q, _, rfl⟩ := hx
        exact R4.fit _)
      rw [hyl] at HO
      have F := fin3 (p := w.heap.size + 1) (a := .int .i64 k) (b := .int .i64 i) (c := .slice (some ⟨w2.heap.size, 0, none⟩) (i * k) (i * k)) HO (by simp [Value.ownBlock]; omega) HB4.out (by omega)
      clear hyl hyt
      go_wp2
      exact bodyPost_ret (v := .tuple #[chartV k i (.slice (some ⟨w2.heap.size, 0, none⟩) (i * k) (i * k)), .bool true]) (by simp [results, Try.results39, go_sem, g0, g1, g2]) rfl ⟨_, i * k, by rw [partL_len], by rw [partL_len]; exact F.1, F.2⟩

set_option maxRecDepth 100000 in
set_option maxHeartbeats 1000000 in
theorem implPartOf_any (W H : Int) (A : Option Addr) (n c B : Nat) (xs : List Int) (row col h k : Int) (w : World) (hR : Rd w B A n c xs) (hB : B ≤ w.heap.size) (i1 : I64 row) (i2 : I64 col) :
    Calls Try.prog 39 #[chartV W H (.slice A n c), .int .i64 row, .int .i64 col, .int .i64 h, .int .i64 k] w
      (OutChart w (orZero (partOk W H xs row col h k) k) (orZero (partOk W H xs row col h k) h) (partX W H xs row col h k) (partOk W H xs row col h k)) := by
  by_cases hp : partOk W H xs row col h k = true
  · rw [show partX W H xs row col h k = partL W.toNat xs row.toNat col.toNat h.toNat k.toNat from if_pos hp, hp]
    have hw : withinB W H row col h k = true := by simp [partOk] at hp; exact hp.2
    obtain ⟨m, kk, r, cc, h1, k1, rfl, rfl, rfl, rfl, rfl, rfl, hg, m1, m8, kk8, hl, h64, hx64, hl1, hrh, hck, hh, hk⟩ := part_nat hp
    simp only [Int.toNat_natCast]
    obtain rfl := hR.len
    obtain ⟨b, off, rfl, _, _⟩ := hR.cells (by omega)
    exact implPartOf_yes m kk b off c B r cc h1 k1 xs w hR hB hg hw m1 m8 kk8 hl h64 hrh hck hh hk
  · have hp' := not_false hp
    have hb0 := Lib.hid (((Below.refl w.heap.size w).alloc (Nat.le_refl _) (.cells #[.int .i64 W, .int .i64 H, .slice A n c] 26)).alloc (by simp) (.cells #[.int .i64 0, .int .i64 0, .slice none 0 0] 26))
    have h' := Lib.hid ((hR.alloc hB (.cells #[.int .i64 W, .int .i64 H, .slice A n c] 26)).alloc (by simp; omega) (.cells #[.int .i64 0, .int .i64 0, .slice none 0 0] 26))
    have r0 := (Blk.new (w.alloc (.cells #[.int .i64 W, .int .i64 H, .slice A n c] 26)) #[.int .i64 0, .int .i64 0, .slice none 0 0] 26)
    have x0 := (Blk.new w #[.int .i64 W, .int .i64 H, .slice A n c] 26).alloc (.cells #[.int .i64 0, .int .i64 0, .slice none 0 0] 26)
    rw [show partX W H xs row col h k = [] from if_neg hp, hp']
    by_cases hg : goodB W H xs = true
    · have hw : withinB W H row col h k = false := by simpa [partOk, hg] using hp'
      obtain ⟨hW, hH, _, _⟩ := goodB_yes hg
      go_enter Try.func39, Try.ntmps39
      go_wp2_with fail
      refine (implIsChart_any W H A n c B xs _ h'.out (by simp; omega)).mono ?_
      rintro e w1 ⟨rfl, hb⟩
      have r1 := (r0.all hb).at_ (q := w.heap.size + 1) (by simp)
      have x1 := x0.all hb
      have HB := Lib.hid (hb0.out.trans (hb.mono (by simp; omega)))
      have f0 := x1.cell 0
      have f1 := x1.cell 1
      have f2 := x1.cell 2
      have hs1 := r1.lt
      clear hb r0 x0 h'
      rw [hg]
      go_wp2_with fail
      refine (isWithin_any W H row col h k _ _ hW hH i1 i2).mono ?_
      rintro e w2 ⟨rfl, hb⟩
      have r2 := r1.all hb
      have HB2 := Lib.hid (HB.out.trans (hb.mono (by omega)))
      have g0 := r2.cell 0
      have g1 := r2.cell 1
      have g2 := r2.cell 2
      have z0 := r2.frozen 0
      have z1 := r2.frozen 1
      have z2 := r2.frozen 2
      clear hb f0 f1 f2
      rw [hw]
      go_wp2_with fail
      have F := fin3 (p := w.heap.size + 1) (a := .int .i64 0) (b := .int .i64 0) (c := .slice none 0 0) (Own.nil w2 w.heap.size) (by simp [Value.ownBlock]) HB2.out (by omega)
      exact bodyPost_ret (v := .tuple #[chartV 0 0 (.slice none 0 0), .bool false]) (by simp [results, Try.results39, go_sem, g0, g1, g2]) rfl ⟨none, 0, rfl, F.1, F.2⟩
    · have hg' := not_false hg
      go_enter Try.func39, Try.ntmps39
      go_wp2_with fail
      refine (implIsChart_any W H A n c B xs _ h'.out (by simp; omega)).mono ?_
      rintro e w1 ⟨rfl, hb⟩
      have r1 := (r0.all hb).at_ (q := w.heap.size + 1) (by simp)
      have HB := Lib.hid (hb0.out.trans (hb.mono (by simp; omega)))
      have g0 := r1.cell 0
      have g1 := r1.cell 1
      have g2 := r1.cell 2
      have z0 := r1.frozen 0
      have z1 := r1.frozen 1
      have z2 := r1.frozen 2
      clear hb r0
      rw [hg']
      go_wp2_with fail
      have F := fin3 (p := w.heap.size + 1) (a := .int .i64 0) (b := .int .i64 0) (c := .slice none 0 0) (Own.nil w1 w.heap.size) (by simp [Value.ownBlock]) HB.out (by omega)
      exact bodyPost_ret (v := .tuple #[chartV 0 0 (.slice none 0 0), .bool false]) (by simp [results, Try.results39, go_sem, g0, g1, g2]) rfl ⟨none, 0, rfl, F.1, F.2⟩
end Go.Proofs.Ytjfdcmdgpeeabaa
