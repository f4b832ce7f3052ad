/- The walks of PartOf, the program's and the model's, and of what they call. No condition. -/
import Derived.Test.YtjfdcmdgpeeabaaRun
import Derived.Test.YtjfdcmdgpeeabaaCopy
import Derived.Test.YtjfdcmdgpeeabaaStep
import Derived.Test.YtjfdcmdgpeeabaaPartMath
namespace Go.Proofs.Ytjfdcmdgpeeabaa
open Go.RowKit

set_option maxRecDepth 100000 in
set_option maxHeartbeats 4000000 in
theorem l2Part_any (m kk b off cc B r c h k : Nat) (xs : List Int) (w : World) (hR : Rd w B (some ⟨b, off, none⟩) xs.length cc xs) (hB : B ≤ w.heap.size) (m8 : m ≤ 8) (kk8 : kk ≤ 8) (hl : Hid (xs.length = m * kk)) (h64 : m * kk ≤ 64)
    (hrh : r + h ≤ kk) (hck : c + k ≤ m) :
    Calls Try.prog 52 #[chartV m kk (.slice (some ⟨b, off, none⟩) xs.length cc), .int .i64 r, .int .i64 c, .int .i64 h, .int .i64 k] w (OwnChart w k h (partL m xs r c h k)) := by
  have hb0 := Lib.hid ((((((Below.refl w.heap.size w).alloc (Nat.le_refl _) (.cells #[.int .i64 m, .int .i64 kk, .slice (some ⟨b, off, none⟩) xs.length cc] 26)).alloc (by simp) (.cells #[.int .i64 0, .int .i64 0, .slice none 0 0] 26)).alloc (by simp; omega) (.cells #[] 3))).alloc (by simp; omega) (.cells #[.int .i64 k, .int .i64 h, .slice (some ⟨w.heap.size + 1 + 1, 0, none⟩) 0 0] 26))
  have h1 := ((((hR.alloc hB (.cells #[.int .i64 m, .int .i64 kk, .slice (some ⟨b, off, none⟩) xs.length cc] 26)).alloc (by simp; omega) (.cells #[.int .i64 0, .int .i64 0, .slice none 0 0] 26)).alloc (by simp; omega) (.cells #[] 3))).alloc (by simp; omega) (.cells #[.int .i64 k, .int .i64 h, .slice (some ⟨w.heap.size + 1 + 1, 0, none⟩) 0 0] 26)
  have x1 := (((Blk.new w #[.int .i64 m, .int .i64 kk, .slice (some ⟨b, off, none⟩) xs.length cc] 26).alloc (.cells #[.int .i64 0, .int .i64 0, .slice none 0 0] 26)).alloc (.cells #[] 3)).alloc (.cells #[.int .i64 k, .int .i64 h, .slice (some ⟨w.heap.size + 1 + 1, 0, none⟩) 0 0] 26)
  have r1 := (((Blk.new (w.alloc (.cells #[.int .i64 m, .int .i64 kk, .slice (some ⟨b, off, none⟩) xs.length cc] 26)) #[.int .i64 0, .int .i64 0, .slice none 0 0] 26).alloc (.cells #[] 3)).alloc (.cells #[.int .i64 k, .int .i64 h, .slice (some ⟨w.heap.size + 1 + 1, 0, none⟩) 0 0] 26)).at_ (q := w.heap.size + 1) (by simp)
  have hbw : b < w.heap.size ∨ xs.length = 0 := by
    rcases Nat.eq_zero_or_pos xs.length with h0 | h0
    · exact .inr h0
    · obtain ⟨_, _, e, hb, _⟩ := hR.cells h0; cases e; exact .inl (by omega)
  have hhk : h * k ≤ 64 := by
    have : h * k ≤ kk * m := Nat.mul_le_mul (by omega) (by omega)
    rw [Nat.mul_comm kk m] at this
    omega
  clear hR
  go_enter Try.func52, Try.ntmps52
  go_wp2
  go_loopw [12, 13] (fun s12 s13 wr => ∃ (i : Nat) (A : Option Addr) (c' : Nat), i ≤ h ∧ s12 = .int .i64 ((r : Int) + (i : Int)) ∧ Own wr w.heap.size (.slice A (i * k) c') ((partL m xs r c h k).take (i * k)) ∧
      Blk wr (w.heap.size + 1 + 1 + 1) 26 #[.int .i64 k, .int .i64 h, .slice A (i * k) c'] ∧ Blk wr (w.heap.size + 1) 26 #[.int .i64 0, .int .i64 0, .slice none 0 0] ∧
      Blk wr w.heap.size 26 #[.int .i64 m, .int .i64 kk, .slice (some ⟨b, off, none⟩) xs.length cc] ∧ Rd wr B (some ⟨b, off, none⟩) xs.length cc xs ∧ Below w.heap.size w wr)
    (fun s12 _ _ => r + h - (intOf s12).toNat)
  case atStart =>
    refine ⟨0, some ⟨w.heap.size + 1 + 1, 0, none⟩, 0, Nat.zero_le _, by go_num, ?_, ?_, r1, x1, h1, hb0.out⟩
    · rw [Nat.zero_mul]
      simpa using (Own.empty (w := (w.alloc _).alloc _) (lo := w.heap.size) (by simp; omega)).alloc _
    · rw [Nat.zero_mul]
      exact (Blk.new _ _ _).at_ (by simp)
  case round =>
    obtain ⟨i, A, c', hi, rfl, ho, x2, r2, b2, R2, hbl⟩ := hrel
    have HB := Lib.hid hbl
    clear hbl hb0 h1 x1 r1
    obtain ⟨wo, rfl⟩ : ∃ wo : World, wo = wr := ⟨_, rfl⟩
    by_cases hlt : i < h
    · go_wp2
      go_loopw [13] (fun s13 wr => ∃ (j : Nat) (A : Option Addr) (c' : Nat), j ≤ k ∧ s13 = .int .i64 ((c : Int) + (j : Int)) ∧ Own wr w.heap.size (.slice A (i * k + j) c') ((partL m xs r c h k).take (i * k + j)) ∧
          Blk wr (w.heap.size + 1 + 1 + 1) 26 #[.int .i64 k, .int .i64 h, .slice A (i * k + j) c'] ∧ Blk wr (w.heap.size + 1) 26 #[.int .i64 0, .int .i64 0, .slice none 0 0] ∧
          Blk wr w.heap.size 26 #[.int .i64 m, .int .i64 kk, .slice (some ⟨b, off, none⟩) xs.length cc] ∧ Rd wr B (some ⟨b, off, none⟩) xs.length cc xs ∧ Below w.heap.size w wr)
        (fun s13 _ => c + k - (intOf s13).toNat)
      case atStart => exact ⟨0, A, c', Nat.zero_le _, by go_num, by rw [Nat.add_zero]; exact ho, by rw [Nat.add_zero]; exact x2, r2, b2, R2, HB.out⟩
      case round =>
        obtain ⟨j, A3, c3, hj, rfl, ho3, x3, r3, b3, R3, hbl⟩ := hrel
        have HB3 := Lib.hid hbl
        have hbz := hbl.size
        clear hbl ho x2 r2 b2 R2 HB
        by_cases hjk : j < k
        · have hlt' := at_lt hl.out (show r + i < kk by omega) (show c + j < m by omega)
          obtain ⟨_, _, hbb, hbB, hcell⟩ := R3.cells (by omega)
          cases hbb
          obtain ⟨x, HX⟩ : ∃ x, Hid (elt m xs (r + i) (c + j) = x) := ⟨_, rfl⟩
          have hx : wr.cell? ⟨b, off + ((r + i) * m + (c + j)), none⟩ = some (.int .i64 x) := by rw [hcell _ hlt', ← HX.out]; rfl
          have hxx : I64 x := by rw [← HX.out]; exact R3.fit _
          have hx' : wr.drew.cell? ⟨b, off + ((r + i) * m + (c + j)), none⟩ = some (.int .i64 x) := hx
          have hbwr : b < wr.heap.size := by omega
          have hbwr' : b < wr.drew.heap.size := hbwr
          have HP := Lib.hid (partL_take (m := m) (xs := xs) (r := r) (c := c) hlt hjk)
          rw [HX.out] at HP
          have ha1 := Lib.hid (show (r : Int) + (i : Int) = ((r + i : Nat) : Int) by omega)
          have ha2 := Lib.hid (show (c : Int) + (j : Int) = ((c + j : Nat) : Int) by omega)
          have hri : r + i < kk := by omega
          have hcj : c + j < m := by omega
          have hzw := b3.lt
          have hzx := x3.lt
          have e0 := b3.cell 0
          have e1 := b3.cell 1
          have e2 := b3.cell 2
          have f2 := x3.cell 2
          have hle : (i + 1) * k ≤ h * k := Nat.mul_le_mul_right _ hlt
          rw [Nat.succ_mul] at hle
          have htl : ((partL m xs r c h k).take (i * k + j)).length = i * k + j := take_len (by rw [partL_len]; omega)
          have HTL := Lib.hid htl
          have hlr : i * k + j ≤ 1073741824 := by omega
          clear hcell htl
          go_wp2
          go_region_law (first | (refine step_append_one wa rfl (.tmp 35) (.tmp 40) 24 rfl Try.underlying24 info_int w.heap.size (i * k + j) _ _ x HTL.out rfl rfl oa hlr hxx hza ?_; intro A5 c5 w5 o5 hg5; have b5 := ba.mark hg5 (row_ne oa.1 ba (by decide)); have x5 := xa.mark hg5 (row_ne oa.1 xa (by decide)); have r5 := ra.mark hg5 (row_ne oa.1 ra (by decide)); have R5 := Ra.mark hg5 (fun q hq => Nat.le_trans hB (oa.bd q hq).1) (Nat.le_trans hB hza); have HB5 := Lib.hid (HBa.out.grown hg5 hza (fun q hq => (oa.bd q hq).1)); have f5 := x5.cell 2; have z5 := x5.frozen 2) | (go_simp; go_at_call 73; (with_reducible refine (l2At_int m kk (r + i) (c + j) b off cc ((r : Int) + (i : Int)) ((c : Int) + (j : Int)) xs x wr.drew ha1.out ha2.out hl.out h64 hri hcj hbwr' hx').mono ?_); rintro e wa ⟨rfl, hba⟩; have hb6 : Below wr.heap.size wr wa := below_drew hba; have hbc : ∀ b o, b < wr.heap.size → wa.cell? ⟨b, o, none⟩ = wr.cell? ⟨b, o, none⟩ := (bcell hb6).1; have hz6 : wr.heap.size ≤ wa.heap.size := hb6.size; have f2a := (hbc _ 2 hzx).trans f2; have oa := ho3.all hb6; have ba := b3.all hb6; have xa := x3.all hb6; have hxa := xa.lt; have hba2 := ba.lt; have hza : w.heap.size ≤ wa.heap.size := Nat.le_trans hbz hz6; have ra := r3.all hb6; have Ra := R3.all hb6 (Nat.le_trans hB hbz); have HBa := Lib.hid (HB3.out.trans (hb6.mono hbz))))
          all_goals
            rw [← HP.out] at o5
            go_wp2
            go_roundw
            case rel => exact ⟨j + 1, A5, c5, by omega, by go_num, o5.far (row_ne' o5.1 x5 (by decide)) _, by have := x5.set_ 2 (.slice A5 (i * k + j + 1) c5); rw [← Nat.add_assoc]; simpa using this, r5.far (by simp) _, b5.far (by simp; omega) _, R5.keep (fun b' o' hb' => World.cell?_setCell_other _ _ _ _ (by first | (simp; done) | (simp; omega))), HB5.out.setCell (by show w.heap.size ≤ w.heap.size + 1 + 1 + 1; omega) _⟩
            case measure => simp [intOf]; omega
        · obtain rfl : j = k := by omega
          have e : i * j + j = (i + 1) * j := by rw [Nat.succ_mul]
          rw [e] at ho3 x3
          go_wp2
          go_roundw
          case rel => exact ⟨i + 1, A3, c3, by omega, by go_num, ho3, x3, r3, b3, R3, HB3.out⟩
          case measure => simp [intOf]; omega
    · obtain rfl : i = h := by omega
      rw [partL_all] at ho
      have f0 := x2.cell 0
      have f1 := x2.cell 1
      have f2 := x2.cell 2
      have g0 := r2.cell 0
      have g1 := r2.cell 1
      have g2 := r2.cell 2
      have z0 := r2.frozen 0
      have z1 := r2.frozen 1
      have z2 := r2.frozen 2
      have F := fin3 (p := w.heap.size + 1) (a := .int .i64 k) (b := .int .i64 i) (c := .slice A (i * k) c') ho (row_ne' ho.1 r2 (by decide)) HB.out (by omega)
      go_wp2
      exact bodyPost_ret (v := chartV k i (.slice A (i * k) c')) (by simp [results, Try.results52, go_sem, g0, g1, g2]) rfl ⟨A, c', by rw [partL_len], by rw [partL_len]; exact F.1, F.2⟩

def partOk (W H : Int) (xs : List Int) (row col h k : Int) : Bool := goodB W H xs && withinB W H row col h k
theorem fits_spec {W H : Int} {xs : List Int} {row col h k : Int} : partOk W H xs row col h k = (knotOk W H xs row col && inB h 1 (H - row) && inB k 1 (W - col)) := by
  rw [Bool.eq_iff_iff]
  simp [partOk, knotOk, withinB, inB, and_assoc]
  intro _ _ _
  exact ⟨fun h => by omega, fun h => by omega⟩
def partX (W H : Int) (xs : List Int) (row col h k : Int) : List Int := if partOk W H xs row col h k = true then partL W.toNat xs row.toNat col.toNat h.toNat k.toNat else []
/-- A part that fits, in natural numbers. -/
theorem part_nat {W H : Int} {xs : List Int} {row col h k : Int} (hp : partOk W H xs row col h k = true) :
    ∃ m kk r c h' k' : Nat, W = m ∧ H = kk ∧ row = r ∧ col = c ∧ h = h' ∧ k = k' ∧ goodB m kk xs = true ∧ 1 ≤ m ∧ m ≤ 8 ∧ kk ≤ 8 ∧ Hid (xs.length = m * kk) ∧ m * kk ≤ 64 ∧ xs.length ≤ 64 ∧ 1 ≤ xs.length ∧ r + h' ≤ kk ∧ c + k' ≤ m ∧ 1 ≤ h' ∧ 1 ≤ k' := by
  have hg : goodB W H xs = true := by simp [partOk] at hp; exact hp.1
  have hw : withinB W H row col h k = true := by simp [partOk] at hp; exact hp.2
  obtain ⟨m, kk, rfl, rfl, m1, m8, k1, k8, hl, h64, hl1, _⟩ := good_nat hg
  obtain ⟨r0, c0, h0, k0, rh, ck⟩ := withinB_yes hw
  obtain ⟨r, rfl⟩ := Int.eq_ofNat_of_zero_le r0
  obtain ⟨c, rfl⟩ := Int.eq_ofNat_of_zero_le c0
  obtain ⟨h', rfl⟩ := Int.eq_ofNat_of_zero_le (show 0 ≤ h by omega)
  obtain ⟨k', rfl⟩ := Int.eq_ofNat_of_zero_le (show 0 ≤ k by omega)
  exact ⟨m, kk, r, c, h', k', rfl, rfl, rfl, rfl, rfl, rfl, hg, m1, m8, k8, hl, by have := hl.out; omega, h64, hl1, by omega, by omega, by omega, by omega⟩
theorem part_le {m kk r c h k : Nat} (h64 : m * kk ≤ 64) (hrh : r + h ≤ kk) (hck : c + k ≤ m) : h * k ≤ 64 := by
  have : h * k ≤ kk * m := Nat.mul_le_mul (by omega) (by omega)
  rw [Nat.mul_comm kk m] at this
  omega
theorem partX_len (W H : Int) (xs : List Int) (row col h k : Int) : (partX W H xs row col h k).length ≤ 1048576 := by
  unfold partX
  split
  · rename_i hp
    obtain ⟨m, kk, r, c, h', k', rfl, rfl, rfl, rfl, rfl, rfl, _, _, _, _, _, h64, _, _, hrh, hck, _⟩ := part_nat hp
    rw [partL_len]
    have := part_le h64 hrh hck
    simp only [Int.toNat_natCast]
    omega
  · simp
end Go.Proofs.Ytjfdcmdgpeeabaa
