/- The walk of the program's mirrored. Condition: sides of at most 8. -/
import Derived.Test.YtpmhnklmhfadlaaTurned
import Derived.Test.YtpmhnklmhfadlaaShelf
namespace Go.Proofs.Ytpmhnklmhfadlaa
open Go.RowKit

/-- Some numbers laid over others from a place on. -/
def setL : List Int → Nat → List Int → List Int
  | xs, _, [] => xs
  | xs, o, v :: vs => setL (xs.set o v) (o + 1) vs
theorem setL_len : ∀ (vs xs : List Int) (o : Nat), (setL xs o vs).length = xs.length
  | [], _, _ => rfl
  | v :: vs, xs, o => by rw [setL, setL_len vs]; simp
theorem setL_get : ∀ (vs xs : List Int) (o q : Nat), o + vs.length ≤ xs.length → (setL xs o vs).getD q 0 = if o ≤ q ∧ q < o + vs.length then vs.getD (q - o) 0 else xs.getD q 0
  | [], xs, o, q, _ => by rw [setL, if_neg (by simp only [List.length_nil]; omega)]
  | v :: vs, xs, o, q, h => by
    rw [List.length_cons] at h
    rw [setL, setL_get vs _ _ _ (by simp; omega), List.length_cons]
    by_cases h1 : o + 1 ≤ q ∧ q < o + 1 + vs.length
    · rw [if_pos h1, if_pos (by omega)]
      have : q - o = q - (o + 1) + 1 := by omega
      rw [this]; rfl
    · rw [if_neg h1]
      by_cases h2 : q = o
      · subst h2
        rw [if_pos (by omega), Nat.sub_self, List.getD_eq_getElem?_getD, List.getElem?_set_self (by omega)]; rfl
      · rw [if_neg (by omega), List.getD_eq_getElem?_getD, List.getElem?_set_ne (by omega), ← List.getD_eq_getElem?_getD]
theorem own_setCells {lo g n c : Nat} : ∀ (vs xs : List Int) (o : Nat) (w : World), (∀ v ∈ vs, I64 v) → Own w lo (.slice (some ⟨g, 0, none⟩) n c) xs →
    Own (w.setCells g o (vs.map (Value.int .i64))) lo (.slice (some ⟨g, 0, none⟩) n c) (setL xs o vs) ∧ w.grownBy (w.setCells g o (vs.map (Value.int .i64))) (some g)
  | [], xs, o, w, _, h => ⟨h, ⟨rfl, rfl, rfl, Nat.le_refl _, fun _ _ _ => rfl⟩⟩
  | v :: vs, xs, o, w, hv, h => by
    obtain ⟨_, h1, h2⟩ := own_put h o v (hv v (by simp))
    obtain ⟨h3, h4⟩ := own_setCells vs (xs.set o v) (o + 1) _ (fun u hu => hv u (by simp [hu])) h1
    exact ⟨h3, grown_trans h2 h4⟩
theorem rev_get {zs : List Int} {j : Nat} (h : j < zs.length) : zs.reverse.getD j 0 = zs.getD (zs.length - 1 - j) 0 := by
  rw [List.getD_eq_getElem?_getD, List.getElem?_reverse h, ← List.getD_eq_getElem?_getD]
/-- The first i rows are mirrored. -/
def Mid (m k : Nat) (xs ys : List Int) (i : Nat) : Prop := ys.length = m * k ∧ ∀ r j, r < k → j < m → ys.getD (r * m + j) 0 = if r < i then elt m xs r (m - 1 - j) else elt m xs r j
theorem mid_start {m k : Nat} {xs : List Int} (h : xs.length = m * k) : Mid m k xs xs 0 := ⟨h, fun r j _ _ => by rw [if_neg (by omega)]; rfl⟩
theorem mid_end {m k : Nat} {xs ys : List Int} (h : Mid m k xs ys k) : ys = mirrorL m k xs :=
  gridL_ext (by rw [h.1, Nat.mul_comm]) fun i j hi hj => by rw [h.2 i j hi hj, if_pos hi]
theorem mid_step {m k i : Nat} {xs ys : List Int} (h : Mid m k xs ys i) (hi : i < k) : Mid m k xs (setL ys (i * m) (rowL m i ys).reverse) (i + 1) := by
  have hl := rowL_len h.1 hi
  have hle := row_le h.1 hi
  refine ⟨by rw [setL_len]; exact h.1, fun r j hr hj => ?_⟩
  rw [setL_get _ _ _ _ (by rw [List.length_reverse, hl]; exact hle), List.length_reverse, hl]
  by_cases e : r = i
  · subst e
    rw [if_pos (by omega), if_pos (by omega), Nat.add_sub_cancel_left, rev_get (by rw [hl]; exact hj), hl, rowL_get (by omega), h.2 r _ hr (by omega), if_neg (by omega)]
  · have hn : ¬ (i * m ≤ r * m + j ∧ r * m + j < i * m + m) := by
      rcases Nat.lt_or_gt_of_ne e with e | e
      · have := Nat.mul_le_mul_right m e
        rw [Nat.succ_mul] at this
        omega
      · have := Nat.mul_le_mul_right m e
        rw [Nat.succ_mul] at this
        omega
    rw [if_neg hn, h.2 r j hr hj]
    by_cases e2 : r < i
    · rw [if_pos e2, if_pos (by omega)]
    · rw [if_neg e2, if_neg (by omega)]
theorem rowOf_g (m k r b n c : Nat) (w : World) (h : n = m * k) (hc : n ≤ c) (hcm : c ≤ maxLen) (hm : 1 ≤ m) (hm8 : m ≤ 8) (hr : r < k) (hk8 : k ≤ 8) :
    Calls Try.prog 56 #[chartV m k (.slice (some ⟨b, 0, none⟩) n c), .int .i64 r] w (Out w (.slice (some ⟨b, r * m, none⟩) m (c - r * m))) := by
  have := rowOf_i m k r b 0 n c w h hc hcm hm hm8 hr hk8 r rfl
  rwa [Nat.zero_add] at this
set_option maxRecDepth 100000 in
set_option maxHeartbeats 2000000 in
theorem mirrored_any (m k b off cc B : Nat) (xs : List Int) (w : World) (hR : Rd w B (some ⟨b, off, none⟩) xs.length cc xs) (hB : B ≤ w.heap.size) (m1 : 1 ≤ m) (m8 : m ≤ 8) (k1 : 1 ≤ k) (k8 : k ≤ 8) (hl : Hid (xs.length = m * k)) (h64 : m * k ≤ 64) (hl1 : 1 ≤ xs.length) :
    Calls Try.prog 97 #[chartV m k (.slice (some ⟨b, off, none⟩) xs.length cc)] w (OwnChart w m k (mirrorL m k xs)) := by
  have hb0 := Lib.hid (((Below.refl w.heap.size w).alloc (Nat.le_refl _) (.cells #[.int .i64 m, .int .i64 k, .slice (some ⟨b, off, none⟩) xs.length cc] 26)).alloc (by simp) (.cells #[.int .i64 0, .int .i64 0, .slice none 0 0] 26))
  have h' := Lib.hid ((hR.alloc hB (.cells #[.int .i64 m, .int .i64 k, .slice (some ⟨b, off, none⟩) xs.length cc] 26)).alloc (by simp; omega) (.cells #[.int .i64 0, .int .i64 0, .slice none 0 0] 26))
  have r0 := (Blk.new (w.alloc (.cells #[.int .i64 m, .int .i64 k, .slice (some ⟨b, off, none⟩) xs.length cc] 26)) #[.int .i64 0, .int .i64 0, .slice none 0 0] 26)
  have hx64 : xs.length ≤ 64 := by have := hl.out; omega
  clear hR
  go_enter Try.func97, Try.ntmps97
  go_wp2_with fail
  refine (copyChart_any m k _ _ cc B xs _ h'.out (by simp; omega) (by omega)).mono ?_
  rintro e w1 ⟨A', c', rfl, own, hb⟩
  obtain ⟨g, rfl, hg1, hg2⟩ := own.some_ (by omega)
  have r1 := (r0.all hb).at_ (q := w.heap.size + 1) (by simp)
  have HB := Lib.hid (hb0.out.trans (hb.mono (by simp; omega)))
  have hs1 : w.heap.size + 2 ≤ w1.heap.size := by have := hb.size; simp at this; omega
  have hg3 : w.heap.size + 2 ≤ g := by simp at hg1; omega
  have hcap := own.rd.cap
  have hmax := own.rd.max
  clear hb r0 h' hg1
  go_wp2
  have own0 := own.alloc (.cells #[.int .i64 m, .int .i64 k, .slice (some ⟨g, 0, none⟩) xs.length c'] 26)
  go_loopw [9, 4] (fun i i4 wr => ∃ (j : Nat) (ys : List Int), j ≤ k ∧ i = .int .i64 j ∧ Hid (Mid m k xs ys j) ∧ Own wr w.heap.size (.slice (some ⟨g, 0, none⟩) xs.length c') ys ∧
      Blk wr (w.heap.size + 1) 26 #[.int .i64 0, .int .i64 0, .slice none 0 0] ∧ Blk wr w1.heap.size 26 #[.int .i64 m, .int .i64 k, .slice (some ⟨g, 0, none⟩) xs.length c'] ∧ Below w.heap.size w wr)
    (fun i _ _ => k - (intOf i).toNat)
  case atStart => exact ⟨0, xs, Nat.zero_le _, rfl, Lib.hid (mid_start hl.out), own0.mono (by simp; omega), r1.alloc _, Blk.new _ _ _, HB.out.alloc (by omega) _⟩
  case round =>
    obtain ⟨j, ys, hj, rfl, hmid, ho, r2, x2, hbl⟩ := hrel
    have HB2 := Lib.hid hbl
    have hz2 : w.heap.size ≤ wr.heap.size := hbl.size
    have e0 := x2.cell 0
    have e1 := x2.cell 1
    have e2 := x2.cell 2
    clear hbl own own0 HB r1
    by_cases hlt : j < k
    · have hyl : ys.length = xs.length := hmid.out.1.trans hl.out.symm
      go_wp2_with fail
      refine (rowOf_g m k j g xs.length c' _ hl.out hcap hmax m1 m8 hlt k8).mono ?_
      rintro e wa ⟨rfl, hb⟩
      have oa := ho.all hb
      have r3 := r2.all hb
      have x3 := x2.all hb
      have HB3 := Lib.hid (HB2.out.trans (hb.mono hz2))
      have hz3 : w.heap.size ≤ wa.heap.size := Nat.le_trans hz2 hb.size
      clear hb ho r2 x2 HB2 e0 e1 e2
      have hrow := row_le hl.out hlt
      have hzl : (rowL m j ys).length = m := rowL_len hmid.out.1 hlt
      have HZ := Lib.hid hzl
      have HC : Hid (∀ q, q < (rowL m j ys).length → wa.cell? ⟨g, j * m + q, none⟩ = some (.int .i64 ((rowL m j ys).getD q 0))) := Lib.hid fun q hq => by
        rw [hzl] at hq
        rw [rowL_get hq]
        exact own_at oa (by omega) rfl
      have HF : Hid (∀ q, q < m → wa.frozen? ⟨g, j * m + q, none⟩ = false) := Lib.hid fun q _ => (own_put oa (j * m + q) 0 ⟨by omega, by omega⟩).1
      clear hzl
      go_wp2_with fail
      refine (Try.slices_Reverse_int_cells g (j * m) m (c' - j * m) (rowL m j ys) _ (Nat.le_of_eq HZ.out.symm) (by omega) HC.out HF.out).mono ?_
      rintro e wb ⟨rfl, q, rfl⟩
      rw [List.take_of_length_le (Nat.le_of_eq HZ.out)]
      have hfit : ∀ v ∈ (rowL m j ys).reverse, I64 v := fun v hv => oa.2 v (List.mem_of_mem_drop (List.mem_of_mem_take (List.mem_reverse.1 hv)))
      obtain ⟨ob, hgr⟩ := own_setCells (rowL m j ys).reverse ys (j * m) (wa.drewN q) hfit (oa.drewN q)
      have hD := low_drewN wa q
      have r4 := (r3.all hD).mark hgr (fun z hz => by cases hz; omega)
      have x4 := (x3.all hD).mark hgr (fun z hz => by cases hz; omega)
      have HB4 := Lib.hid ((HB3.out.trans (hD.mono hz3)).grown hgr (by simpa using hz3) (fun z hz => by cases hz; omega))
      have HM := Lib.hid (mid_step hmid.out hlt)
      clear HC HF hfit hgr hD oa r3 x3 HB3 HZ hmid
      generalize (wa.drewN q).setCells g (j * m) ((rowL m j ys).reverse.map (Value.int .i64)) = wc at *
      go_wp2
      go_roundw
      case rel => exact ⟨j + 1, _, by omega, by go_num, HM, ob, r4, x4, HB4.out⟩
      case measure => simp [intOf]; omega
    · obtain rfl : j = k := by omega
      obtain rfl := mid_end hmid.out
      have g0 := r2.cell 0
      have g1 := r2.cell 1
      have g2 := r2.cell 2
      have z0 := r2.frozen 0
      have z1 := r2.frozen 1
      have z2 := r2.frozen 2
      have F := fin3 (p := w.heap.size + 1) (a := .int .i64 m) (b := .int .i64 j) (c := .slice (some ⟨g, 0, none⟩) xs.length c') ho (by simp [Value.ownBlock]; omega) HB2.out (by omega)
      have hml : (mirrorL m j xs).length = xs.length := by rw [mirrorL_len, Nat.mul_comm]; exact hl.out.symm
      have HML := Lib.hid hml
      clear hml
      go_wp2
      exact bodyPost_ret (v := chartV m j (.slice (some ⟨g, 0, none⟩) xs.length c')) (by simp [results, Try.results97, go_sem, g0, g1, g2]) rfl ⟨_, c', by rw [HML.out], by rw [HML.out]; exact F.1, F.2⟩
end Go.Proofs.Ytpmhnklmhfadlaa
