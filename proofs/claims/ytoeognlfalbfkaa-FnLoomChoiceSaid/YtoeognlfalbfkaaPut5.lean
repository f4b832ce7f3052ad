/- The walks that put a loom in its place, both texts. Condition: a valid list. -/
import Derived.Test.YtoeognlfalbfkaaLooms
import Derived.Test.YtoeognlfalbfkaaAppF
import Derived.Test.YtoeognlfalbfkaaLoomHelp
import Derived.BigQuiet
namespace Go.Proofs.Ytoeognlfalbfkaa
open Go.RowKit

/-- What a copy leaves whose room is not told. -/
def Cloned {α : Type} (F : Flat α) (w : World) (xs : List α) (e : Ending) (w' : World) : Prop :=
  ∃ g c, e = .returned (.slice (some ⟨g, 0, none⟩) xs.length c) ∧ OwnF F w' w.heap.size (.slice (some ⟨g, 0, none⟩) xs.length c) xs ∧ Below w.heap.size w w'
set_option maxRecDepth 100000 in
set_option maxHeartbeats 1000000 in
theorem cloneLooms_any (b off n c B : Nat) (xs : List LoomR) (w : World) (h : RdF loomF w B (some ⟨b, off, none⟩) n c xs) (hB : B ≤ w.heap.size) (hn0 : 0 < n) (hn : n ≤ 1000) :
    Calls Try.prog 59 #[.slice (some ⟨b, off, none⟩) n c] w (Cloned loomF w xs) := by
  obtain rfl := h.len
  have hR := h.alloc hB (.cells #[] 37)
  have ho := OwnF.empty loomF (w := w) (Nat.le_refl _)
  have hb : Below w.heap.size w (w.alloc (.cells #[] 37)) := (Below.refl _ _).alloc (Nat.le_refl _) _
  go_enter Try.func59, Try.ntmps59
  go_wp2_with fail
  rw [show Sem.run Try.prog (binOp BinOp.eql 24 (Value.slice (some ⟨b, off, none⟩) xs.length c) (Value.slice none 0 0)) w = .ok (.bool false) w from rfl]
  go_wp2_with (refine wpList_appendF loomF rfl _ (.tmp 5) (.tmp 6) 24 (.agg #[.int .i64 0, .int .i64 0, .int .i64 0, .int .i64 0, .int .i64 0]) 40 rfl Try.underlying24 info_Loom rfl (by decide) (by decide) w.heap.size _ [] xs b off xs.length c B rfl rfl ho hR (by simp; omega) (by simp) ?_)
  intro A1 c1 w1 ho1 hg1
  (try simp only [List.length_nil, Nat.zero_add, List.nil_append] at ho1 ⊢)
  have hb1 := hb.grown hg1 (by simp) (fun k hk => (ho.bd k hk).1)
  obtain ⟨g, rfl, _, _⟩ := ho1.some_ hn0
  go_wp2
  go_ret
  exact ⟨g, c1, rfl, ho1, hb1⟩
set_option maxRecDepth 100000 in
set_option maxHeartbeats 4000000 in
theorem withLoom_any (b off n c B : Nat) (xs : List LoomR) (y : LoomR) (i : Nat) (a : LoomR) (w : World) (h : RdF loomF w B (some ⟨b, off, none⟩) n c xs) (hB : B ≤ w.heap.size) (hg : loomsB xs = true) (ha : xs[i]? = some a) (e0 : y.f0 = a.f0) (hy : y.ok) :
    Calls Try.prog 41 #[.slice (some ⟨b, off, none⟩) n c, .agg #[.int .i64 y.f0, .int .i64 y.f1, .int .i64 y.f2, .int .i64 y.f3, .int .i64 y.f4]] w (OutF loomF w (put5 xs i y).1 (put5 xs i y).2) := by
  obtain rfl := h.len
  have hn8 : xs.length ≤ 8 := (loomsB_of hg).1
  have hi := (List.getElem?_eq_some_iff.1 ha).1
  have x3 := Blk.new w #[.int .i64 y.f0, .int .i64 y.f1, .int .i64 y.f2, .int .i64 y.f3, .int .i64 y.f4] 37
  have HB : Below w.heap.size w (w.alloc (.cells #[.int .i64 y.f0, .int .i64 y.f1, .int .i64 y.f2, .int .i64 y.f3, .int .i64 y.f4] 37)) := (Below.refl _ _).alloc (Nat.le_refl _) _
  have hR := h.alloc hB (.cells #[.int .i64 y.f0, .int .i64 y.f1, .int .i64 y.f2, .int .i64 y.f3, .int .i64 y.f4] 37)
  have HG := Lib.hid (loomsB_of hg)
  have HA := Lib.hid ha
  have HE := Lib.hid e0
  clear hg ha e0
  by_cases hv : loomB y = true
  rotate_left
  · have hv' := not_false hv
    have H := Lib.hid (show put5 xs i y = ([], false) by unfold put5; rw [if_neg hv])
    rw [H.out]
    go_enter Try.func41, Try.ntmps41
    go_wp2_with fail
    refine (implIsLoom_eq y _ _ hv').mono ?_
    rintro e w1 ⟨rfl, hb⟩
    replace HB := HB.trans (hb.mono HB.size)
    clear hb
    go_wp2
    go_ret2
    exact ⟨none, 0, rfl, OwnF.nil _ _ _, HB⟩
  have H := Lib.hid (show put5 xs i y = (xs.set i y, true) by unfold put5; rw [if_pos hv])
  rw [H.out]
  go_enter Try.func41, Try.ntmps41
  go_wp2_with fail
  refine (implIsLoom_eq y _ _ hv).mono ?_
  rintro e w1 ⟨rfl, hb⟩
  replace x3 := x3.all hb
  replace hR := hR.all hb (by simp; omega)
  replace HB := HB.trans (hb.mono HB.size)
  have hz1 := HB.size
  have hB1 : B ≤ w1.heap.size := Nat.le_trans hB hz1
  clear hb
  go_wp2_with fail
  refine (cloneLooms_any b off _ c B xs _ hR hB1 (by omega) (by omega)).mono ?_
  rintro e w2 ⟨g, c2, rfl, ho, hb⟩
  have hgP : w.heap.size < g := Nat.lt_of_lt_of_le x3.lt (ho.bd g rfl).1
  replace x3 := x3.all hb
  replace HB := HB.trans (hb.mono HB.size)
  replace ho := ho.mono hz1
  clear hb hR
  go_wp2
  go_loopw [15, 7] (fun ii j wr => ∃ (k : Nat) (ys : List LoomR), k ≤ xs.length ∧ ii = .int .i64 k ∧ ys.length = xs.length ∧ Hid ((k ≤ i ∧ ys = xs) ∨ (i < k ∧ ys = xs.set i y)) ∧ OwnF loomF wr w.heap.size (.slice (some ⟨g, 0, none⟩) xs.length c2) ys ∧ Below w.heap.size w wr ∧ Blk wr w.heap.size 37 #[.int .i64 y.f0, .int .i64 y.f1, .int .i64 y.f2, .int .i64 y.f3, .int .i64 y.f4]) (fun ii _ _ => xs.length - (intOf ii).toNat)
  case atStart => exact ⟨0, xs, Nat.zero_le _, rfl, rfl, Or.inl ⟨Nat.zero_le _, rfl⟩, ho, HB, x3⟩
  case round =>
    obtain ⟨k, ys, hk, rfl, hyl, HY, ho, HB, x3⟩ := hrel
    have HL := Lib.hid hyl
    clear hyl
    by_cases hlt : k < xs.length
    · obtain ⟨d, HD⟩ : ∃ d, Hid (ys[k]? = some d) := ⟨_, List.getElem?_eq_getElem (by rw [HL.out]; exact hlt)⟩
      have hd0 : wr.cell? ⟨g, k * 5, none⟩ = some (.int .i64 d.f0) := ho.cell (i := 0) HD.out rfl
      have ex0 := x3.cell 0
      have hk0 : (0 : Int) ≤ (k : Int) := by omega
      have hkn : (k : Int) < (xs.length : Int) := by omega
      by_cases hki : k = i
      · have hys : ys = xs := by rcases HY.out with ⟨_, e⟩ | ⟨h1, _⟩; · exact e
                                 · omega
        have hda : d.f0 = y.f0 := by
          have h1 := HD.out
          rw [hys, hki, HA.out] at h1
          cases h1
          exact HE.out.symm
        have hdy : (d.f0 == y.f0) = true := by simp [hda]
        have HYS := Lib.hid hys
        have HKI := Lib.hid hki
        clear hys hki
        rw [hda] at hd0
        clear hda hdy
        go_wp2
        go_quiet (fail)
        replace ho := ho.drewN nq
        replace HB := belowN HB nq
        replace x3 : Blk (wr.drewN nq) w.heap.size 37 #[.int .i64 y.f0, .int .i64 y.f1, .int .i64 y.f2, .int .i64 y.f3, .int .i64 y.f4] := x3
        generalize wr.drewN nq = w5 at *
        clear ex0 hd0
        have hlen : k < ys.length := by rw [HL.out]; exact hlt
        have ex30 := x3.cell 0
        have ex31 := x3.cell 1
        have ex32 := x3.cell 2
        have ex33 := x3.cell 3
        have ex34 := x3.cell 4
        obtain ⟨y0, hy0⟩ := ho.there (j := k) (i := 0) (by omega) (by decide)
        have hf0 : w5.frozen? ⟨g, k * 5, none⟩ = false := ho.frozen _
        replace hy0 : w5.cell? ⟨g, k * 5, none⟩ = some y0 := hy0
        obtain ⟨y1, hy1⟩ := ho.there (j := k) (i := 1) (by omega) (by decide)
        have hf1 : w5.frozen? ⟨g, k * 5 + 1, none⟩ = false := ho.frozen _
        replace hy1 : w5.cell? ⟨g, k * 5 + 1, none⟩ = some y1 := hy1
        obtain ⟨y2, hy2⟩ := ho.there (j := k) (i := 2) (by omega) (by decide)
        have hf2 : w5.frozen? ⟨g, k * 5 + 2, none⟩ = false := ho.frozen _
        replace hy2 : w5.cell? ⟨g, k * 5 + 2, none⟩ = some y2 := hy2
        obtain ⟨y3, hy3⟩ := ho.there (j := k) (i := 3) (by omega) (by decide)
        have hf3 : w5.frozen? ⟨g, k * 5 + 3, none⟩ = false := ho.frozen _
        replace hy3 : w5.cell? ⟨g, k * 5 + 3, none⟩ = some y3 := hy3
        obtain ⟨y4, hy4⟩ := ho.there (j := k) (i := 4) (by omega) (by decide)
        have hf4 : w5.frozen? ⟨g, k * 5 + 4, none⟩ = false := ho.frozen _
        replace hy4 : w5.cell? ⟨g, k * 5 + 4, none⟩ = some y4 := hy4
        have HP := ho.put (j := k) hlen y hy
        go_wp2
        go_roundw
        case rel => exact ⟨k + 1, ys.set k y, by omega, by go_num, by rw [List.length_set]; exact HL.out, Or.inr ⟨by have := HKI.out; omega, by rw [HYS.out, HKI.out]⟩, HP.1, HB.grown HP.2 HB.size (fun j hj => by cases hj; omega), x3.mark HP.2 (fun j hj => by cases hj; omega)⟩
        case measure => simp [intOf]; omega
      · have hdy : (d.f0 == y.f0) = false := by
          have h1 : xs[k]? = some d := by
            have := HD.out
            rcases HY.out with ⟨_, e⟩ | ⟨_, e⟩
            · rwa [e] at this
            · rwa [e, List.getElem?_set, if_neg (fun h' => hki h'.symm)] at this
          simp only [beq_eq_false_iff_ne, ne_eq]
          intro h2
          exact hki (looms_inj HG.out h1 HA.out (by rw [h2]; exact HE.out))
        have HKI := Lib.hid hki
        clear hki
        go_wp2
        go_quiet (fail)
        go_wp2
        go_roundw
        case rel => exact ⟨k + 1, ys, by omega, by go_num, HL.out, by
          have h1 := HKI.out
          rcases HY.out with ⟨h2, e⟩ | ⟨h2, e⟩
          · exact Or.inl ⟨by omega, e⟩
          · exact Or.inr ⟨by omega, e⟩, ho.drewN nq, belowN HB nq, x3⟩
        case measure => simp [intOf]; omega
    · have hys : ys = xs.set i y := by
        rcases HY.out with ⟨h1, _⟩ | ⟨_, e⟩
        · omega
        · exact e
      subst hys
      go_wp2
      go_ret2
      refine ⟨some ⟨g, 0, none⟩, c2, ?_, ?_, HB⟩
      · rw [List.length_set]; rfl
      · simpa only [List.length_set] using ho
set_option maxRecDepth 100000 in
set_option maxHeartbeats 4000000 in
theorem l5With_any (b off n c B : Nat) (xs : List LoomR) (y : LoomR) (i : Nat) (a : LoomR) (w : World) (h : RdF loomF w B (some ⟨b, off, none⟩) n c xs) (hB : B ≤ w.heap.size) (hg : loomsB xs = true) (ha : xs[i]? = some a) (e0 : y.f0 = a.f0) (hy : y.ok) :
    Calls Try.prog 44 #[.slice (some ⟨b, off, none⟩) n c, .int .i64 i, .agg #[.int .i64 y.f0, .int .i64 y.f1, .int .i64 y.f2, .int .i64 y.f3, .int .i64 y.f4]] w (OutF loomF w (put5 xs i y).1 (put5 xs i y).2) := by
  obtain rfl := h.len
  have hn8 : xs.length ≤ 8 := (loomsB_of hg).1
  have hi := (List.getElem?_eq_some_iff.1 ha).1
  have x3 := (Blk.new w #[.int .i64 y.f0, .int .i64 y.f1, .int .i64 y.f2, .int .i64 y.f3, .int .i64 y.f4] 37).alloc (.cells #[] 37)
  have hb0 : Below w.heap.size w (w.alloc (.cells #[.int .i64 y.f0, .int .i64 y.f1, .int .i64 y.f2, .int .i64 y.f3, .int .i64 y.f4] 37)) := (Below.refl _ _).alloc (Nat.le_refl _) _
  have ho := OwnF.empty loomF (w := w.alloc (.cells #[.int .i64 y.f0, .int .i64 y.f1, .int .i64 y.f2, .int .i64 y.f3, .int .i64 y.f4] 37)) (lo := w.heap.size + 1) (by simp)
  rw [show (w.alloc (.cells #[.int .i64 y.f0, .int .i64 y.f1, .int .i64 y.f2, .int .i64 y.f3, .int .i64 y.f4] 37)).heap.size = w.heap.size + 1 by simp] at ho
  have hR := (h.alloc hB (.cells #[.int .i64 y.f0, .int .i64 y.f1, .int .i64 y.f2, .int .i64 y.f3, .int .i64 y.f4] 37)).alloc (by simp; omega) (.cells #[] 37)
  have HB : Below w.heap.size w ((w.alloc (.cells #[.int .i64 y.f0, .int .i64 y.f1, .int .i64 y.f2, .int .i64 y.f3, .int .i64 y.f4] 37)).alloc (.cells #[] 37)) := hb0.alloc (by simp) _
  have hset := Lib.hid (looms_set hg ha e0)
  have HV := Lib.hid (show put5 xs i y = if loomB y = true then (xs.set i y, true) else ([], false) from rfl)
  clear hg ha e0 hb0
  cases hv : loomB y
  case false =>
    have H := Lib.hid (show put5 xs i y = ([], false) by rw [HV.out, hv]; rfl)
    rw [H.out]
    rw [hv] at hset
    clear hv
    go_enter Try.func44, Try.ntmps44
    go_wp2_with (refine wpList_appendF loomF rfl _ (.tmp 9) (.tmp 10) 24 (.agg #[.int .i64 0, .int .i64 0, .int .i64 0, .int .i64 0, .int .i64 0]) 40 rfl Try.underlying24 info_Loom rfl (by decide) (by decide) (w.heap.size + 1) _ [] xs b off xs.length c B rfl rfl ho hR (by simp; omega) (by simp) ?_)
    intro A1 c1 w1 ho1 hg1
    (try simp only [List.length_nil, Nat.zero_add, List.nil_append] at ho1 ⊢)
    have hgb := fun k hk => (ho.bd k hk).1
    have HB1 := HB.grown hg1 (by simp; omega) (fun k hk => by have := hgb k hk; omega)
    have x31 := x3.mark hg1 (fun k hk => by have := hgb k hk; omega)
    obtain ⟨g, rfl, hgl, _⟩ := ho1.some_ (by omega)
    clear ho hR HB x3 hg1 hgb
    have hik : (i : Int) < (xs.length : Int) := by omega
    have hi0 : (0 : Int) ≤ (i : Int) := by omega
    have ex310 := x31.cell 0
    have ex311 := x31.cell 1
    have ex312 := x31.cell 2
    have ex313 := x31.cell 3
    have ex314 := x31.cell 4
    obtain ⟨y0, hy0⟩ := ho1.there (j := i) (i := 0) (by omega) (by decide)
    have hf0 : w1.frozen? ⟨g, i * 5, none⟩ = false := ho1.frozen _
    replace hy0 : w1.cell? ⟨g, i * 5, none⟩ = some y0 := hy0
    obtain ⟨y1, hy1⟩ := ho1.there (j := i) (i := 1) (by omega) (by decide)
    have hf1 : w1.frozen? ⟨g, i * 5 + 1, none⟩ = false := ho1.frozen _
    replace hy1 : w1.cell? ⟨g, i * 5 + 1, none⟩ = some y1 := hy1
    obtain ⟨y2, hy2⟩ := ho1.there (j := i) (i := 2) (by omega) (by decide)
    have hf2 : w1.frozen? ⟨g, i * 5 + 2, none⟩ = false := ho1.frozen _
    replace hy2 : w1.cell? ⟨g, i * 5 + 2, none⟩ = some y2 := hy2
    obtain ⟨y3, hy3⟩ := ho1.there (j := i) (i := 3) (by omega) (by decide)
    have hf3 : w1.frozen? ⟨g, i * 5 + 3, none⟩ = false := ho1.frozen _
    replace hy3 : w1.cell? ⟨g, i * 5 + 3, none⟩ = some y3 := hy3
    obtain ⟨y4, hy4⟩ := ho1.there (j := i) (i := 4) (by omega) (by decide)
    have hf4 : w1.frozen? ⟨g, i * 5 + 4, none⟩ = false := ho1.frozen _
    replace hy4 : w1.cell? ⟨g, i * 5 + 4, none⟩ = some y4 := hy4
    have HP := ho1.put (j := i) hi y hy
    have HB2 := HB1.grown HP.2 HB1.size (fun j hj => by cases hj; omega)
    have hw2 := HP.1.rd
    have hl2 : (xs.set i y).length = xs.length := List.length_set
    have hz2 := HP.2.size
    go_wp2_with fail
    refine (l5Good_any _ _ c1 _ (xs.set i y) _ hw2 (Nat.le_refl _)).mono ?_
    rintro e w2 ⟨rfl, hb⟩
    have HB3 := HB2.trans (hb.mono HB2.size)
    rw [hset.out]
    clear hb HP HB2 hw2 hz2 HB1 ho1
    go_wp2
    go_ret2
    exact ⟨some ⟨w2.heap.size, 0, none⟩, 0, rfl, OwnF.empty loomF HB3.size, HB3.alloc HB3.size _⟩
  case true =>
    have H := Lib.hid (show put5 xs i y = (xs.set i y, true) by rw [HV.out, hv]; rfl)
    rw [H.out]
    rw [hv] at hset
    clear hv
    go_enter Try.func44, Try.ntmps44
    go_wp2_with (refine wpList_appendF loomF rfl _ (.tmp 9) (.tmp 10) 24 (.agg #[.int .i64 0, .int .i64 0, .int .i64 0, .int .i64 0, .int .i64 0]) 40 rfl Try.underlying24 info_Loom rfl (by decide) (by decide) (w.heap.size + 1) _ [] xs b off xs.length c B rfl rfl ho hR (by simp; omega) (by simp) ?_)
    intro A1 c1 w1 ho1 hg1
    (try simp only [List.length_nil, Nat.zero_add, List.nil_append] at ho1 ⊢)
    have hgb := fun k hk => (ho.bd k hk).1
    have HB1 := HB.grown hg1 (by simp; omega) (fun k hk => by have := hgb k hk; omega)
    have x31 := x3.mark hg1 (fun k hk => by have := hgb k hk; omega)
    obtain ⟨g, rfl, hgl, _⟩ := ho1.some_ (by omega)
    clear ho hR HB x3 hg1 hgb
    have hik : (i : Int) < (xs.length : Int) := by omega
    have hi0 : (0 : Int) ≤ (i : Int) := by omega
    have ex310 := x31.cell 0
    have ex311 := x31.cell 1
    have ex312 := x31.cell 2
    have ex313 := x31.cell 3
    have ex314 := x31.cell 4
    obtain ⟨y0, hy0⟩ := ho1.there (j := i) (i := 0) (by omega) (by decide)
    have hf0 : w1.frozen? ⟨g, i * 5, none⟩ = false := ho1.frozen _
    replace hy0 : w1.cell? ⟨g, i * 5, none⟩ = some y0 := hy0
    obtain ⟨y1, hy1⟩ := ho1.there (j := i) (i := 1) (by omega) (by decide)
    have hf1 : w1.frozen? ⟨g, i * 5 + 1, none⟩ = false := ho1.frozen _
    replace hy1 : w1.cell? ⟨g, i * 5 + 1, none⟩ = some y1 := hy1
    obtain ⟨y2, hy2⟩ := ho1.there (j := i) (i := 2) (by omega) (by decide)
    have hf2 : w1.frozen? ⟨g, i * 5 + 2, none⟩ = false := ho1.frozen _
    replace hy2 : w1.cell? ⟨g, i * 5 + 2, none⟩ = some y2 := hy2
    obtain ⟨y3, hy3⟩ := ho1.there (j := i) (i := 3) (by omega) (by decide)
    have hf3 : w1.frozen? ⟨g, i * 5 + 3, none⟩ = false := ho1.frozen _
    replace hy3 : w1.cell? ⟨g, i * 5 + 3, none⟩ = some y3 := hy3
    obtain ⟨y4, hy4⟩ := ho1.there (j := i) (i := 4) (by omega) (by decide)
    have hf4 : w1.frozen? ⟨g, i * 5 + 4, none⟩ = false := ho1.frozen _
    replace hy4 : w1.cell? ⟨g, i * 5 + 4, none⟩ = some y4 := hy4
    have HP := ho1.put (j := i) hi y hy
    have HB2 := HB1.grown HP.2 HB1.size (fun j hj => by cases hj; omega)
    have hw2 := HP.1.rd
    have hl2 : (xs.set i y).length = xs.length := List.length_set
    have hz2 := HP.2.size
    go_wp2_with fail
    refine (l5Good_any _ _ c1 _ (xs.set i y) _ hw2 (Nat.le_refl _)).mono ?_
    rintro e w2 ⟨rfl, hb⟩
    have HO := HP.1.all hb
    have HB3 := HB2.trans (hb.mono HB2.size)
    rw [hset.out]
    clear hb HP HB2 hw2 hz2 HB1 ho1
    go_wp2
    go_ret2
    exact ⟨some ⟨g, 0, none⟩, c1, by rw [List.length_set]; rfl, by simpa only [List.length_set] using HO.mono (by omega), HB3⟩
end Go.Proofs.Ytoeognlfalbfkaa
