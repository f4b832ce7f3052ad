/- The walk of the model's SeatWeaver. Condition: the loom fits into an int. -/
import Derived.Test.YtanfblpibomfaaaCopy11
import Derived.BigQuiet
namespace Go.Proofs.Ytanfblpibomfaaa
open Go.RowKit

set_option maxRecDepth 100000 in
set_option maxHeartbeats 4000000 in
theorem l11With_any (b off n c B : Nat) (xs : List WeaverR) (y : WeaverR) (i : Nat) (w : World) (h : RdF weaverF w B (some ⟨b, off, none⟩) n c xs) (hB : B ≤ w.heap.size) (hn : n ≤ 1000) (hi : i < xs.length) (hy : y.ok) :
    Calls Try.prog 51 #[.slice (some ⟨b, off, none⟩) n c, .int .i64 i, .agg #[.int .i64 y.f0, .string y.f1, .int .i64 y.f2, .int .i64 y.f3, .int .i64 y.f4]] w (OutF weaverF w (put11 xs i y).1 (put11 xs i y).2) := by
  obtain rfl := h.len
  have x3 := (Blk.new w #[.int .i64 y.f0, .string y.f1, .int .i64 y.f2, .int .i64 y.f3, .int .i64 y.f4] 40).alloc (.cells #[] 40)
  have hb0 : Below w.heap.size w (w.alloc (.cells #[.int .i64 y.f0, .string y.f1, .int .i64 y.f2, .int .i64 y.f3, .int .i64 y.f4] 40)) := (Below.refl _ _).alloc (Nat.le_refl _) _
  have ho := OwnF.empty weaverF (w := w.alloc (.cells #[.int .i64 y.f0, .string y.f1, .int .i64 y.f2, .int .i64 y.f3, .int .i64 y.f4] 40)) (lo := w.heap.size + 1) (by simp)
  rw [show (w.alloc (.cells #[.int .i64 y.f0, .string y.f1, .int .i64 y.f2, .int .i64 y.f3, .int .i64 y.f4] 40)).heap.size = w.heap.size + 1 by simp] at ho
  have hR := (h.alloc hB (.cells #[.int .i64 y.f0, .string y.f1, .int .i64 y.f2, .int .i64 y.f3, .int .i64 y.f4] 40)).alloc (by simp; omega) (.cells #[] 40)
  have HB : Below w.heap.size w ((w.alloc (.cells #[.int .i64 y.f0, .string y.f1, .int .i64 y.f2, .int .i64 y.f3, .int .i64 y.f4] 40)).alloc (.cells #[] 40)) := hb0.alloc (by simp) _
  clear hb0
  cases hv : weaversB (xs.set i y)
  case false =>
    have H := Lib.hid (show put11 xs i y = ([], false) by unfold put11; rw [if_neg (by rw [hv]; decide)])
    go_enter Try.func51, Try.ntmps51
    go_wp2_with (refine wpList_appendF weaverF rfl _ (.tmp 9) (.tmp 10) 24 (.agg #[.int .i64 0, .string ⟨#[]⟩, .int .i64 0, .int .i64 0, .int .i64 0]) 48 rfl Try.underlying24 info_Weaver rfl (by decide) (by decide) (w.heap.size + 1) _ [] xs b off xs.length c B rfl rfl ho hR (by simp; omega) (by simp) ?_)
    intro A1 c1 w1 ho1 hg1
    (try simp only [List.length_nil, Nat.zero_add, List.nil_append] at ho1 ⊢)
    have hgb := fun k hk => (ho.bd k hk).1
    have HB1 := HB.grown hg1 (by simp; omega) (fun k hk => by have := hgb k hk; omega)
    have x31 := x3.mark hg1 (fun k hk => by have := hgb k hk; omega)
    obtain ⟨g, rfl, hgl, _⟩ := ho1.some_ (by omega)
    clear ho hR HB x3 hg1 hgb
    have hik : (i : Int) < (xs.length : Int) := by omega
    have hi0 : (0 : Int) ≤ (i : Int) := by omega
    have ex310 := x31.cell 0
    have ex311 := x31.cell 1
    have ex312 := x31.cell 2
    have ex313 := x31.cell 3
    have ex314 := x31.cell 4
    obtain ⟨y0, hy0⟩ := ho1.there (j := i) (i := 0) (by omega) (by decide)
    have hf0 : w1.frozen? ⟨g, i * 5, none⟩ = false := ho1.frozen _
    replace hy0 : w1.cell? ⟨g, i * 5, none⟩ = some y0 := hy0
    obtain ⟨y1, hy1⟩ := ho1.there (j := i) (i := 1) (by omega) (by decide)
    have hf1 : w1.frozen? ⟨g, i * 5 + 1, none⟩ = false := ho1.frozen _
    replace hy1 : w1.cell? ⟨g, i * 5 + 1, none⟩ = some y1 := hy1
    obtain ⟨y2, hy2⟩ := ho1.there (j := i) (i := 2) (by omega) (by decide)
    have hf2 : w1.frozen? ⟨g, i * 5 + 2, none⟩ = false := ho1.frozen _
    replace hy2 : w1.cell? ⟨g, i * 5 + 2, none⟩ = some y2 := hy2
    obtain ⟨y3, hy3⟩ := ho1.there (j := i) (i := 3) (by omega) (by decide)
    have hf3 : w1.frozen? ⟨g, i * 5 + 3, none⟩ = false := ho1.frozen _
    replace hy3 : w1.cell? ⟨g, i * 5 + 3, none⟩ = some y3 := hy3
    obtain ⟨y4, hy4⟩ := ho1.there (j := i) (i := 4) (by omega) (by decide)
    have hf4 : w1.frozen? ⟨g, i * 5 + 4, none⟩ = false := ho1.frozen _
    replace hy4 : w1.cell? ⟨g, i * 5 + 4, none⟩ = some y4 := hy4
    have HP := ho1.put (j := i) hi y hy
    have HB2 := HB1.grown HP.2 HB1.size (fun j hj => by cases hj; omega)
    have hw2 := HP.1.rd
    have hz2 := HP.2.size
    have HVV := Lib.hid hv
    clear hv
    go_wp2_with fail
    refine (l11Good_eq _ _ c1 _ (xs.set i y) _ _ hw2 (Nat.le_refl _) HVV.out).mono ?_
    rintro e w2 ⟨rfl, hb⟩
    have HO := HP.1.all hb
    have HB3 := HB2.trans (hb.mono HB2.size)
    clear hb HP HB2 hw2 hz2 HB1 ho1
    go_wp2
    go_ret2
    rw [H.out]
    exact ⟨some ⟨w2.heap.size, 0, none⟩, 0, rfl, OwnF.empty weaverF HB3.size, HB3.alloc HB3.size _⟩
  case true =>
    have H := Lib.hid (show put11 xs i y = (xs.set i y, true) by unfold put11; rw [if_pos hv])
    go_enter Try.func51, Try.ntmps51
    go_wp2_with (refine wpList_appendF weaverF rfl _ (.tmp 9) (.tmp 10) 24 (.agg #[.int .i64 0, .string ⟨#[]⟩, .int .i64 0, .int .i64 0, .int .i64 0]) 48 rfl Try.underlying24 info_Weaver rfl (by decide) (by decide) (w.heap.size + 1) _ [] xs b off xs.length c B rfl rfl ho hR (by simp; omega) (by simp) ?_)
    intro A1 c1 w1 ho1 hg1
    (try simp only [List.length_nil, Nat.zero_add, List.nil_append] at ho1 ⊢)
    have hgb := fun k hk => (ho.bd k hk).1
    have HB1 := HB.grown hg1 (by simp; omega) (fun k hk => by have := hgb k hk; omega)
    have x31 := x3.mark hg1 (fun k hk => by have := hgb k hk; omega)
    obtain ⟨g, rfl, hgl, _⟩ := ho1.some_ (by omega)
    clear ho hR HB x3 hg1 hgb
    have hik : (i : Int) < (xs.length : Int) := by omega
    have hi0 : (0 : Int) ≤ (i : Int) := by omega
    have ex310 := x31.cell 0
    have ex311 := x31.cell 1
    have ex312 := x31.cell 2
    have ex313 := x31.cell 3
    have ex314 := x31.cell 4
    obtain ⟨y0, hy0⟩ := ho1.there (j := i) (i := 0) (by omega) (by decide)
    have hf0 : w1.frozen? ⟨g, i * 5, none⟩ = false := ho1.frozen _
    replace hy0 : w1.cell? ⟨g, i * 5, none⟩ = some y0 := hy0
    obtain ⟨y1, hy1⟩ := ho1.there (j := i) (i := 1) (by omega) (by decide)
    have hf1 : w1.frozen? ⟨g, i * 5 + 1, none⟩ = false := ho1.frozen _
    replace hy1 : w1.cell? ⟨g, i * 5 + 1, none⟩ = some y1 := hy1
    obtain ⟨y2, hy2⟩ := ho1.there (j := i) (i := 2) (by omega) (by decide)
    have hf2 : w1.frozen? ⟨g, i * 5 + 2, none⟩ = false := ho1.frozen _
    replace hy2 : w1.cell? ⟨g, i * 5 + 2, none⟩ = some y2 := hy2
    obtain ⟨y3, hy3⟩ := ho1.there (j := i) (i := 3) (by omega) (by decide)
    have hf3 : w1.frozen? ⟨g, i * 5 + 3, none⟩ = false := ho1.frozen _
    replace hy3 : w1.cell? ⟨g, i * 5 + 3, none⟩ = some y3 := hy3
    obtain ⟨y4, hy4⟩ := ho1.there (j := i) (i := 4) (by omega) (by decide)
    have hf4 : w1.frozen? ⟨g, i * 5 + 4, none⟩ = false := ho1.frozen _
    replace hy4 : w1.cell? ⟨g, i * 5 + 4, none⟩ = some y4 := hy4
    have HP := ho1.put (j := i) hi y hy
    have HB2 := HB1.grown HP.2 HB1.size (fun j hj => by cases hj; omega)
    have hw2 := HP.1.rd
    have hz2 := HP.2.size
    have HVV := Lib.hid hv
    clear hv
    go_wp2_with fail
    refine (l11Good_eq _ _ c1 _ (xs.set i y) _ _ hw2 (Nat.le_refl _) HVV.out).mono ?_
    rintro e w2 ⟨rfl, hb⟩
    have HO := HP.1.all hb
    have HB3 := HB2.trans (hb.mono HB2.size)
    clear hb HP HB2 hw2 hz2 HB1 ho1
    go_wp2
    go_ret2
    rw [H.out]
    exact ⟨some ⟨g, 0, none⟩, c1, by rw [List.length_set]; rfl, by simpa only [List.length_set] using HO.mono (by omega), HB3⟩
set_option maxRecDepth 100000 in
set_option maxHeartbeats 4000000 in
theorem specSeatWeaver_any (A : Option Addr) (n c B : Nat) (xs : List WeaverR) (id loom : Int) (w : World) (h : RdF weaverF w B A n c xs) (hB : B ≤ w.heap.size) (hlo : I64 loom) :
    Calls Try.prog 12 #[.slice A n c, .int .i64 id, .int .i64 loom] w (OutF weaverF w (seat11 xs id loom).1 (seat11 xs id loom).2) := by
  by_cases hg : weaversB xs = true
  rotate_left
  · have hg' := not_false hg
    rw [show seat11 xs id loom = ([], false) by unfold seat11; rw [find11_bad hg']]
    go_enter Try.func12, Try.ntmps12
    go_wp2_with (first | (go_at_call 50; refine (l11Find_eq A n c B xs id _ _ h rfl).mono ?_; rintro e w' ⟨rfl, rfl⟩) | (go_at_call 40; refine (l11Good_eq A n c B xs _ _ h hB hg').mono ?_; rintro e w3 ⟨rfl, hb⟩))
    go_ret2
    exact ⟨some ⟨w3.heap.size, 0, none⟩, 0, rfl, OwnF.empty weaverF hb.size, hb.alloc hb.size _⟩
  rcases hf : sk11 xs id with _ | ⟨k, a⟩
  · have hv := Lib.hid (show placeI (sk11 xs id) = -1 by rw [hf]; rfl)
    rw [show seat11 xs id loom = ([], false) by unfold seat11; rw [find11_good hg, hf]]
    clear hf
    go_enter Try.func12, Try.ntmps12
    go_wp2_with (first | (go_at_call 50; refine (l11Find_eq A n c B xs id _ _ h hv.out).mono ?_; rintro e w' ⟨rfl, rfl⟩) | (go_at_call 40; refine (l11Good_eq A n c B xs _ _ h hB hg).mono ?_; rintro e w3 ⟨rfl, hb⟩))
    go_ret2
    exact ⟨some ⟨w3.heap.size, 0, none⟩, 0, rfl, OwnF.empty weaverF hb.size, hb.alloc hb.size _⟩
  obtain ⟨ha, hid⟩ := sk11_of hf
  have hv := Lib.hid (show placeI (sk11 xs id) = (k : Int) by rw [hf]; rfl)
  have HS := Lib.hid (show seat11 xs id loom = put11 xs k ⟨a.f0, a.f1, a.f2, a.f3, loom⟩ by unfold seat11; rw [find11_good hg, hf])
  have hl := h.len
  have h8 := (weaversB_of hg).1
  have hk := (List.getElem?_eq_some_iff.1 ha).1
  have ok := h.fits a (List.mem_of_getElem? ha)
  have HA := Lib.hid ha
  have hk0 : ¬ (k : Int) < 0 := by omega
  have hk1 : (k : Int) < (n : Int) := by omega
  clear hf ha hid
  go_enter Try.func12, Try.ntmps12
  go_upto_region 4 with (first | (go_at_call 50; refine (l11Find_eq A n c B xs id _ _ h hv.out).mono ?_; rintro e w' ⟨rfl, rfl⟩) | (go_at_call 40; refine (l11Good_eq A n c B xs _ _ h hB hg).mono ?_; rintro e w3 ⟨rfl, hb⟩))
  obtain ⟨b, off, a', rfl, hbB, _, HX, hc0, hc1, hc2, hc3, hc4⟩ := WeaverR_at (F := weaverF) rfl (fun _ => rfl) (fun _ => rfl) (h.all hb hB) (show k < n by omega)
  obtain rfl : a' = a := Option.some.inj (HX.out.symm.trans HA.out)
  have x9 := Blk.new w3 #[.int .i64 a'.f0, .string a'.f1, .int .i64 a'.f2, .int .i64 a'.f3, .int .i64 a'.f4] 40
  have HB := hb.alloc hb.size (.cells #[.int .i64 a'.f0, .string a'.f1, .int .i64 a'.f2, .int .i64 a'.f3, .int .i64 a'.f4] 40)
  have hR := (h.all hb hB).alloc (Nat.le_trans hB hb.size) (.cells #[.int .i64 a'.f0, .string a'.f1, .int .i64 a'.f2, .int .i64 a'.f3, .int .i64 a'.f4] 40)
  have hBz : B ≤ (w3.alloc (.cells #[.int .i64 a'.f0, .string a'.f1, .int .i64 a'.f2, .int .i64 a'.f3, .int .i64 a'.f4] 40)).heap.size := by have := hb.size; simp; omega
  have hP := hb.size
  clear hb h
  go_upto_region 5 with fail
  clear hc0 hc1 hc2 hc3 hc4
  generalize w3.alloc (.cells #[.int .i64 a'.f0, .string a'.f1, .int .i64 a'.f2, .int .i64 a'.f3, .int .i64 a'.f4] 40) = W9 at *
  generalize w3.heap.size = P at *
  have ex90 := x9.cell 0
  have fx90 := x9.frozen 0
  have ex91 := x9.cell 1
  have fx91 := x9.frozen 1
  have ex92 := x9.cell 2
  have fx92 := x9.frozen 2
  have ex93 := x9.cell 3
  have fx93 := x9.frozen 3
  have ex94 := x9.cell 4
  have fx94 := x9.frozen 4
  have x10 := x9.set_ 4 (.int .i64 loom)
  have HB10 := HB.setCell (p := ⟨P, 4, none⟩) hP (.int .i64 loom)
  have hR10 := hR.below ((Below.refl P W9).setCell (p := ⟨P, 4, none⟩) (Nat.le_refl _) (.int .i64 loom)) (by omega)
  have hB10 : B ≤ (W9.setCell ⟨P, 4, none⟩ (.int .i64 loom)).heap.size := by simpa using hBz
  go_wp2_with fail
  refine (l11With_any b off n c B xs ⟨a'.f0, a'.f1, a'.f2, a'.f3, loom⟩ k _ hR10 hB10 (by omega) hk ⟨ok.1, ok.2.1, ok.2.2.1, ok.2.2.2.1, hlo⟩).mono ?_
  rintro e w4 ⟨A4, c4, rfl, own, hb4⟩
  go_wp2
  go_ret2
  rw [HS.out]
  exact ⟨A4, c4, rfl, own.mono HB10.size, HB10.trans (hb4.mono HB10.size)⟩
end Go.Proofs.Ytanfblpibomfaaa
