/- The walk of the model's TeachSkill. Condition: none. -/
import Derived.Test.YtanfblpibomfaaaTeach11
import Derived.Test.YtanfblpibomfaaaSeat11S
namespace Go.Proofs.Ytanfblpibomfaaa
open Go.RowKit

set_option maxRecDepth 100000 in
set_option maxHeartbeats 8000000 in
theorem specTeachSkill_any (A : Option Addr) (n c B : Nat) (xs : List WeaverR) (t p s : Int) (w : World) (h : RdF weaverF w B A n c xs) (hB : B ≤ w.heap.size) :
    Calls Try.prog 30 #[.slice A n c, .int .i64 t, .int .i64 p, .int .i64 s] w (OutF weaverF w (teach11 xs t p s).1 (teach11 xs t p s).2) := by
  obtain ⟨v1, hv1⟩ : ∃ v, Hid (placeI (sk11 xs t) = v) := ⟨_, Lib.hid rfl⟩
  obtain ⟨v2, hv2⟩ : ∃ v, Hid (placeI (sk11 xs p) = v) := ⟨_, Lib.hid rfl⟩
  by_cases hg : weaversB xs = true
  rotate_left
  · have hg' := not_false hg
    rw [show teach11 xs t p s = ([], false) by unfold teach11; rw [find11_bad hg']]
    go_enter Try.func30, Try.ntmps30
    go_wp2_with (first | (go_at_call 50; (with_reducible refine (l11Find_eq A n c B xs t _ _ h hv1.out).mono ?_); rintro e w' ⟨rfl, rfl⟩) | (go_at_call 50; (with_reducible refine (l11Find_eq A n c B xs p _ _ h hv2.out).mono ?_); rintro e w' ⟨rfl, rfl⟩) | (go_at_call 40; refine (l11Good_eq A n c B xs _ _ h hB hg').mono ?_; rintro e w3 ⟨rfl, hb⟩))
    go_ret2
    exact ⟨some ⟨w3.heap.size, 0, none⟩, 0, rfl, OwnF.empty weaverF hb.size, hb.alloc hb.size _⟩
  rcases hf : sk11 xs t with _ | ⟨i, f⟩
  · obtain rfl : -1 = v1 := by rw [← hv1.out, hf]; rfl
    rw [show teach11 xs t p s = ([], false) by unfold teach11; rw [find11_good hg, hf]]
    clear hf
    go_enter Try.func30, Try.ntmps30
    go_wp2_with (first | (go_at_call 50; (with_reducible refine (l11Find_eq A n c B xs t _ _ h hv1.out).mono ?_); rintro e w' ⟨rfl, rfl⟩) | (go_at_call 50; (with_reducible refine (l11Find_eq A n c B xs p _ _ h hv2.out).mono ?_); rintro e w' ⟨rfl, rfl⟩) | (go_at_call 40; refine (l11Good_eq A n c B xs _ _ h hB hg).mono ?_; rintro e w3 ⟨rfl, hb⟩))
    go_ret2
    exact ⟨some ⟨w3.heap.size, 0, none⟩, 0, rfl, OwnF.empty weaverF hb.size, hb.alloc hb.size _⟩
  obtain rfl : (i : Int) = v1 := by rw [← hv1.out, hf]; rfl
  have haf := (sk11_of hf).1
  have hi := (List.getElem?_eq_some_iff.1 haf).1
  have hl := h.len
  have hi0 : ¬ (i : Int) < 0 := by omega
  have hi1 : (i : Int) < (n : Int) := by omega
  rcases hf2 : sk11 xs p with _ | ⟨k, a⟩
  · obtain rfl : -1 = v2 := by rw [← hv2.out, hf2]; rfl
    rw [show teach11 xs t p s = ([], false) by unfold teach11; rw [find11_good hg, find11_good hg, hf, hf2]]
    clear hf hf2 haf
    go_enter Try.func30, Try.ntmps30
    go_wp2_with (first | (go_at_call 50; (with_reducible refine (l11Find_eq A n c B xs t _ _ h hv1.out).mono ?_); rintro e w' ⟨rfl, rfl⟩) | (go_at_call 50; (with_reducible refine (l11Find_eq A n c B xs p _ _ h hv2.out).mono ?_); rintro e w' ⟨rfl, rfl⟩) | (go_at_call 40; refine (l11Good_eq A n c B xs _ _ h hB hg).mono ?_; rintro e w3 ⟨rfl, hb⟩))
    go_ret2
    exact ⟨some ⟨w3.heap.size, 0, none⟩, 0, rfl, OwnF.empty weaverF hb.size, hb.alloc hb.size _⟩
  obtain rfl : (k : Int) = v2 := by rw [← hv2.out, hf2]; rfl
  have hak := (sk11_of hf2).1
  have hk := (List.getElem?_eq_some_iff.1 hak).1
  have hk0 : ¬ (k : Int) < 0 := by omega
  have hk1 : (k : Int) < (n : Int) := by omega
  have HT := Lib.hid (show teach11 xs t p s = if i ≠ k ∧ oneSk s = true ∧ hasB f.f2 s = true then (xs.set k ⟨a.f0, a.f1, orI a.f2 s, a.f3, a.f4⟩, true) else ([], false) by unfold teach11; rw [find11_good hg, find11_good hg, hf, hf2])
  have HAF := Lib.hid haf
  have HAK := Lib.hid hak
  clear hf hf2 haf hak
  by_cases hik : i = k
  · subst hik
    rw [show teach11 xs t p s = ([], false) from HT.out.trans (if_neg fun hh => hh.1 rfl)]
    go_enter Try.func30, Try.ntmps30
    go_wp2_with (first | (go_at_call 50; (with_reducible refine (l11Find_eq A n c B xs t _ _ h hv1.out).mono ?_); rintro e w' ⟨rfl, rfl⟩) | (go_at_call 50; (with_reducible refine (l11Find_eq A n c B xs p _ _ h hv2.out).mono ?_); rintro e w' ⟨rfl, rfl⟩) | (go_at_call 40; refine (l11Good_eq A n c B xs _ _ h hB hg).mono ?_; rintro e w3 ⟨rfl, hb⟩))
    go_ret2
    exact ⟨some ⟨w3.heap.size, 0, none⟩, 0, rfl, OwnF.empty weaverF hb.size, hb.alloc hb.size _⟩
  have hike : ((i : Int) == (k : Int)) = false := by simp; omega
  have hikd : decide ((i : Int) = (k : Int)) = false := by simp; omega
  by_cases hos : oneSk s = true
  rotate_left
  · rw [show teach11 xs t p s = ([], false) from HT.out.trans (if_neg fun hh => hos hh.2.1)]
    have hn := not_false hos
    simp only [oneSk, Bool.or_eq_false_iff, decide_eq_false_iff_not] at hn
    obtain ⟨⟨⟨n1, n2⟩, n4⟩, n8⟩ := hn
    have s1 : (s == 1) = false := by simp [n1]
    have s2 : (s == 2) = false := by simp [n2]
    have s4 : (s == 4) = false := by simp [n4]
    have s8 : (s == 8) = false := by simp [n8]
    have t1 : (s != 1) = true := by simp [n1]
    have t2 : (s != 2) = true := by simp [n2]
    have t4 : (s != 4) = true := by simp [n4]
    have t8 : (s != 8) = true := by simp [n8]
    have HI := Lib.hid hik
    clear hik hos n1 n2 n4 n8
    go_enter Try.func30, Try.ntmps30
    go_wp2_with (first | (go_at_call 50; (with_reducible refine (l11Find_eq A n c B xs t _ _ h hv1.out).mono ?_); rintro e w' ⟨rfl, rfl⟩) | (go_at_call 50; (with_reducible refine (l11Find_eq A n c B xs p _ _ h hv2.out).mono ?_); rintro e w' ⟨rfl, rfl⟩) | (go_at_call 40; refine (l11Good_eq A n c B xs _ _ h hB hg).mono ?_; rintro e w3 ⟨rfl, hb⟩))
    go_ret2
    exact ⟨some ⟨w3.heap.size, 0, none⟩, 0, rfl, OwnF.empty weaverF hb.size, hb.alloc hb.size _⟩
  obtain ⟨b, off, _, rfl, _⟩ := WeaverR_at (F := weaverF) rfl (fun _ => rfl) (fun _ => rfl) h (show k < n by omega)
  obtain ⟨_, _, f', he, _, _, HX, _, _, hd2, _, _⟩ := WeaverR_at (F := weaverF) rfl (fun _ => rfl) (fun _ => rfl) h (show i < n by omega)
  cases he
  obtain rfl : f' = f := Option.some.inj (HX.out.symm.trans HAF.out)
  have hf15 : In15 f'.f2 := by have := (fun hq => (weaver_of (weavers_at hg hq)).2.2.1) HAF.out; constructor <;> omega
  have hh15 := oneSk_has hf15 hos
  have h8 := (weaversB_of hg).1
  have hR := Lib.hid (fun (W : World) (hb : Below w.heap.size w W) => (hb.cell (p := ⟨b, off + i * 5 + 2, none⟩) (by show b < _; obtain ⟨_, _, _, e, q, _⟩ := WeaverR_at (F := weaverF) rfl (fun _ => rfl) (fun _ => rfl) h (show k < n by omega); cases e; omega)).trans hd2)
  by_cases hhs : hasB f'.f2 s = true
  rotate_left
  · have hhs' := not_false hhs
    rw [hhs'] at hh15
    have hz : (bits BinOp.and IntKind.i64 f'.f2 s == 0) = true := by simpa [andI] using hh15
    rw [show teach11 xs t p s = ([], false) from HT.out.trans (if_neg fun hh => hhs hh.2.2)]
    have HI := Lib.hid hik
    clear hik hhs hhs' hh15 hd2 HT
    rcases (show s = 1 ∨ s = 2 ∨ s = 4 ∨ s = 8 by simp only [oneSk, Bool.or_eq_true, decide_eq_true_eq] at hos; omega) with rfl | rfl | rfl | rfl
    all_goals
      go_enter Try.func30, Try.ntmps30
      go_upto_region 2 with (first | (go_at_call 50; (with_reducible refine (l11Find_eq _ n c B xs t _ _ h hv1.out).mono ?_); rintro e w' ⟨rfl, rfl⟩) | (go_at_call 50; (with_reducible refine (l11Find_eq _ n c B xs p _ _ h hv2.out).mono ?_); rintro e w' ⟨rfl, rfl⟩) | (go_at_call 40; refine (l11Good_eq _ n c B xs _ _ h hB hg).mono ?_; rintro e w3 ⟨rfl, hb⟩))
      have hq := hR.out _ (Below.refl _ _)
      go_wp2_with (go_at_call 40; refine (l11Good_eq _ n c B xs _ _ h hB hg).mono ?_; rintro e w3 ⟨rfl, hb⟩; replace hq := hR.out _ hb)
      go_ret2
      exact ⟨some ⟨w3.heap.size, 0, none⟩, 0, rfl, OwnF.empty weaverF hb.size, hb.alloc hb.size _⟩
  have hz : (bits BinOp.and IntKind.i64 f'.f2 s == 0) = false := by rw [hhs] at hh15; simpa [andI] using hh15
  have HE := Lib.hid (show teach11 xs t p s = (xs.set k ⟨a.f0, a.f1, orI a.f2 s, a.f3, a.f4⟩, true) from HT.out.trans (if_pos ⟨hik, hos, hhs⟩))
  have HPUT := Lib.hid (show put11 xs k ⟨a.f0, a.f1, orI a.f2 s, a.f3, a.f4⟩ = (xs.set k ⟨a.f0, a.f1, orI a.f2 s, a.f3, a.f4⟩, true) from if_pos (weavers_set (y := ⟨a.f0, a.f1, orI a.f2 s, a.f3, a.f4⟩) hg HAK.out rfl rfl (taught_ok hg HAK.out hos)))
  have HI := Lib.hid hik
  have ok := h.fits a (List.mem_of_getElem? HAK.out)
  have ha15 : In15 a.f2 := by have := (fun hq => (weaver_of (weavers_at hg hq)).2.2.1) HAK.out; constructor <;> omega
  have hs15 : In15 s := by simp only [oneSk, Bool.or_eq_true, decide_eq_true_eq] at hos; constructor <;> omega
  have hor := orI_in ha15 hs15
  have hyok : weaverF.ok ⟨a.f0, a.f1, orI a.f2 s, a.f3, a.f4⟩ := ⟨ok.1, ok.2.1, ⟨by have := hor.1; show _ ≤ orI a.f2 s; omega, by have := hor.2; show orI a.f2 s ≤ _; omega⟩, ok.2.2.2.1, ok.2.2.2.2⟩
  clear hik hhs hh15 hd2 HT hor
  have HBIT := Lib.hid (show bits BinOp.or IntKind.i64 a.f2 s = orI a.f2 s from rfl)
  rcases (show s = 1 ∨ s = 2 ∨ s = 4 ∨ s = 8 by simp only [oneSk, Bool.or_eq_true, decide_eq_true_eq] at hos; omega) with rfl | rfl | rfl | rfl
  · go_enter Try.func30, Try.ntmps30
    go_upto_region 2 with (first | (go_at_call 50; (with_reducible refine (l11Find_eq _ n c B xs t _ _ h hv1.out).mono ?_); rintro e w' ⟨rfl, rfl⟩) | (go_at_call 50; (with_reducible refine (l11Find_eq _ n c B xs p _ _ h hv2.out).mono ?_); rintro e w' ⟨rfl, rfl⟩) | (go_at_call 40; refine (l11Good_eq _ n c B xs _ _ h hB hg).mono ?_; rintro e w3 ⟨rfl, hb⟩))
    have hq := hR.out _ (Below.refl _ _)
    go_upto_region 4 with (go_at_call 40; refine (l11Good_eq _ n c B xs _ _ h hB hg).mono ?_; rintro e w3 ⟨rfl, hb⟩; replace hq := hR.out _ hb)
    obtain ⟨_, _, a', he, hbB, _, HX2, hc0, hc1, hc2, hc3, hc4⟩ := WeaverR_at (F := weaverF) rfl (fun _ => rfl) (fun _ => rfl) (h.all hb hB) (show k < n by omega)
    cases he
    obtain rfl : a' = a := Option.some.inj (HX2.out.symm.trans HAK.out)
    have x9 := Blk.new w3 #[.int .i64 a'.f0, .string a'.f1, .int .i64 a'.f2, .int .i64 a'.f3, .int .i64 a'.f4] 40
    have HB := hb.alloc hb.size (.cells #[.int .i64 a'.f0, .string a'.f1, .int .i64 a'.f2, .int .i64 a'.f3, .int .i64 a'.f4] 40)
    have hR9 := (h.all hb hB).alloc (Nat.le_trans hB hb.size) (.cells #[.int .i64 a'.f0, .string a'.f1, .int .i64 a'.f2, .int .i64 a'.f3, .int .i64 a'.f4] 40)
    have hBz : B ≤ (w3.alloc (.cells #[.int .i64 a'.f0, .string a'.f1, .int .i64 a'.f2, .int .i64 a'.f3, .int .i64 a'.f4] 40)).heap.size := by have := hb.size; simp; omega
    have hP := hb.size
    clear hb h hq hR
    go_upto_region 5 with fail
    clear hc0 hc1 hc2 hc3 hc4
    generalize w3.alloc (.cells #[.int .i64 a'.f0, .string a'.f1, .int .i64 a'.f2, .int .i64 a'.f3, .int .i64 a'.f4] 40) = W9 at *
    generalize w3.heap.size = P at *
    have ex90 := x9.cell 0
    have fx90 := x9.frozen 0
    have ex91 := x9.cell 1
    have fx91 := x9.frozen 1
    have ex92 := x9.cell 2
    have fx92 := x9.frozen 2
    have ex93 := x9.cell 3
    have fx93 := x9.frozen 3
    have ex94 := x9.cell 4
    have fx94 := x9.frozen 4
    have x10 := x9.set_ 2 (.int .i64 (bits .or .i64 a'.f2 1))
    have HB10 := HB.setCell (p := ⟨P, 2, none⟩) hP (.int .i64 (bits .or .i64 a'.f2 1))
    have hR10 := hR9.below ((Below.refl P W9).setCell (p := ⟨P, 2, none⟩) (Nat.le_refl _) (.int .i64 (bits .or .i64 a'.f2 1))) (by omega)
    have hB10 : B ≤ (W9.setCell ⟨P, 2, none⟩ (.int .i64 (bits .or .i64 a'.f2 1))).heap.size := by simpa using hBz
    go_wp2_with fail
    refine (l11With_any b off n c B xs ⟨a'.f0, a'.f1, orI a'.f2 1, a'.f3, a'.f4⟩ k _ hR10 hB10 (by omega) hk hyok).mono ?_
    rintro e w4 ⟨A4, c4, rfl, own, hb4⟩
    go_wp2
    go_ret2
    rw [HE.out, ← HPUT.out]
    exact ⟨A4, c4, rfl, own.mono HB10.size, HB10.trans (hb4.mono HB10.size)⟩
  · go_enter Try.func30, Try.ntmps30
    go_upto_region 2 with (first | (go_at_call 50; (with_reducible refine (l11Find_eq _ n c B xs t _ _ h hv1.out).mono ?_); rintro e w' ⟨rfl, rfl⟩) | (go_at_call 50; (with_reducible refine (l11Find_eq _ n c B xs p _ _ h hv2.out).mono ?_); rintro e w' ⟨rfl, rfl⟩) | (go_at_call 40; refine (l11Good_eq _ n c B xs _ _ h hB hg).mono ?_; rintro e w3 ⟨rfl, hb⟩))
    have hq := hR.out _ (Below.refl _ _)
    go_upto_region 4 with (go_at_call 40; refine (l11Good_eq _ n c B xs _ _ h hB hg).mono ?_; rintro e w3 ⟨rfl, hb⟩; replace hq := hR.out _ hb)
    obtain ⟨_, _, a', he, hbB, _, HX2, hc0, hc1, hc2, hc3, hc4⟩ := WeaverR_at (F := weaverF) rfl (fun _ => rfl) (fun _ => rfl) (h.all hb hB) (show k < n by omega)
    cases he
    obtain rfl : a' = a := Option.some.inj (HX2.out.symm.trans HAK.out)
    have x9 := Blk.new w3 #[.int .i64 a'.f0, .string a'.f1, .int .i64 a'.f2, .int .i64 a'.f3, .int .i64 a'.f4] 40
    have HB := hb.alloc hb.size (.cells #[.int .i64 a'.f0, .string a'.f1, .int .i64 a'.f2, .int .i64 a'.f3, .int .i64 a'.f4] 40)
    have hR9 := (h.all hb hB).alloc (Nat.le_trans hB hb.size) (.cells #[.int .i64 a'.f0, .string a'.f1, .int .i64 a'.f2, .int .i64 a'.f3, .int .i64 a'.f4] 40)
    have hBz : B ≤ (w3.alloc (.cells #[.int .i64 a'.f0, .string a'.f1, .int .i64 a'.f2, .int .i64 a'.f3, .int .i64 a'.f4] 40)).heap.size := by have := hb.size; simp; omega
    have hP := hb.size
    clear hb h hq hR
    go_upto_region 5 with fail
    clear hc0 hc1 hc2 hc3 hc4
    generalize w3.alloc (.cells #[.int .i64 a'.f0, .string a'.f1, .int .i64 a'.f2, .int .i64 a'.f3, .int .i64 a'.f4] 40) = W9 at *
    generalize w3.heap.size = P at *
    have ex90 := x9.cell 0
    have fx90 := x9.frozen 0
    have ex91 := x9.cell 1
    have fx91 := x9.frozen 1
    have ex92 := x9.cell 2
    have fx92 := x9.frozen 2
    have ex93 := x9.cell 3
    have fx93 := x9.frozen 3
    have ex94 := x9.cell 4
    have fx94 := x9.frozen 4
    have x10 := x9.set_ 2 (.int .i64 (bits .or .i64 a'.f2 2))
    have HB10 := HB.setCell (p := ⟨P, 2, none⟩) hP (.int .i64 (bits .or .i64 a'.f2 2))
    have hR10 := hR9.below ((Below.refl P W9).setCell (p := ⟨P, 2, none⟩) (Nat.le_refl _) (.int .i64 (bits .or .i64 a'.f2 2))) (by omega)
    have hB10 : B ≤ (W9.setCell ⟨P, 2, none⟩ (.int .i64 (bits .or .i64 a'.f2 2))).heap.size := by simpa using hBz
    go_wp2_with fail
    refine (l11With_any b off n c B xs ⟨a'.f0, a'.f1, orI a'.f2 2, a'.f3, a'.f4⟩ k _ hR10 hB10 (by omega) hk hyok).mono ?_
    rintro e w4 ⟨A4, c4, rfl, own, hb4⟩
    go_wp2
    go_ret2
    rw [HE.out, ← HPUT.out]
    exact ⟨A4, c4, rfl, own.mono HB10.size, HB10.trans (hb4.mono HB10.size)⟩
  · go_enter Try.func30, Try.ntmps30
    go_upto_region 2 with (first | (go_at_call 50; (with_reducible refine (l11Find_eq _ n c B xs t _ _ h hv1.out).mono ?_); rintro e w' ⟨rfl, rfl⟩) | (go_at_call 50; (with_reducible refine (l11Find_eq _ n c B xs p _ _ h hv2.out).mono ?_); rintro e w' ⟨rfl, rfl⟩) | (go_at_call 40; refine (l11Good_eq _ n c B xs _ _ h hB hg).mono ?_; rintro e w3 ⟨rfl, hb⟩))
    have hq := hR.out _ (Below.refl _ _)
    go_upto_region 4 with (go_at_call 40; refine (l11Good_eq _ n c B xs _ _ h hB hg).mono ?_; rintro e w3 ⟨rfl, hb⟩; replace hq := hR.out _ hb)
    obtain ⟨_, _, a', he, hbB, _, HX2, hc0, hc1, hc2, hc3, hc4⟩ := WeaverR_at (F := weaverF) rfl (fun _ => rfl) (fun _ => rfl) (h.all hb hB) (show k < n by omega)
    cases he
    obtain rfl : a' = a := Option.some.inj (HX2.out.symm.trans HAK.out)
    have x9 := Blk.new w3 #[.int .i64 a'.f0, .string a'.f1, .int .i64 a'.f2, .int .i64 a'.f3, .int .i64 a'.f4] 40
    have HB := hb.alloc hb.size (.cells #[.int .i64 a'.f0, .string a'.f1, .int .i64 a'.f2, .int .i64 a'.f3, .int .i64 a'.f4] 40)
    have hR9 := (h.all hb hB).alloc (Nat.le_trans hB hb.size) (.cells #[.int .i64 a'.f0, .string a'.f1, .int .i64 a'.f2, .int .i64 a'.f3, .int .i64 a'.f4] 40)
    have hBz : B ≤ (w3.alloc (.cells #[.int .i64 a'.f0, .string a'.f1, .int .i64 a'.f2, .int .i64 a'.f3, .int .i64 a'.f4] 40)).heap.size := by have := hb.size; simp; omega
    have hP := hb.size
    clear hb h hq hR
    go_upto_region 5 with fail
    clear hc0 hc1 hc2 hc3 hc4
    generalize w3.alloc (.cells #[.int .i64 a'.f0, .string a'.f1, .int .i64 a'.f2, .int .i64 a'.f3, .int .i64 a'.f4] 40) = W9 at *
    generalize w3.heap.size = P at *
    have ex90 := x9.cell 0
    have fx90 := x9.frozen 0
    have ex91 := x9.cell 1
    have fx91 := x9.frozen 1
    have ex92 := x9.cell 2
    have fx92 := x9.frozen 2
    have ex93 := x9.cell 3
    have fx93 := x9.frozen 3
    have ex94 := x9.cell 4
    have fx94 := x9.frozen 4
    have x10 := x9.set_ 2 (.int .i64 (bits .or .i64 a'.f2 4))
    have HB10 := HB.setCell (p := ⟨P, 2, none⟩) hP (.int .i64 (bits .or .i64 a'.f2 4))
    have hR10 := hR9.below ((Below.refl P W9).setCell (p := ⟨P, 2, none⟩) (Nat.le_refl _) (.int .i64 (bits .or .i64 a'.f2 4))) (by omega)
    have hB10 : B ≤ (W9.setCell ⟨P, 2, none⟩ (.int .i64 (bits .or .i64 a'.f2 4))).heap.size := by simpa using hBz
    go_wp2_with fail
    refine (l11With_any b off n c B xs ⟨a'.f0, a'.f1, orI a'.f2 4, a'.f3, a'.f4⟩ k _ hR10 hB10 (by omega) hk hyok).mono ?_
    rintro e w4 ⟨A4, c4, rfl, own, hb4⟩
    go_wp2
    go_ret2
    rw [HE.out, ← HPUT.out]
    exact ⟨A4, c4, rfl, own.mono HB10.size, HB10.trans (hb4.mono HB10.size)⟩
  · go_enter Try.func30, Try.ntmps30
    go_upto_region 2 with (first | (go_at_call 50; (with_reducible refine (l11Find_eq _ n c B xs t _ _ h hv1.out).mono ?_); rintro e w' ⟨rfl, rfl⟩) | (go_at_call 50; (with_reducible refine (l11Find_eq _ n c B xs p _ _ h hv2.out).mono ?_); rintro e w' ⟨rfl, rfl⟩) | (go_at_call 40; refine (l11Good_eq _ n c B xs _ _ h hB hg).mono ?_; rintro e w3 ⟨rfl, hb⟩))
    have hq := hR.out _ (Below.refl _ _)
    go_upto_region 4 with (go_at_call 40; refine (l11Good_eq _ n c B xs _ _ h hB hg).mono ?_; rintro e w3 ⟨rfl, hb⟩; replace hq := hR.out _ hb)
    obtain ⟨_, _, a', he, hbB, _, HX2, hc0, hc1, hc2, hc3, hc4⟩ := WeaverR_at (F := weaverF) rfl (fun _ => rfl) (fun _ => rfl) (h.all hb hB) (show k < n by omega)
    cases he
    obtain rfl : a' = a := Option.some.inj (HX2.out.symm.trans HAK.out)
    have x9 := Blk.new w3 #[.int .i64 a'.f0, .string a'.f1, .int .i64 a'.f2, .int .i64 a'.f3, .int .i64 a'.f4] 40
    have HB := hb.alloc hb.size (.cells #[.int .i64 a'.f0, .string a'.f1, .int .i64 a'.f2, .int .i64 a'.f3, .int .i64 a'.f4] 40)
    have hR9 := (h.all hb hB).alloc (Nat.le_trans hB hb.size) (.cells #[.int .i64 a'.f0, .string a'.f1, .int .i64 a'.f2, .int .i64 a'.f3, .int .i64 a'.f4] 40)
    have hBz : B ≤ (w3.alloc (.cells #[.int .i64 a'.f0, .string a'.f1, .int .i64 a'.f2, .int .i64 a'.f3, .int .i64 a'.f4] 40)).heap.size := by have := hb.size; simp; omega
    have hP := hb.size
    clear hb h hq hR
    go_upto_region 5 with fail
    clear hc0 hc1 hc2 hc3 hc4
    generalize w3.alloc (.cells #[.int .i64 a'.f0, .string a'.f1, .int .i64 a'.f2, .int .i64 a'.f3, .int .i64 a'.f4] 40) = W9 at *
    generalize w3.heap.size = P at *
    have ex90 := x9.cell 0
    have fx90 := x9.frozen 0
    have ex91 := x9.cell 1
    have fx91 := x9.frozen 1
    have ex92 := x9.cell 2
    have fx92 := x9.frozen 2
    have ex93 := x9.cell 3
    have fx93 := x9.frozen 3
    have ex94 := x9.cell 4
    have fx94 := x9.frozen 4
    have x10 := x9.set_ 2 (.int .i64 (bits .or .i64 a'.f2 8))
    have HB10 := HB.setCell (p := ⟨P, 2, none⟩) hP (.int .i64 (bits .or .i64 a'.f2 8))
    have hR10 := hR9.below ((Below.refl P W9).setCell (p := ⟨P, 2, none⟩) (Nat.le_refl _) (.int .i64 (bits .or .i64 a'.f2 8))) (by omega)
    have hB10 : B ≤ (W9.setCell ⟨P, 2, none⟩ (.int .i64 (bits .or .i64 a'.f2 8))).heap.size := by simpa using hBz
    go_wp2_with fail
    refine (l11With_any b off n c B xs ⟨a'.f0, a'.f1, orI a'.f2 8, a'.f3, a'.f4⟩ k _ hR10 hB10 (by omega) hk hyok).mono ?_
    rintro e w4 ⟨A4, c4, rfl, own, hb4⟩
    go_wp2
    go_ret2
    rw [HE.out, ← HPUT.out]
    exact ⟨A4, c4, rfl, own.mono HB10.size, HB10.trans (hb4.mono HB10.size)⟩
end Go.Proofs.Ytanfblpibomfaaa
