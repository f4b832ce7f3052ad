/- The walk of ParseShade, the program's. Conditions: as they stand. -/
import Derived.Test.YtcingmfeepcpjaaDoorShadeParse
import Derived.Deep.CutRange
namespace Go.Proofs.YtcingmfeepcpjaaDoor
open Go.RowKit

theorem below5q {w w0 : World} {p B : Nat} {a b c d e : Value} (h : Below B w0 w) (hp : B ≤ p) : Below B w0 (((((w.setCell ⟨p, 0, none⟩ a).setCell ⟨p, 1, none⟩ b).setCell ⟨p, 2, none⟩ c).setCell ⟨p, 3, none⟩ d).setCell ⟨p, 4, none⟩ e) :=
  ((((h.setCell (p := ⟨p, 0, none⟩) hp a).setCell (p := ⟨p, 1, none⟩) hp b).setCell (p := ⟨p, 2, none⟩) hp c).setCell (p := ⟨p, 3, none⟩) hp d).setCell (p := ⟨p, 4, none⟩) hp e
theorem put5q {w : World} {p : Nat} {t : TypeId} {a b c d e x0 x1 x2 x3 x4 : Value} (h : Blk w p t #[x0, x1, x2, x3, x4]) : Blk (((((w.setCell ⟨p, 0, none⟩ a).setCell ⟨p, 1, none⟩ b).setCell ⟨p, 2, none⟩ c).setCell ⟨p, 3, none⟩ d).setCell ⟨p, 4, none⟩ e) p t #[a, b, c, d, e] := ((((h.set_ 0 a).set_ 1 b).set_ 2 c).set_ 3 d).set_ 4 e
theorem partsI_eq (s a0 r0 a1 r1 a2 r2 a3 r3 : ByteArray) (h0 : a0.data.toList = (Lib.cut s.data.toList [32]).1) (k0 : r0.data.toList = (Lib.cut s.data.toList [32]).2.1)
    (h1 : a1.data.toList = (Lib.cut r0.data.toList markW).1) (k1 : r1.data.toList = (Lib.cut r0.data.toList markW).2.1) (h2 : a2.data.toList = (Lib.cut r1.data.toList markD).1) (k2 : r2.data.toList = (Lib.cut r1.data.toList markD).2.1)
    (h3 : a3.data.toList = (Lib.cut r2.data.toList markF).1) (k3 : r3.data.toList = (Lib.cut r2.data.toList markF).2.1) :
    partsI s.data.toList = ⟨nOf a0.data.toList, a1, nOf a2.data.toList, nOf a3.data.toList, nOf r3.data.toList⟩ := by
  have e1 : cutW s.data.toList = Lib.cut r0.data.toList markW := by unfold cutW cutA; rw [← k0]
  have e2 : cutD s.data.toList = Lib.cut r1.data.toList markD := by unfold cutD; rw [e1, ← k1]
  have e3 : cutF s.data.toList = Lib.cut r2.data.toList markF := by unfold cutF; rw [e2, ← k2]
  unfold partsI
  rw [e1, e2, e3, ← h1, ← h2, ← h3, ← k3]
  unfold cutA
  rw [← h0]
set_option maxRecDepth 100000 in
set_option maxHeartbeats 8000000 in
theorem implParseShade_any (s : ByteArray) (w : World) (hs : s.size ≤ 1048576) (hE : EnvQ w) (x : ShadeR) (b : Bool) (hx : readSh s.data.toList = (x, b)) : Calls Tryd.prog 5 #[.string s] w (Out w (.tuple #[.agg #[.int .i64 x.f0, .string x.f1, .int .i64 x.f2, .int .i64 x.f3, .int .i64 x.f4], .bool b])) := by
  obtain ⟨a0, r0, g0, C0, ha0, hr0, za0, zr0⟩ := cut_ex s ⟨#[32]⟩ hs
  have HC0 := Lib.hid C0
  clear C0
  obtain ⟨a1, r1, g1, C1, ha1, hr1, za1, zr1⟩ := cut_ex r0 ⟨#[32, 97, 116, 32]⟩ zr0
  have HC1 := Lib.hid C1
  clear C1
  obtain ⟨a2, r2, g2, C2, ha2, hr2, za2, zr2⟩ := cut_ex r1 ⟨#[44, 32, 100, 101, 112, 116, 104, 32]⟩ zr1
  have HC2 := Lib.hid C2
  clear C2
  obtain ⟨a3, r3, g3, C3, ha3, hr3, za3, zr3⟩ := cut_ex r2 ⟨#[44, 32, 102, 97, 115, 116, 32]⟩ zr2
  have HC3 := Lib.hid C3
  clear C3
  obtain ⟨b0, P0⟩ := parse_ex a0 za0
  obtain ⟨b2, P2⟩ := parse_ex a2 za2
  obtain ⟨b3, P3⟩ := parse_ex a3 za3
  obtain ⟨b4, P4⟩ := parse_ex r3 zr3
  have hP := partsI_eq s a0 r0 a1 r1 a2 r2 a3 r3 ha0 hr0 ha1 hr1 ha2 hr2 ha3 hr3
  obtain ⟨n0, hn0⟩ : ∃ n, nOf a0.data.toList = n := ⟨_, rfl⟩
  rw [hn0] at hP P0
  have HP0 := Lib.hid P0
  clear P0 hn0
  obtain ⟨n2, hn2⟩ : ∃ n, nOf a2.data.toList = n := ⟨_, rfl⟩
  rw [hn2] at hP P2
  have HP2 := Lib.hid P2
  clear P2 hn2
  obtain ⟨n3, hn3⟩ : ∃ n, nOf a3.data.toList = n := ⟨_, rfl⟩
  rw [hn3] at hP P3
  have HP3 := Lib.hid P3
  clear P3 hn3
  obtain ⟨n4, hn4⟩ : ∃ n, nOf r3.data.toList = n := ⟨_, rfl⟩
  rw [hn4] at hP P4
  have HP4 := Lib.hid P4
  clear P4 hn4
  clear ha0 hr0 ha1 hr1 ha2 hr2 ha3 hr3
  have hsh := fun (w : World) (ht : Tab w) => implShadeText_any ⟨n0, a1, n2, n3, n4⟩ w (show a1.size ≤ maxLen by unfold maxLen; omega) ht
  have HR := Lib.hid hx
  clear hx
  have hEE := Lib.hid hE
  clear hE
  have HB := Below.refl w.heap.size w
  have x2 := Blk.new w #[.int .i64 0, .string ⟨#[]⟩, .int .i64 0, .int .i64 0, .int .i64 0] 23
  replace HB := HB.alloc (Nat.le_refl _) (.cells #[.int .i64 0, .string ⟨#[]⟩, .int .i64 0, .int .i64 0, .int .i64 0] 23)
  by_cases hv : shadeB ⟨n0, a1, n2, n3, n4⟩ = true
  rotate_left
  · have hno := not_false hv
    have HZ := Lib.hid (show readSh s.data.toList = (⟨0, ⟨#[]⟩, 0, 0, 0⟩, false) from readSh_no (fun h => hv (by rw [← hP]; exact h.1)))
    clear hP hv
    obtain ⟨rfl, rfl⟩ : x = ⟨0, ⟨#[]⟩, 0, 0, 0⟩ ∧ b = false := Prod.mk.inj (HR.out.symm.trans HZ.out)
    have hT : Hid (∀ w : World, Tab w → Calls Tryd.prog 13 #[.agg #[.int .i64 n0, .string a1, .int .i64 n2, .int .i64 n3, .int .i64 n4]] w (Out w (.tuple #[.string ⟨#[]⟩, .bool false]))) := Lib.hid fun w ht => (by have := hsh w ht; rw [shadeV_no hno, hno] at this; exact this)
    clear hsh hno
    go_enter Tryd.func5, Tryd.ntmps5
    have ex20 := x2.cell 0
    have ex21 := x2.cell 1
    have ex22 := x2.cell 2
    have ex23 := x2.cell 3
    have ex24 := x2.cell 4
    go_wp2_with fail
    clear ex20 ex21 ex22 ex23 ex24
    refine (HC0.out _ (hEE.out.below HB).shape).mono ?_
    rintro e w1 ⟨rfl, hb⟩
    replace x2 := x2.all hb
    replace HB := HB.trans (hb.mono HB.size)
    clear hb
    have ex20 := x2.cell 0
    have ex21 := x2.cell 1
    have ex22 := x2.cell 2
    have ex23 := x2.cell 3
    have ex24 := x2.cell 4
    go_wp2_with fail
    clear ex20 ex21 ex22 ex23 ex24
    refine (HC1.out _ (hEE.out.below HB).shape).mono ?_
    rintro e w2 ⟨rfl, hb⟩
    replace x2 := x2.all hb
    replace HB := HB.trans (hb.mono HB.size)
    clear hb
    have ex20 := x2.cell 0
    have ex21 := x2.cell 1
    have ex22 := x2.cell 2
    have ex23 := x2.cell 3
    have ex24 := x2.cell 4
    go_wp2_with fail
    clear ex20 ex21 ex22 ex23 ex24
    refine (HC2.out _ (hEE.out.below HB).shape).mono ?_
    rintro e w3 ⟨rfl, hb⟩
    replace x2 := x2.all hb
    replace HB := HB.trans (hb.mono HB.size)
    clear hb
    have ex20 := x2.cell 0
    have ex21 := x2.cell 1
    have ex22 := x2.cell 2
    have ex23 := x2.cell 3
    have ex24 := x2.cell 4
    go_wp2_with fail
    clear ex20 ex21 ex22 ex23 ex24
    refine (HC3.out _ (hEE.out.below HB).shape).mono ?_
    rintro e w4 ⟨rfl, hb⟩
    replace x2 := x2.all hb
    replace HB := HB.trans (hb.mono HB.size)
    clear hb
    have ex20 := x2.cell 0
    have ex21 := x2.cell 1
    have ex22 := x2.cell 2
    have ex23 := x2.cell 3
    have ex24 := x2.cell 4
    go_wp2_with fail
    clear ex20 ex21 ex22 ex23 ex24
    have hq := x2.lt
    have xs := Blk.new w4 #[.int .i64 0, .string a1, .int .i64 0, .int .i64 0, .int .i64 0] 23
    replace x2 := x2.alloc (.cells #[.int .i64 0, .string a1, .int .i64 0, .int .i64 0, .int .i64 0] 23)
    replace HB := HB.alloc HB.size (.cells #[.int .i64 0, .string a1, .int .i64 0, .int .i64 0, .int .i64 0] 23)
    obtain ⟨Q, hQ⟩ : ∃ q, w4.heap.size = q := ⟨_, rfl⟩
    rw [hQ] at xs hq
    (try rw [hQ])
    obtain ⟨W, hW⟩ : ∃ v, w4.alloc (.cells #[.int .i64 0, .string a1, .int .i64 0, .int .i64 0, .int .i64 0] 23) = v := ⟨_, rfl⟩
    rw [hW] at xs x2 HB ⊢
    clear hQ hW
    refine (HP0.out _ (hEE.out.below HB).par).mono ?_
    rintro e w5 ⟨rfl, hb⟩
    replace x2 := x2.all hb
    replace xs := xs.all hb
    replace HB := HB.trans (hb.mono HB.size)
    clear hb
    have ex20 := x2.cell 0
    have ex21 := x2.cell 1
    have ex22 := x2.cell 2
    have ex23 := x2.cell 3
    have ex24 := x2.cell 4
    have exs0 := xs.cell 0
    have exs1 := xs.cell 1
    have exs2 := xs.cell 2
    have exs3 := xs.cell 3
    have exs4 := xs.cell 4
    have zxs0 := xs.frozen 0
    have zxs1 := xs.frozen 1
    have zxs2 := xs.frozen 2
    have zxs3 := xs.frozen 3
    have zxs4 := xs.frozen 4
    go_wp2_with fail
    clear ex20 ex21 ex22 ex23 ex24 exs0 exs1 exs2 exs3 exs4 zxs0 zxs1 zxs2 zxs3 zxs4
    have hQs := xs.lt
    replace x2 := x2.far (a := ⟨Q, 0, none⟩) (by show _ ≠ Q; omega) (.int .i64 n0)
    replace xs := xs.set_ 0 (.int .i64 n0)
    replace HB := HB.setCell (p := ⟨Q, 0, none⟩) (by show _ ≤ Q; omega) (.int .i64 n0)
    clear hQs
    refine (HP2.out _ (hEE.out.below HB).par).mono ?_
    rintro e w6 ⟨rfl, hb⟩
    replace x2 := x2.all hb
    replace xs := xs.all hb
    replace HB := HB.trans (hb.mono HB.size)
    clear hb
    have ex20 := x2.cell 0
    have ex21 := x2.cell 1
    have ex22 := x2.cell 2
    have ex23 := x2.cell 3
    have ex24 := x2.cell 4
    have exs0 := xs.cell 0
    have exs1 := xs.cell 1
    have exs2 := xs.cell 2
    have exs3 := xs.cell 3
    have exs4 := xs.cell 4
    have zxs0 := xs.frozen 0
    have zxs1 := xs.frozen 1
    have zxs2 := xs.frozen 2
    have zxs3 := xs.frozen 3
    have zxs4 := xs.frozen 4
    go_wp2_with fail
    clear ex20 ex21 ex22 ex23 ex24 exs0 exs1 exs2 exs3 exs4 zxs0 zxs1 zxs2 zxs3 zxs4
    have hQs := xs.lt
    replace x2 := x2.far (a := ⟨Q, 2, none⟩) (by show _ ≠ Q; omega) (.int .i64 n2)
    replace xs := xs.set_ 2 (.int .i64 n2)
    replace HB := HB.setCell (p := ⟨Q, 2, none⟩) (by show _ ≤ Q; omega) (.int .i64 n2)
    clear hQs
    refine (HP3.out _ (hEE.out.below HB).par).mono ?_
    rintro e w7 ⟨rfl, hb⟩
    replace x2 := x2.all hb
    replace xs := xs.all hb
    replace HB := HB.trans (hb.mono HB.size)
    clear hb
    have ex20 := x2.cell 0
    have ex21 := x2.cell 1
    have ex22 := x2.cell 2
    have ex23 := x2.cell 3
    have ex24 := x2.cell 4
    have exs0 := xs.cell 0
    have exs1 := xs.cell 1
    have exs2 := xs.cell 2
    have exs3 := xs.cell 3
    have exs4 := xs.cell 4
    have zxs0 := xs.frozen 0
    have zxs1 := xs.frozen 1
    have zxs2 := xs.frozen 2
    have zxs3 := xs.frozen 3
    have zxs4 := xs.frozen 4
    go_wp2_with fail
    clear ex20 ex21 ex22 ex23 ex24 exs0 exs1 exs2 exs3 exs4 zxs0 zxs1 zxs2 zxs3 zxs4
    have hQs := xs.lt
    replace x2 := x2.far (a := ⟨Q, 3, none⟩) (by show _ ≠ Q; omega) (.int .i64 n3)
    replace xs := xs.set_ 3 (.int .i64 n3)
    replace HB := HB.setCell (p := ⟨Q, 3, none⟩) (by show _ ≤ Q; omega) (.int .i64 n3)
    clear hQs
    refine (HP4.out _ (hEE.out.below HB).par).mono ?_
    rintro e w8 ⟨rfl, hb⟩
    replace x2 := x2.all hb
    replace xs := xs.all hb
    replace HB := HB.trans (hb.mono HB.size)
    clear hb
    have ex20 := x2.cell 0
    have ex21 := x2.cell 1
    have ex22 := x2.cell 2
    have ex23 := x2.cell 3
    have ex24 := x2.cell 4
    have exs0 := xs.cell 0
    have exs1 := xs.cell 1
    have exs2 := xs.cell 2
    have exs3 := xs.cell 3
    have exs4 := xs.cell 4
    have zxs0 := xs.frozen 0
    have zxs1 := xs.frozen 1
    have zxs2 := xs.frozen 2
    have zxs3 := xs.frozen 3
    have zxs4 := xs.frozen 4
    go_wp2_with fail
    clear ex20 ex21 ex22 ex23 ex24 exs0 exs1 exs2 exs3 exs4 zxs0 zxs1 zxs2 zxs3 zxs4
    have hQs := xs.lt
    replace x2 := x2.far (a := ⟨Q, 4, none⟩) (by show _ ≠ Q; omega) (.int .i64 n4)
    replace xs := xs.set_ 4 (.int .i64 n4)
    replace HB := HB.setCell (p := ⟨Q, 4, none⟩) (by show _ ≤ Q; omega) (.int .i64 n4)
    clear hQs
    refine (hT.out _ (hEE.out.below HB).par.tab).mono ?_
    rintro e w9 ⟨rfl, hb⟩
    replace x2 := x2.all hb
    replace xs := xs.all hb
    replace HB := HB.trans (hb.mono HB.size)
    clear hb
    have ex20 := x2.cell 0
    have ex21 := x2.cell 1
    have ex22 := x2.cell 2
    have ex23 := x2.cell 3
    have ex24 := x2.cell 4
    have zx20 := x2.frozen 0
    have zx21 := x2.frozen 1
    have zx22 := x2.frozen 2
    have zx23 := x2.frozen 3
    have zx24 := x2.frozen 4
    have exs0 := xs.cell 0
    have exs1 := xs.cell 1
    have exs2 := xs.cell 2
    have exs3 := xs.cell 3
    have exs4 := xs.cell 4
    have zxs0 := xs.frozen 0
    have zxs1 := xs.frozen 1
    have zxs2 := xs.frozen 2
    have zxs3 := xs.frozen 3
    have zxs4 := xs.frozen 4
    go_wp2
    have R5 := put5q (a := .int .i64 0) (b := .string ⟨#[]⟩) (c := .int .i64 0) (d := .int .i64 0) (e := .int .i64 0) x2
    have q0 := R5.cell 0
    have q1 := R5.cell 1
    have q2 := R5.cell 2
    have q3 := R5.cell 3
    have q4 := R5.cell 4
    refine bodyPost_ret (v := .tuple #[.agg #[.int .i64 0, .string ⟨#[]⟩, .int .i64 0, .int .i64 0, .int .i64 0], .bool false]) (by simp [results, Tryd.results5, go_sem, q0, q1, q2, q3, q4]) rfl ⟨rfl, below5q HB (Nat.le_refl _)⟩
  by_cases ht : shadeT ⟨n0, a1, n2, n3, n4⟩ = s
  rotate_left
  · have hne := strNeQ ht
    have HZ := Lib.hid (show readSh s.data.toList = (⟨0, ⟨#[]⟩, 0, 0, 0⟩, false) from readSh_no (fun h => ht (by rw [hP] at h; exact ByteArray.ext (Array.toList_inj.1 (by rw [shadeT_toList]; exact h.2)))))
    clear hP
    obtain ⟨rfl, rfl⟩ : x = ⟨0, ⟨#[]⟩, 0, 0, 0⟩ ∧ b = false := Prod.mk.inj (HR.out.symm.trans HZ.out)
    obtain ⟨t, htt⟩ : ∃ t, shadeT ⟨n0, a1, n2, n3, n4⟩ = t := ⟨_, rfl⟩
    rw [htt] at hne
    have hT : Hid (∀ w : World, Tab w → Calls Tryd.prog 13 #[.agg #[.int .i64 n0, .string a1, .int .i64 n2, .int .i64 n3, .int .i64 n4]] w (Out w (.tuple #[.string t, .bool true]))) := Lib.hid fun w ht => (by have := hsh w ht; rw [shadeV_yes hv, hv, htt] at this; exact this)
    clear hsh hv ht htt
    go_enter Tryd.func5, Tryd.ntmps5
    have ex20 := x2.cell 0
    have ex21 := x2.cell 1
    have ex22 := x2.cell 2
    have ex23 := x2.cell 3
    have ex24 := x2.cell 4
    go_wp2_with fail
    clear ex20 ex21 ex22 ex23 ex24
    refine (HC0.out _ (hEE.out.below HB).shape).mono ?_
    rintro e w1 ⟨rfl, hb⟩
    replace x2 := x2.all hb
    replace HB := HB.trans (hb.mono HB.size)
    clear hb
    have ex20 := x2.cell 0
    have ex21 := x2.cell 1
    have ex22 := x2.cell 2
    have ex23 := x2.cell 3
    have ex24 := x2.cell 4
    go_wp2_with fail
    clear ex20 ex21 ex22 ex23 ex24
    refine (HC1.out _ (hEE.out.below HB).shape).mono ?_
    rintro e w2 ⟨rfl, hb⟩
    replace x2 := x2.all hb
    replace HB := HB.trans (hb.mono HB.size)
    clear hb
    have ex20 := x2.cell 0
    have ex21 := x2.cell 1
    have ex22 := x2.cell 2
    have ex23 := x2.cell 3
    have ex24 := x2.cell 4
    go_wp2_with fail
    clear ex20 ex21 ex22 ex23 ex24
    refine (HC2.out _ (hEE.out.below HB).shape).mono ?_
    rintro e w3 ⟨rfl, hb⟩
    replace x2 := x2.all hb
    replace HB := HB.trans (hb.mono HB.size)
    clear hb
    have ex20 := x2.cell 0
    have ex21 := x2.cell 1
    have ex22 := x2.cell 2
    have ex23 := x2.cell 3
    have ex24 := x2.cell 4
    go_wp2_with fail
    clear ex20 ex21 ex22 ex23 ex24
    refine (HC3.out _ (hEE.out.below HB).shape).mono ?_
    rintro e w4 ⟨rfl, hb⟩
    replace x2 := x2.all hb
    replace HB := HB.trans (hb.mono HB.size)
    clear hb
    have ex20 := x2.cell 0
    have ex21 := x2.cell 1
    have ex22 := x2.cell 2
    have ex23 := x2.cell 3
    have ex24 := x2.cell 4
    go_wp2_with fail
    clear ex20 ex21 ex22 ex23 ex24
    have hq := x2.lt
    have xs := Blk.new w4 #[.int .i64 0, .string a1, .int .i64 0, .int .i64 0, .int .i64 0] 23
    replace x2 := x2.alloc (.cells #[.int .i64 0, .string a1, .int .i64 0, .int .i64 0, .int .i64 0] 23)
    replace HB := HB.alloc HB.size (.cells #[.int .i64 0, .string a1, .int .i64 0, .int .i64 0, .int .i64 0] 23)
    obtain ⟨Q, hQ⟩ : ∃ q, w4.heap.size = q := ⟨_, rfl⟩
    rw [hQ] at xs hq
    (try rw [hQ])
    obtain ⟨W, hW⟩ : ∃ v, w4.alloc (.cells #[.int .i64 0, .string a1, .int .i64 0, .int .i64 0, .int .i64 0] 23) = v := ⟨_, rfl⟩
    rw [hW] at xs x2 HB ⊢
    clear hQ hW
    refine (HP0.out _ (hEE.out.below HB).par).mono ?_
    rintro e w5 ⟨rfl, hb⟩
    replace x2 := x2.all hb
    replace xs := xs.all hb
    replace HB := HB.trans (hb.mono HB.size)
    clear hb
    have ex20 := x2.cell 0
    have ex21 := x2.cell 1
    have ex22 := x2.cell 2
    have ex23 := x2.cell 3
    have ex24 := x2.cell 4
    have exs0 := xs.cell 0
    have exs1 := xs.cell 1
    have exs2 := xs.cell 2
    have exs3 := xs.cell 3
    have exs4 := xs.cell 4
    have zxs0 := xs.frozen 0
    have zxs1 := xs.frozen 1
    have zxs2 := xs.frozen 2
    have zxs3 := xs.frozen 3
    have zxs4 := xs.frozen 4
    go_wp2_with fail
    clear ex20 ex21 ex22 ex23 ex24 exs0 exs1 exs2 exs3 exs4 zxs0 zxs1 zxs2 zxs3 zxs4
    have hQs := xs.lt
    replace x2 := x2.far (a := ⟨Q, 0, none⟩) (by show _ ≠ Q; omega) (.int .i64 n0)
    replace xs := xs.set_ 0 (.int .i64 n0)
    replace HB := HB.setCell (p := ⟨Q, 0, none⟩) (by show _ ≤ Q; omega) (.int .i64 n0)
    clear hQs
    refine (HP2.out _ (hEE.out.below HB).par).mono ?_
    rintro e w6 ⟨rfl, hb⟩
    replace x2 := x2.all hb
    replace xs := xs.all hb
    replace HB := HB.trans (hb.mono HB.size)
    clear hb
    have ex20 := x2.cell 0
    have ex21 := x2.cell 1
    have ex22 := x2.cell 2
    have ex23 := x2.cell 3
    have ex24 := x2.cell 4
    have exs0 := xs.cell 0
    have exs1 := xs.cell 1
    have exs2 := xs.cell 2
    have exs3 := xs.cell 3
    have exs4 := xs.cell 4
    have zxs0 := xs.frozen 0
    have zxs1 := xs.frozen 1
    have zxs2 := xs.frozen 2
    have zxs3 := xs.frozen 3
    have zxs4 := xs.frozen 4
    go_wp2_with fail
    clear ex20 ex21 ex22 ex23 ex24 exs0 exs1 exs2 exs3 exs4 zxs0 zxs1 zxs2 zxs3 zxs4
    have hQs := xs.lt
    replace x2 := x2.far (a := ⟨Q, 2, none⟩) (by show _ ≠ Q; omega) (.int .i64 n2)
    replace xs := xs.set_ 2 (.int .i64 n2)
    replace HB := HB.setCell (p := ⟨Q, 2, none⟩) (by show _ ≤ Q; omega) (.int .i64 n2)
    clear hQs
    refine (HP3.out _ (hEE.out.below HB).par).mono ?_
    rintro e w7 ⟨rfl, hb⟩
    replace x2 := x2.all hb
    replace xs := xs.all hb
    replace HB := HB.trans (hb.mono HB.size)
    clear hb
    have ex20 := x2.cell 0
    have ex21 := x2.cell 1
    have ex22 := x2.cell 2
    have ex23 := x2.cell 3
    have ex24 := x2.cell 4
    have exs0 := xs.cell 0
    have exs1 := xs.cell 1
    have exs2 := xs.cell 2
    have exs3 := xs.cell 3
    have exs4 := xs.cell 4
    have zxs0 := xs.frozen 0
    have zxs1 := xs.frozen 1
    have zxs2 := xs.frozen 2
    have zxs3 := xs.frozen 3
    have zxs4 := xs.frozen 4
    go_wp2_with fail
    clear ex20 ex21 ex22 ex23 ex24 exs0 exs1 exs2 exs3 exs4 zxs0 zxs1 zxs2 zxs3 zxs4
    have hQs := xs.lt
    replace x2 := x2.far (a := ⟨Q, 3, none⟩) (by show _ ≠ Q; omega) (.int .i64 n3)
    replace xs := xs.set_ 3 (.int .i64 n3)
    replace HB := HB.setCell (p := ⟨Q, 3, none⟩) (by show _ ≤ Q; omega) (.int .i64 n3)
    clear hQs
    refine (HP4.out _ (hEE.out.below HB).par).mono ?_
    rintro e w8 ⟨rfl, hb⟩
    replace x2 := x2.all hb
    replace xs := xs.all hb
    replace HB := HB.trans (hb.mono HB.size)
    clear hb
    have ex20 := x2.cell 0
    have ex21 := x2.cell 1
    have ex22 := x2.cell 2
    have ex23 := x2.cell 3
    have ex24 := x2.cell 4
    have exs0 := xs.cell 0
    have exs1 := xs.cell 1
    have exs2 := xs.cell 2
    have exs3 := xs.cell 3
    have exs4 := xs.cell 4
    have zxs0 := xs.frozen 0
    have zxs1 := xs.frozen 1
    have zxs2 := xs.frozen 2
    have zxs3 := xs.frozen 3
    have zxs4 := xs.frozen 4
    go_wp2_with fail
    clear ex20 ex21 ex22 ex23 ex24 exs0 exs1 exs2 exs3 exs4 zxs0 zxs1 zxs2 zxs3 zxs4
    have hQs := xs.lt
    replace x2 := x2.far (a := ⟨Q, 4, none⟩) (by show _ ≠ Q; omega) (.int .i64 n4)
    replace xs := xs.set_ 4 (.int .i64 n4)
    replace HB := HB.setCell (p := ⟨Q, 4, none⟩) (by show _ ≤ Q; omega) (.int .i64 n4)
    clear hQs
    refine (hT.out _ (hEE.out.below HB).par.tab).mono ?_
    rintro e w9 ⟨rfl, hb⟩
    replace x2 := x2.all hb
    replace xs := xs.all hb
    replace HB := HB.trans (hb.mono HB.size)
    clear hb
    have ex20 := x2.cell 0
    have ex21 := x2.cell 1
    have ex22 := x2.cell 2
    have ex23 := x2.cell 3
    have ex24 := x2.cell 4
    have zx20 := x2.frozen 0
    have zx21 := x2.frozen 1
    have zx22 := x2.frozen 2
    have zx23 := x2.frozen 3
    have zx24 := x2.frozen 4
    have exs0 := xs.cell 0
    have exs1 := xs.cell 1
    have exs2 := xs.cell 2
    have exs3 := xs.cell 3
    have exs4 := xs.cell 4
    have zxs0 := xs.frozen 0
    have zxs1 := xs.frozen 1
    have zxs2 := xs.frozen 2
    have zxs3 := xs.frozen 3
    have zxs4 := xs.frozen 4
    go_wp2
    have R5 := put5q (a := .int .i64 0) (b := .string ⟨#[]⟩) (c := .int .i64 0) (d := .int .i64 0) (e := .int .i64 0) x2
    have q0 := R5.cell 0
    have q1 := R5.cell 1
    have q2 := R5.cell 2
    have q3 := R5.cell 3
    have q4 := R5.cell 4
    refine bodyPost_ret (v := .tuple #[.agg #[.int .i64 0, .string ⟨#[]⟩, .int .i64 0, .int .i64 0, .int .i64 0], .bool false]) (by simp [results, Tryd.results5, go_sem, q0, q1, q2, q3, q4]) rfl ⟨rfl, below5q HB (Nat.le_refl _)⟩
  have HZ := Lib.hid (show readSh s.data.toList = (⟨n0, a1, n2, n3, n4⟩, true) from readSh_of hv (by rw [← shadeT_toList, ht]))
  clear hP
  obtain ⟨rfl, rfl⟩ : x = ⟨n0, a1, n2, n3, n4⟩ ∧ b = true := Prod.mk.inj (HR.out.symm.trans HZ.out)
  have hT : Hid (∀ w : World, Tab w → Calls Tryd.prog 13 #[.agg #[.int .i64 n0, .string a1, .int .i64 n2, .int .i64 n3, .int .i64 n4]] w (Out w (.tuple #[.string s, .bool true]))) := Lib.hid fun w ht2 => (by have := hsh w ht2; rw [shadeV_yes hv, hv, ht] at this; exact this)
  have heq := strEqQ (show s = s from rfl)
  clear hsh hv ht
  go_enter Tryd.func5, Tryd.ntmps5
  have ex20 := x2.cell 0
  have ex21 := x2.cell 1
  have ex22 := x2.cell 2
  have ex23 := x2.cell 3
  have ex24 := x2.cell 4
  go_wp2_with fail
  clear ex20 ex21 ex22 ex23 ex24
  refine (HC0.out _ (hEE.out.below HB).shape).mono ?_
  rintro e w1 ⟨rfl, hb⟩
  replace x2 := x2.all hb
  replace HB := HB.trans (hb.mono HB.size)
  clear hb
  have ex20 := x2.cell 0
  have ex21 := x2.cell 1
  have ex22 := x2.cell 2
  have ex23 := x2.cell 3
  have ex24 := x2.cell 4
  go_wp2_with fail
  clear ex20 ex21 ex22 ex23 ex24
  refine (HC1.out _ (hEE.out.below HB).shape).mono ?_
  rintro e w2 ⟨rfl, hb⟩
  replace x2 := x2.all hb
  replace HB := HB.trans (hb.mono HB.size)
  clear hb
  have ex20 := x2.cell 0
  have ex21 := x2.cell 1
  have ex22 := x2.cell 2
  have ex23 := x2.cell 3
  have ex24 := x2.cell 4
  go_wp2_with fail
  clear ex20 ex21 ex22 ex23 ex24
  refine (HC2.out _ (hEE.out.below HB).shape).mono ?_
  rintro e w3 ⟨rfl, hb⟩
  replace x2 := x2.all hb
  replace HB := HB.trans (hb.mono HB.size)
  clear hb
  have ex20 := x2.cell 0
  have ex21 := x2.cell 1
  have ex22 := x2.cell 2
  have ex23 := x2.cell 3
  have ex24 := x2.cell 4
  go_wp2_with fail
  clear ex20 ex21 ex22 ex23 ex24
  refine (HC3.out _ (hEE.out.below HB).shape).mono ?_
  rintro e w4 ⟨rfl, hb⟩
  replace x2 := x2.all hb
  replace HB := HB.trans (hb.mono HB.size)
  clear hb
  have ex20 := x2.cell 0
  have ex21 := x2.cell 1
  have ex22 := x2.cell 2
  have ex23 := x2.cell 3
  have ex24 := x2.cell 4
  go_wp2_with fail
  clear ex20 ex21 ex22 ex23 ex24
  have hq := x2.lt
  have xs := Blk.new w4 #[.int .i64 0, .string a1, .int .i64 0, .int .i64 0, .int .i64 0] 23
  replace x2 := x2.alloc (.cells #[.int .i64 0, .string a1, .int .i64 0, .int .i64 0, .int .i64 0] 23)
  replace HB := HB.alloc HB.size (.cells #[.int .i64 0, .string a1, .int .i64 0, .int .i64 0, .int .i64 0] 23)
  obtain ⟨Q, hQ⟩ : ∃ q, w4.heap.size = q := ⟨_, rfl⟩
  rw [hQ] at xs hq
  (try rw [hQ])
  obtain ⟨W, hW⟩ : ∃ v, w4.alloc (.cells #[.int .i64 0, .string a1, .int .i64 0, .int .i64 0, .int .i64 0] 23) = v := ⟨_, rfl⟩
  rw [hW] at xs x2 HB ⊢
  clear hQ hW
  refine (HP0.out _ (hEE.out.below HB).par).mono ?_
  rintro e w5 ⟨rfl, hb⟩
  replace x2 := x2.all hb
  replace xs := xs.all hb
  replace HB := HB.trans (hb.mono HB.size)
  clear hb
  have ex20 := x2.cell 0
  have ex21 := x2.cell 1
  have ex22 := x2.cell 2
  have ex23 := x2.cell 3
  have ex24 := x2.cell 4
  have exs0 := xs.cell 0
  have exs1 := xs.cell 1
  have exs2 := xs.cell 2
  have exs3 := xs.cell 3
  have exs4 := xs.cell 4
  have zxs0 := xs.frozen 0
  have zxs1 := xs.frozen 1
  have zxs2 := xs.frozen 2
  have zxs3 := xs.frozen 3
  have zxs4 := xs.frozen 4
  go_wp2_with fail
  clear ex20 ex21 ex22 ex23 ex24 exs0 exs1 exs2 exs3 exs4 zxs0 zxs1 zxs2 zxs3 zxs4
  have hQs := xs.lt
  replace x2 := x2.far (a := ⟨Q, 0, none⟩) (by show _ ≠ Q; omega) (.int .i64 n0)
  replace xs := xs.set_ 0 (.int .i64 n0)
  replace HB := HB.setCell (p := ⟨Q, 0, none⟩) (by show _ ≤ Q; omega) (.int .i64 n0)
  clear hQs
  refine (HP2.out _ (hEE.out.below HB).par).mono ?_
  rintro e w6 ⟨rfl, hb⟩
  replace x2 := x2.all hb
  replace xs := xs.all hb
  replace HB := HB.trans (hb.mono HB.size)
  clear hb
  have ex20 := x2.cell 0
  have ex21 := x2.cell 1
  have ex22 := x2.cell 2
  have ex23 := x2.cell 3
  have ex24 := x2.cell 4
  have exs0 := xs.cell 0
  have exs1 := xs.cell 1
  have exs2 := xs.cell 2
  have exs3 := xs.cell 3
  have exs4 := xs.cell 4
  have zxs0 := xs.frozen 0
  have zxs1 := xs.frozen 1
  have zxs2 := xs.frozen 2
  have zxs3 := xs.frozen 3
  have zxs4 := xs.frozen 4
  go_wp2_with fail
  clear ex20 ex21 ex22 ex23 ex24 exs0 exs1 exs2 exs3 exs4 zxs0 zxs1 zxs2 zxs3 zxs4
  have hQs := xs.lt
  replace x2 := x2.far (a := ⟨Q, 2, none⟩) (by show _ ≠ Q; omega) (.int .i64 n2)
  replace xs := xs.set_ 2 (.int .i64 n2)
  replace HB := HB.setCell (p := ⟨Q, 2, none⟩) (by show _ ≤ Q; omega) (.int .i64 n2)
  clear hQs
  refine (HP3.out _ (hEE.out.below HB).par).mono ?_
  rintro e w7 ⟨rfl, hb⟩
  replace x2 := x2.all hb
  replace xs := xs.all hb
  replace HB := HB.trans (hb.mono HB.size)
  clear hb
  have ex20 := x2.cell 0
  have ex21 := x2.cell 1
  have ex22 := x2.cell 2
  have ex23 := x2.cell 3
  have ex24 := x2.cell 4
  have exs0 := xs.cell 0
  have exs1 := xs.cell 1
  have exs2 := xs.cell 2
  have exs3 := xs.cell 3
  have exs4 := xs.cell 4
  have zxs0 := xs.frozen 0
  have zxs1 := xs.frozen 1
  have zxs2 := xs.frozen 2
  have zxs3 := xs.frozen 3
  have zxs4 := xs.frozen 4
  go_wp2_with fail
  clear ex20 ex21 ex22 ex23 ex24 exs0 exs1 exs2 exs3 exs4 zxs0 zxs1 zxs2 zxs3 zxs4
  have hQs := xs.lt
  replace x2 := x2.far (a := ⟨Q, 3, none⟩) (by show _ ≠ Q; omega) (.int .i64 n3)
  replace xs := xs.set_ 3 (.int .i64 n3)
  replace HB := HB.setCell (p := ⟨Q, 3, none⟩) (by show _ ≤ Q; omega) (.int .i64 n3)
  clear hQs
  refine (HP4.out _ (hEE.out.below HB).par).mono ?_
  rintro e w8 ⟨rfl, hb⟩
  replace x2 := x2.all hb
  replace xs := xs.all hb
  replace HB := HB.trans (hb.mono HB.size)
  clear hb
  have ex20 := x2.cell 0
  have ex21 := x2.cell 1
  have ex22 := x2.cell 2
  have ex23 := x2.cell 3
  have ex24 := x2.cell 4
  have exs0 := xs.cell 0
  have exs1 := xs.cell 1
  have exs2 := xs.cell 2
  have exs3 := xs.cell 3
  have exs4 := xs.cell 4
  have zxs0 := xs.frozen 0
  have zxs1 := xs.frozen 1
  have zxs2 := xs.frozen 2
  have zxs3 := xs.frozen 3
  have zxs4 := xs.frozen 4
  go_wp2_with fail
  clear ex20 ex21 ex22 ex23 ex24 exs0 exs1 exs2 exs3 exs4 zxs0 zxs1 zxs2 zxs3 zxs4
  have hQs := xs.lt
  replace x2 := x2.far (a := ⟨Q, 4, none⟩) (by show _ ≠ Q; omega) (.int .i64 n4)
  replace xs := xs.set_ 4 (.int .i64 n4)
  replace HB := HB.setCell (p := ⟨Q, 4, none⟩) (by show _ ≤ Q; omega) (.int .i64 n4)
  clear hQs
  refine (hT.out _ (hEE.out.below HB).par.tab).mono ?_
  rintro e w9 ⟨rfl, hb⟩
  replace x2 := x2.all hb
  replace xs := xs.all hb
  replace HB := HB.trans (hb.mono HB.size)
  clear hb
  have ex20 := x2.cell 0
  have ex21 := x2.cell 1
  have ex22 := x2.cell 2
  have ex23 := x2.cell 3
  have ex24 := x2.cell 4
  have exs0 := xs.cell 0
  have exs1 := xs.cell 1
  have exs2 := xs.cell 2
  have exs3 := xs.cell 3
  have exs4 := xs.cell 4
  go_wp2_with fail
  clear ex20 ex21 ex22 ex23 ex24 exs0 exs1 exs2 exs3 exs4
  refine (cloneQ a1 _ za1).mono ?_
  rintro e w10 ⟨rfl, hb⟩
  replace x2 := x2.all hb
  replace xs := xs.all hb
  replace HB := HB.trans (hb.mono HB.size)
  clear hb
  have ex20 := x2.cell 0
  have ex21 := x2.cell 1
  have ex22 := x2.cell 2
  have ex23 := x2.cell 3
  have ex24 := x2.cell 4
  have zx20 := x2.frozen 0
  have zx21 := x2.frozen 1
  have zx22 := x2.frozen 2
  have zx23 := x2.frozen 3
  have zx24 := x2.frozen 4
  have exs0 := xs.cell 0
  have exs1 := xs.cell 1
  have exs2 := xs.cell 2
  have exs3 := xs.cell 3
  have exs4 := xs.cell 4
  have zxs0 := xs.frozen 0
  have zxs1 := xs.frozen 1
  have zxs2 := xs.frozen 2
  have zxs3 := xs.frozen 3
  have zxs4 := xs.frozen 4
  go_wp2
  have R5 := put5q (a := .int .i64 n0) (b := .string a1) (c := .int .i64 n2) (d := .int .i64 n3) (e := .int .i64 n4) (x2.far (a := ⟨Q, 1, none⟩) (by show _ ≠ Q; omega) (.string a1))
  have q0 := R5.cell 0
  have q1 := R5.cell 1
  have q2 := R5.cell 2
  have q3 := R5.cell 3
  have q4 := R5.cell 4
  refine bodyPost_ret (v := .tuple #[.agg #[.int .i64 n0, .string a1, .int .i64 n2, .int .i64 n3, .int .i64 n4], .bool true]) (by simp [results, Tryd.results5, go_sem, q0, q1, q2, q3, q4]) rfl ⟨rfl, below5q (HB.setCell (p := ⟨Q, 1, none⟩) (by show _ ≤ Q; omega) (.string a1)) (Nat.le_refl _)⟩
end Go.Proofs.YtcingmfeepcpjaaDoor
