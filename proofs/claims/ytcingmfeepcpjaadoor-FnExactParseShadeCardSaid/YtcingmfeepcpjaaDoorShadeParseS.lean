/- The walk of ParseShade, the model's. Conditions: as they stand. -/
import Derived.Test.YtcingmfeepcpjaaDoorShadeParseI
import Derived.Deep.RegionHeld3
namespace Go.Proofs.YtcingmfeepcpjaaDoor
open Go.RowKit

theorem st_cellQ {w : World} {p o b o' : Nat} {v x : Value} (h : w.cell? ⟨b, o', none⟩ = some x) (hne : b ≠ p) : (w.setCell ⟨p, o, none⟩ v).cell? ⟨b, o', none⟩ = some x :=
  (grown_setCell w ⟨p, o, none⟩ v).cell (a := ⟨b, o', none⟩) h (fun e => hne (Option.some.inj e))
set_option maxRecDepth 100000 in
set_option maxHeartbeats 8000000 in
theorem specParseShade_any (s : ByteArray) (w : World) (hs : s.size ≤ 1048576) (x : ShadeR) (b : Bool) (hx : readSh s.data.toList = (x, b)) : Calls Tryd.prog 4 #[.string s] w (Out w (.tuple #[.agg #[.int .i64 x.f0, .string x.f1, .int .i64 x.f2, .int .i64 x.f3, .int .i64 x.f4], .bool b])) := by
  have HR := Lib.hid hx
  clear hx
  have hl0 := lenQ s
  have HB := Below.refl w.heap.size w
  have x2 := Blk.new w #[.int .i64 0, .string ⟨#[]⟩, .int .i64 0, .int .i64 0, .int .i64 0] 23
  replace HB := HB.alloc (Nat.le_refl _) (.cells #[.int .i64 0, .string ⟨#[]⟩, .int .i64 0, .int .i64 0, .int .i64 0] 23)
  go_enter Tryd.func4, Tryd.ntmps4
  go_wp2_with fail
  refine (l1Split_any s (32 : UInt8) _ (by omega)).mono ?_
  rintro e w1 he
  obtain ⟨g, n, cap, rfl, hn1, hnc, hcm, hgw, hgz, hlen, hcell, hb⟩ := split_cells _ _ _ _ _ he
  clear he
  unfold maxLen at hcm
  replace x2 := x2.all hb
  have hgx : g ≠ w.heap.size := fun e => absurd (show w.heap.size < (w.alloc (.cells #[.int .i64 0, .string ⟨#[]⟩, .int .i64 0, .int .i64 0, .int .i64 0] 23)).heap.size by simp) (by rw [e] at hgw; omega)
  replace HB := HB.trans (hb.mono HB.size)
  clear hb hgw
  obtain ⟨Ws, hWs⟩ : ∃ l, splitL 32 s.data.toList = l := ⟨_, rfl⟩
  have HN : ¬ (fits s.data.toList Ws ∧ shadeB (partsS Ws) = true ∧ textL (partsS Ws) = s.data.toList) → readSh s.data.toList = (⟨0, ⟨#[]⟩, 0, 0, 0⟩, false) := fun h => readSh_none (hWs ▸ h)
  have HY : shadeB (partsS Ws) = true → textL (partsS Ws) = s.data.toList → readSh s.data.toList = (partsS Ws, true) := fun h1 h2 => readSh_of h1 h2
  rw [hWs] at hlen hcell
  clear hWs
  by_cases h50 : s.size ≤ 50
  rotate_left
  · have hd : decide ((50 : Int) < (s.size : Int)) = true := decide_eq_true (by omega)
    have HZ := Lib.hid (HN (fun h => absurd h.1.1 (by omega)))
    clear HN HY hcell
    obtain ⟨rfl, rfl⟩ : x = ⟨0, ⟨#[]⟩, 0, 0, 0⟩ ∧ b = false := Prod.mk.inj (HR.out.symm.trans HZ.out)
    have ex20 := x2.cell 0
    have ex21 := x2.cell 1
    have ex22 := x2.cell 2
    have ex23 := x2.cell 3
    have ex24 := x2.cell 4
    have zx20 := x2.frozen 0
    have zx21 := x2.frozen 1
    have zx22 := x2.frozen 2
    have zx23 := x2.frozen 3
    have zx24 := x2.frozen 4
    go_wp2
    have R5 := put5q (a := .int .i64 0) (b := .string ⟨#[]⟩) (c := .int .i64 0) (d := .int .i64 0) (e := .int .i64 0) x2
    have q0 := R5.cell 0
    have q1 := R5.cell 1
    have q2 := R5.cell 2
    have q3 := R5.cell 3
    have q4 := R5.cell 4
    refine bodyPost_ret (v := .tuple #[.agg #[.int .i64 0, .string ⟨#[]⟩, .int .i64 0, .int .i64 0, .int .i64 0], .bool false]) (by simp [results, Tryd.results4, go_sem, q0, q1, q2, q3, q4]) rfl ⟨rfl, below5q HB (Nat.le_refl _)⟩
  have hd50 : decide ((50 : Int) < (s.size : Int)) = false := decide_eq_false (by omega)
  by_cases h8 : n = 8
  rotate_left
  · have hd : ((n : Int) != 8) = true := by rw [bne_iff_ne]; omega
    have HZ := Lib.hid (HN (fun h => h8 (hlen.symm.trans h.1.2.1)))
    clear HN HY hcell
    obtain ⟨rfl, rfl⟩ : x = ⟨0, ⟨#[]⟩, 0, 0, 0⟩ ∧ b = false := Prod.mk.inj (HR.out.symm.trans HZ.out)
    have ex20 := x2.cell 0
    have ex21 := x2.cell 1
    have ex22 := x2.cell 2
    have ex23 := x2.cell 3
    have ex24 := x2.cell 4
    have zx20 := x2.frozen 0
    have zx21 := x2.frozen 1
    have zx22 := x2.frozen 2
    have zx23 := x2.frozen 3
    have zx24 := x2.frozen 4
    go_wp2
    have R5 := put5q (a := .int .i64 0) (b := .string ⟨#[]⟩) (c := .int .i64 0) (d := .int .i64 0) (e := .int .i64 0) x2
    have q0 := R5.cell 0
    have q1 := R5.cell 1
    have q2 := R5.cell 2
    have q3 := R5.cell 3
    have q4 := R5.cell 4
    refine bodyPost_ret (v := .tuple #[.agg #[.int .i64 0, .string ⟨#[]⟩, .int .i64 0, .int .i64 0, .int .i64 0], .bool false]) (by simp [results, Tryd.results4, go_sem, q0, q1, q2, q3, q4]) rfl ⟨rfl, below5q HB (Nat.le_refl _)⟩
  subst h8
  have hd8 : (((8 : Nat) : Int) != 8) = false := rfl
  obtain ⟨t0, c0, k0, s0⟩ := hcell 0 (by omega)
  obtain ⟨t1, c1, k1, s1⟩ := hcell 1 (by omega)
  obtain ⟨t3, c3, k3, s3⟩ := hcell 3 (by omega)
  obtain ⟨t5, c5, k5, s5⟩ := hcell 5 (by omega)
  obtain ⟨t7, c7, k7, s7⟩ := hcell 7 (by omega)
  clear hcell
  have l3 : (Ws.getD 3 []).length = t3.size := by rw [← k3, lenQ]
  have l5 : (Ws.getD 5 []).length = t5.size := by rw [← k5, lenQ]
  by_cases h3 : 2 ≤ t3.size
  rotate_left
  · have hd : decide ((t3.size : Int) < 2) = true := decide_eq_true (by omega)
    have HZ := Lib.hid (HN (fun h => absurd h.1.2.2.1 (by omega)))
    clear HN HY
    obtain ⟨rfl, rfl⟩ : x = ⟨0, ⟨#[]⟩, 0, 0, 0⟩ ∧ b = false := Prod.mk.inj (HR.out.symm.trans HZ.out)
    have ex20 := x2.cell 0
    have ex21 := x2.cell 1
    have ex22 := x2.cell 2
    have ex23 := x2.cell 3
    have ex24 := x2.cell 4
    have zx20 := x2.frozen 0
    have zx21 := x2.frozen 1
    have zx22 := x2.frozen 2
    have zx23 := x2.frozen 3
    have zx24 := x2.frozen 4
    go_wp2
    have R5 := put5q (a := .int .i64 0) (b := .string ⟨#[]⟩) (c := .int .i64 0) (d := .int .i64 0) (e := .int .i64 0) x2
    have q0 := R5.cell 0
    have q1 := R5.cell 1
    have q2 := R5.cell 2
    have q3 := R5.cell 3
    have q4 := R5.cell 4
    refine bodyPost_ret (v := .tuple #[.agg #[.int .i64 0, .string ⟨#[]⟩, .int .i64 0, .int .i64 0, .int .i64 0], .bool false]) (by simp [results, Tryd.results4, go_sem, q0, q1, q2, q3, q4]) rfl ⟨rfl, below5q HB (Nat.le_refl _)⟩
  have hd3 : decide ((t3.size : Int) < 2) = false := decide_eq_false (by omega)
  by_cases h5 : 2 ≤ t5.size
  rotate_left
  · have hd : decide ((t5.size : Int) < 2) = true := decide_eq_true (by omega)
    have HZ := Lib.hid (HN (fun h => absurd h.1.2.2.2 (by omega)))
    clear HN HY
    obtain ⟨rfl, rfl⟩ : x = ⟨0, ⟨#[]⟩, 0, 0, 0⟩ ∧ b = false := Prod.mk.inj (HR.out.symm.trans HZ.out)
    have ex20 := x2.cell 0
    have ex21 := x2.cell 1
    have ex22 := x2.cell 2
    have ex23 := x2.cell 3
    have ex24 := x2.cell 4
    have zx20 := x2.frozen 0
    have zx21 := x2.frozen 1
    have zx22 := x2.frozen 2
    have zx23 := x2.frozen 3
    have zx24 := x2.frozen 4
    go_wp2
    have R5 := put5q (a := .int .i64 0) (b := .string ⟨#[]⟩) (c := .int .i64 0) (d := .int .i64 0) (e := .int .i64 0) x2
    have q0 := R5.cell 0
    have q1 := R5.cell 1
    have q2 := R5.cell 2
    have q3 := R5.cell 3
    have q4 := R5.cell 4
    refine bodyPost_ret (v := .tuple #[.agg #[.int .i64 0, .string ⟨#[]⟩, .int .i64 0, .int .i64 0, .int .i64 0], .bool false]) (by simp [results, Tryd.results4, go_sem, q0, q1, q2, q3, q4]) rfl ⟨rfl, below5q HB (Nat.le_refl _)⟩
  have hd5 : decide ((t5.size : Int) < 2) = false := decide_eq_false (by omega)
  have hfit : fits s.data.toList Ws := ⟨by omega, hlen, by omega, by omega⟩
  obtain ⟨q3, hq3⟩ : ∃ q : Nat, t3.size = q + 1 := ⟨t3.size - 1, by omega⟩
  obtain ⟨q5, hq5⟩ : ∃ q : Nat, t5.size = q + 1 := ⟨t5.size - 1, by omega⟩
  have hS : partsS Ws = ⟨nOf t0.data.toList, t1, nOf (t3.extract 0 q3).data.toList, nOf (t5.extract 0 q5).data.toList, nOf t7.data.toList⟩ := by
    have m3 : (t3.extract 0 q3).data.toList = (Ws.getD 3 []).take ((Ws.getD 3 []).length - 1) := by rw [strExtract, l3, ← k3, hq3]; simp
    have m5 : (t5.extract 0 q5).data.toList = (Ws.getD 5 []).take ((Ws.getD 5 []).length - 1) := by rw [strExtract, l5, ← k5, hq5]; simp
    unfold partsS
    rw [m3, m5, k0, k7, ← k1]
  obtain ⟨b0, P0⟩ := read_ex t0 (by unfold maxLen; omega)
  obtain ⟨m0, hm0⟩ : ∃ n, nOf t0.data.toList = n := ⟨_, rfl⟩
  rw [hm0] at hS P0
  have HP0 := Lib.hid P0
  clear P0 hm0
  obtain ⟨b3, P3⟩ := read_ex (t3.extract 0 q3) (by have h9 : (t3.extract 0 q3).size ≤ t3.size := (by rw [ByteArray.size_extract]; omega); unfold maxLen; omega)
  obtain ⟨m3, hm3⟩ : ∃ n, nOf (t3.extract 0 q3).data.toList = n := ⟨_, rfl⟩
  rw [hm3] at hS P3
  have HP3 := Lib.hid P3
  clear P3 hm3
  obtain ⟨b5, P5⟩ := read_ex (t5.extract 0 q5) (by have h9 : (t5.extract 0 q5).size ≤ t5.size := (by rw [ByteArray.size_extract]; omega); unfold maxLen; omega)
  obtain ⟨m5, hm5⟩ : ∃ n, nOf (t5.extract 0 q5).data.toList = n := ⟨_, rfl⟩
  rw [hm5] at hS P5
  have HP5 := Lib.hid P5
  clear P5 hm5
  obtain ⟨b7, P7⟩ := read_ex t7 (by unfold maxLen; omega)
  obtain ⟨m7, hm7⟩ : ∃ n, nOf t7.data.toList = n := ⟨_, rfl⟩
  rw [hm7] at hS P7
  have HP7 := Lib.hid P7
  clear P7 hm7
  have hone := fun (w : World) => l3One_any ⟨m0, t1, m3, m5, m7⟩ w (show t1.size ≤ maxLen by unfold maxLen; omega)
  have gw3 : IntKind.i64.wrap ((t3.size : Int) - 1) = (q3 : Int) := by rw [IntWalk.i64_in _ (by omega)]; omega
  have gw5 : IntKind.i64.wrap ((t5.size : Int) - 1) = (q5 : Int) := by rw [IntWalk.i64_in _ (by omega)]; omega
  have hi3 : (q3 : Int) ≤ (t3.size : Int) := by omega
  have hz3 : (0 : Int) ≤ (q3 : Int) := by omega
  have hi5 : (q5 : Int) ≤ (t5.size : Int) := by omega
  have hz5 : (0 : Int) ≤ (q5 : Int) := by omega
  clear k0 k1 k3 k5 k7 l3 l5 s0 s1 s7 hl0 hfit hq3 hq5
  by_cases hv : shadeB ⟨m0, t1, m3, m5, m7⟩ = true
  rotate_left
  · have HZ := Lib.hid (HN (fun h => hv (hS ▸ h.2.1)))
    obtain ⟨rfl, rfl⟩ : x = ⟨0, ⟨#[]⟩, 0, 0, 0⟩ ∧ b = false := Prod.mk.inj (HR.out.symm.trans HZ.out)
    replace hv := not_false hv
    have hO : Hid (∀ w : World, Calls Tryd.prog 9 #[.agg #[.int .i64 m0, .string t1, .int .i64 m3, .int .i64 m5, .int .i64 m7]] w (Tells w false)) := Lib.hid fun w => (by have := hone w; rw [hv] at this; exact this)
    clear hone hv HN HY hS
    have ex20 := x2.cell 0
    have ex21 := x2.cell 1
    have ex22 := x2.cell 2
    have ex23 := x2.cell 3
    have ex24 := x2.cell 4
    go_wp2_with fail
    clear ex20 ex21 ex22 ex23 ex24
    have hq := x2.lt
    have hal := (Below.refl w1.heap.size w1).alloc (Nat.le_refl _) (.cells #[.int .i64 0, .string t1, .int .i64 0, .int .i64 0, .int .i64 0] 23)
    replace c0 := cells_of hal c0 hgz
    replace c1 := cells_of hal c1 hgz
    replace c3 := cells_of hal c3 hgz
    replace c5 := cells_of hal c5 hgz
    replace c7 := cells_of hal c7 hgz
    have xs := Blk.new w1 #[.int .i64 0, .string t1, .int .i64 0, .int .i64 0, .int .i64 0] 23
    replace x2 := x2.alloc (.cells #[.int .i64 0, .string t1, .int .i64 0, .int .i64 0, .int .i64 0] 23)
    replace HB := HB.alloc HB.size (.cells #[.int .i64 0, .string t1, .int .i64 0, .int .i64 0, .int .i64 0] 23)
    obtain ⟨Q, hQ⟩ : ∃ q, w1.heap.size = q := ⟨_, rfl⟩
    have hgQ : g < Q := by omega
    rw [hQ] at xs hq
    (try rw [hQ])
    obtain ⟨W, hW⟩ : ∃ v, w1.alloc (.cells #[.int .i64 0, .string t1, .int .i64 0, .int .i64 0, .int .i64 0] 23) = v := ⟨_, rfl⟩
    rw [hW] at xs x2 HB c0 c1 c3 c5 c7 ⊢
    clear hQ hW hal hgz
    refine (HP0.out _).mono ?_
    rintro e w2 ⟨rfl, hb⟩
    replace c0 := cells_of hb c0 (Nat.lt_trans hgQ xs.lt)
    replace c1 := cells_of hb c1 (Nat.lt_trans hgQ xs.lt)
    replace c3 := cells_of hb c3 (Nat.lt_trans hgQ xs.lt)
    replace c5 := cells_of hb c5 (Nat.lt_trans hgQ xs.lt)
    replace c7 := cells_of hb c7 (Nat.lt_trans hgQ xs.lt)
    replace x2 := x2.all hb
    replace xs := xs.all hb
    replace HB := HB.trans (hb.mono HB.size)
    clear hb
    have ex20 := x2.cell 0
    have ex21 := x2.cell 1
    have ex22 := x2.cell 2
    have ex23 := x2.cell 3
    have ex24 := x2.cell 4
    have exs0 := xs.cell 0
    have exs1 := xs.cell 1
    have exs2 := xs.cell 2
    have exs3 := xs.cell 3
    have exs4 := xs.cell 4
    have zxs0 := xs.frozen 0
    have zxs1 := xs.frozen 1
    have zxs2 := xs.frozen 2
    have zxs3 := xs.frozen 3
    have zxs4 := xs.frozen 4
    go_wp2
    clear ex20 ex21 ex22 ex23 ex24 exs0 exs1 exs2 exs3 exs4 zxs0 zxs1 zxs2 zxs3 zxs4
    have hQs := xs.lt
    replace x2 := x2.far (a := ⟨Q, 0, none⟩) (by show _ ≠ Q; omega) (.int .i64 m0)
    replace xs := xs.set_ 0 (.int .i64 m0)
    replace HB := HB.setCell (p := ⟨Q, 0, none⟩) (by show _ ≤ Q; omega) (.int .i64 m0)
    clear hQs
    replace c0 := st_cellQ (o := 0) (v := (.int .i64 m0)) c0 (Nat.ne_of_lt hgQ)
    replace c1 := st_cellQ (o := 0) (v := (.int .i64 m0)) c1 (Nat.ne_of_lt hgQ)
    replace c3 := st_cellQ (o := 0) (v := (.int .i64 m0)) c3 (Nat.ne_of_lt hgQ)
    replace c5 := st_cellQ (o := 0) (v := (.int .i64 m0)) c5 (Nat.ne_of_lt hgQ)
    replace c7 := st_cellQ (o := 0) (v := (.int .i64 m0)) c7 (Nat.ne_of_lt hgQ)
    obtain ⟨V3, hV⟩ : ∃ v, w2.setCell ⟨Q, 0, none⟩ (.int .i64 m0) = v := ⟨_, rfl⟩
    rw [hV] at xs x2 HB c0 c1 c3 c5 c7 ⊢
    clear hV
    go_region_held3 (fun w' => w'.cell? ⟨g, 3, none⟩ = some (.string t3)) (first | exact c3 | exact st_cellQ c3 (Nat.ne_of_lt hgQ) | go_keep) (first | (go_at_call 8; (with_reducible refine (HP3.out _).mono ?_); rintro e w3 ⟨rfl, hb⟩; (try replace hb := below_drew' hb); replace c0 := cells_of hb c0 (Nat.lt_trans hgQ xs.lt); replace c1 := cells_of hb c1 (Nat.lt_trans hgQ xs.lt); replace c3 := cells_of hb c3 (Nat.lt_trans hgQ xs.lt); replace c5 := cells_of hb c5 (Nat.lt_trans hgQ xs.lt); replace c7 := cells_of hb c7 (Nat.lt_trans hgQ xs.lt); replace x2 := x2.all hb; replace xs := xs.all hb; replace HB := HB.trans (hb.mono HB.size); clear hb; have hxc := xs.cell 2; have hxz := xs.frozen 2))
    clear hxc hxz
    have ex20 := x2.cell 0
    have ex21 := x2.cell 1
    have ex22 := x2.cell 2
    have ex23 := x2.cell 3
    have ex24 := x2.cell 4
    have exs0 := xs.cell 0
    have exs1 := xs.cell 1
    have exs2 := xs.cell 2
    have exs3 := xs.cell 3
    have exs4 := xs.cell 4
    have zxs0 := xs.frozen 0
    have zxs1 := xs.frozen 1
    have zxs2 := xs.frozen 2
    have zxs3 := xs.frozen 3
    have zxs4 := xs.frozen 4
    go_wp2
    clear ex20 ex21 ex22 ex23 ex24 exs0 exs1 exs2 exs3 exs4 zxs0 zxs1 zxs2 zxs3 zxs4
    have hQs := xs.lt
    replace x2 := x2.far (a := ⟨Q, 2, none⟩) (by show _ ≠ Q; omega) (.int .i64 m3)
    replace xs := xs.set_ 2 (.int .i64 m3)
    replace HB := HB.setCell (p := ⟨Q, 2, none⟩) (by show _ ≤ Q; omega) (.int .i64 m3)
    clear hQs
    replace c0 := st_cellQ (o := 2) (v := (.int .i64 m3)) c0 (Nat.ne_of_lt hgQ)
    replace c1 := st_cellQ (o := 2) (v := (.int .i64 m3)) c1 (Nat.ne_of_lt hgQ)
    replace c3 := st_cellQ (o := 2) (v := (.int .i64 m3)) c3 (Nat.ne_of_lt hgQ)
    replace c5 := st_cellQ (o := 2) (v := (.int .i64 m3)) c5 (Nat.ne_of_lt hgQ)
    replace c7 := st_cellQ (o := 2) (v := (.int .i64 m3)) c7 (Nat.ne_of_lt hgQ)
    obtain ⟨V5, hV⟩ : ∃ v, w3.setCell ⟨Q, 2, none⟩ (.int .i64 m3) = v := ⟨_, rfl⟩
    rw [hV] at xs x2 HB c0 c1 c3 c5 c7 ⊢
    clear hV
    go_region_held3 (fun w' => w'.cell? ⟨g, 5, none⟩ = some (.string t5)) (first | exact c5 | exact st_cellQ c5 (Nat.ne_of_lt hgQ) | go_keep) (first | (go_at_call 8; (with_reducible refine (HP5.out _).mono ?_); rintro e w4 ⟨rfl, hb⟩; (try replace hb := below_drew' hb); replace c0 := cells_of hb c0 (Nat.lt_trans hgQ xs.lt); replace c1 := cells_of hb c1 (Nat.lt_trans hgQ xs.lt); replace c3 := cells_of hb c3 (Nat.lt_trans hgQ xs.lt); replace c5 := cells_of hb c5 (Nat.lt_trans hgQ xs.lt); replace c7 := cells_of hb c7 (Nat.lt_trans hgQ xs.lt); replace x2 := x2.all hb; replace xs := xs.all hb; replace HB := HB.trans (hb.mono HB.size); clear hb; have hxc := xs.cell 3; have hxz := xs.frozen 3))
    clear hxc hxz
    have ex20 := x2.cell 0
    have ex21 := x2.cell 1
    have ex22 := x2.cell 2
    have ex23 := x2.cell 3
    have ex24 := x2.cell 4
    have exs0 := xs.cell 0
    have exs1 := xs.cell 1
    have exs2 := xs.cell 2
    have exs3 := xs.cell 3
    have exs4 := xs.cell 4
    have zxs0 := xs.frozen 0
    have zxs1 := xs.frozen 1
    have zxs2 := xs.frozen 2
    have zxs3 := xs.frozen 3
    have zxs4 := xs.frozen 4
    go_wp2_with fail
    clear ex20 ex21 ex22 ex23 ex24 exs0 exs1 exs2 exs3 exs4 zxs0 zxs1 zxs2 zxs3 zxs4
    have hQs := xs.lt
    replace x2 := x2.far (a := ⟨Q, 3, none⟩) (by show _ ≠ Q; omega) (.int .i64 m5)
    replace xs := xs.set_ 3 (.int .i64 m5)
    replace HB := HB.setCell (p := ⟨Q, 3, none⟩) (by show _ ≤ Q; omega) (.int .i64 m5)
    clear hQs
    replace c0 := st_cellQ (o := 3) (v := (.int .i64 m5)) c0 (Nat.ne_of_lt hgQ)
    replace c1 := st_cellQ (o := 3) (v := (.int .i64 m5)) c1 (Nat.ne_of_lt hgQ)
    replace c3 := st_cellQ (o := 3) (v := (.int .i64 m5)) c3 (Nat.ne_of_lt hgQ)
    replace c5 := st_cellQ (o := 3) (v := (.int .i64 m5)) c5 (Nat.ne_of_lt hgQ)
    replace c7 := st_cellQ (o := 3) (v := (.int .i64 m5)) c7 (Nat.ne_of_lt hgQ)
    refine (HP7.out _).mono ?_
    rintro e w5 ⟨rfl, hb⟩
    replace c0 := cells_of hb c0 (Nat.lt_trans hgQ xs.lt)
    replace c1 := cells_of hb c1 (Nat.lt_trans hgQ xs.lt)
    replace c3 := cells_of hb c3 (Nat.lt_trans hgQ xs.lt)
    replace c5 := cells_of hb c5 (Nat.lt_trans hgQ xs.lt)
    replace c7 := cells_of hb c7 (Nat.lt_trans hgQ xs.lt)
    replace x2 := x2.all hb
    replace xs := xs.all hb
    replace HB := HB.trans (hb.mono HB.size)
    clear hb
    have ex20 := x2.cell 0
    have ex21 := x2.cell 1
    have ex22 := x2.cell 2
    have ex23 := x2.cell 3
    have ex24 := x2.cell 4
    have exs0 := xs.cell 0
    have exs1 := xs.cell 1
    have exs2 := xs.cell 2
    have exs3 := xs.cell 3
    have exs4 := xs.cell 4
    have zxs0 := xs.frozen 0
    have zxs1 := xs.frozen 1
    have zxs2 := xs.frozen 2
    have zxs3 := xs.frozen 3
    have zxs4 := xs.frozen 4
    go_wp2_with fail
    clear ex20 ex21 ex22 ex23 ex24 exs0 exs1 exs2 exs3 exs4 zxs0 zxs1 zxs2 zxs3 zxs4
    have hQs := xs.lt
    replace x2 := x2.far (a := ⟨Q, 4, none⟩) (by show _ ≠ Q; omega) (.int .i64 m7)
    replace xs := xs.set_ 4 (.int .i64 m7)
    replace HB := HB.setCell (p := ⟨Q, 4, none⟩) (by show _ ≤ Q; omega) (.int .i64 m7)
    clear hQs
    replace c0 := st_cellQ (o := 4) (v := (.int .i64 m7)) c0 (Nat.ne_of_lt hgQ)
    replace c1 := st_cellQ (o := 4) (v := (.int .i64 m7)) c1 (Nat.ne_of_lt hgQ)
    replace c3 := st_cellQ (o := 4) (v := (.int .i64 m7)) c3 (Nat.ne_of_lt hgQ)
    replace c5 := st_cellQ (o := 4) (v := (.int .i64 m7)) c5 (Nat.ne_of_lt hgQ)
    replace c7 := st_cellQ (o := 4) (v := (.int .i64 m7)) c7 (Nat.ne_of_lt hgQ)
    refine (hO.out _).mono ?_
    rintro e w6 ⟨rfl, hb⟩
    replace c0 := cells_of hb c0 (Nat.lt_trans hgQ xs.lt)
    replace c1 := cells_of hb c1 (Nat.lt_trans hgQ xs.lt)
    replace c3 := cells_of hb c3 (Nat.lt_trans hgQ xs.lt)
    replace c5 := cells_of hb c5 (Nat.lt_trans hgQ xs.lt)
    replace c7 := cells_of hb c7 (Nat.lt_trans hgQ xs.lt)
    replace x2 := x2.all hb
    replace xs := xs.all hb
    replace HB := HB.trans (hb.mono HB.size)
    clear hb
    have ex20 := x2.cell 0
    have ex21 := x2.cell 1
    have ex22 := x2.cell 2
    have ex23 := x2.cell 3
    have ex24 := x2.cell 4
    have zx20 := x2.frozen 0
    have zx21 := x2.frozen 1
    have zx22 := x2.frozen 2
    have zx23 := x2.frozen 3
    have zx24 := x2.frozen 4
    have exs0 := xs.cell 0
    have exs1 := xs.cell 1
    have exs2 := xs.cell 2
    have exs3 := xs.cell 3
    have exs4 := xs.cell 4
    have zxs0 := xs.frozen 0
    have zxs1 := xs.frozen 1
    have zxs2 := xs.frozen 2
    have zxs3 := xs.frozen 3
    have zxs4 := xs.frozen 4
    go_wp2
    have R5 := put5q (a := .int .i64 0) (b := .string ⟨#[]⟩) (c := .int .i64 0) (d := .int .i64 0) (e := .int .i64 0) x2
    have q0 := R5.cell 0
    have q1 := R5.cell 1
    have q2 := R5.cell 2
    have q3 := R5.cell 3
    have q4 := R5.cell 4
    refine bodyPost_ret (v := .tuple #[.agg #[.int .i64 0, .string ⟨#[]⟩, .int .i64 0, .int .i64 0, .int .i64 0], .bool false]) (by simp [results, Tryd.results4, go_sem, q0, q1, q2, q3, q4]) rfl ⟨rfl, below5q HB (Nat.le_refl _)⟩
  have hO : Hid (∀ w : World, Calls Tryd.prog 9 #[.agg #[.int .i64 m0, .string t1, .int .i64 m3, .int .i64 m5, .int .i64 m7]] w (Tells w true)) := Lib.hid fun w => (by have := hone w; rw [hv] at this; exact this)
  by_cases ht : shadeT ⟨m0, t1, m3, m5, m7⟩ = s
  rotate_left
  · have hne := strNeQ ht
    have HZ := Lib.hid (HN (fun h => ht (by rw [hS] at h; exact ByteArray.ext (Array.toList_inj.1 (by rw [shadeT_toList]; exact h.2.2)))))
    obtain ⟨rfl, rfl⟩ : x = ⟨0, ⟨#[]⟩, 0, 0, 0⟩ ∧ b = false := Prod.mk.inj (HR.out.symm.trans HZ.out)
    obtain ⟨t, htt⟩ : ∃ t, shadeT ⟨m0, t1, m3, m5, m7⟩ = t := ⟨_, rfl⟩
    rw [htt] at hne
    have hT : Hid (∀ w : World, Calls Tryd.prog 10 #[.agg #[.int .i64 m0, .string t1, .int .i64 m3, .int .i64 m5, .int .i64 m7]] w (Out w (.string t))) := Lib.hid fun w => (by have := l3Text_any ⟨m0, t1, m3, m5, m7⟩ w hv; rw [htt] at this; exact this)
    clear hone hv ht htt HN HY hS
    have ex20 := x2.cell 0
    have ex21 := x2.cell 1
    have ex22 := x2.cell 2
    have ex23 := x2.cell 3
    have ex24 := x2.cell 4
    go_wp2_with fail
    clear ex20 ex21 ex22 ex23 ex24
    have hq := x2.lt
    have hal := (Below.refl w1.heap.size w1).alloc (Nat.le_refl _) (.cells #[.int .i64 0, .string t1, .int .i64 0, .int .i64 0, .int .i64 0] 23)
    replace c0 := cells_of hal c0 hgz
    replace c1 := cells_of hal c1 hgz
    replace c3 := cells_of hal c3 hgz
    replace c5 := cells_of hal c5 hgz
    replace c7 := cells_of hal c7 hgz
    have xs := Blk.new w1 #[.int .i64 0, .string t1, .int .i64 0, .int .i64 0, .int .i64 0] 23
    replace x2 := x2.alloc (.cells #[.int .i64 0, .string t1, .int .i64 0, .int .i64 0, .int .i64 0] 23)
    replace HB := HB.alloc HB.size (.cells #[.int .i64 0, .string t1, .int .i64 0, .int .i64 0, .int .i64 0] 23)
    obtain ⟨Q, hQ⟩ : ∃ q, w1.heap.size = q := ⟨_, rfl⟩
    have hgQ : g < Q := by omega
    rw [hQ] at xs hq
    (try rw [hQ])
    obtain ⟨W, hW⟩ : ∃ v, w1.alloc (.cells #[.int .i64 0, .string t1, .int .i64 0, .int .i64 0, .int .i64 0] 23) = v := ⟨_, rfl⟩
    rw [hW] at xs x2 HB c0 c1 c3 c5 c7 ⊢
    clear hQ hW hal hgz
    refine (HP0.out _).mono ?_
    rintro e w2 ⟨rfl, hb⟩
    replace c0 := cells_of hb c0 (Nat.lt_trans hgQ xs.lt)
    replace c1 := cells_of hb c1 (Nat.lt_trans hgQ xs.lt)
    replace c3 := cells_of hb c3 (Nat.lt_trans hgQ xs.lt)
    replace c5 := cells_of hb c5 (Nat.lt_trans hgQ xs.lt)
    replace c7 := cells_of hb c7 (Nat.lt_trans hgQ xs.lt)
    replace x2 := x2.all hb
    replace xs := xs.all hb
    replace HB := HB.trans (hb.mono HB.size)
    clear hb
    have ex20 := x2.cell 0
    have ex21 := x2.cell 1
    have ex22 := x2.cell 2
    have ex23 := x2.cell 3
    have ex24 := x2.cell 4
    have exs0 := xs.cell 0
    have exs1 := xs.cell 1
    have exs2 := xs.cell 2
    have exs3 := xs.cell 3
    have exs4 := xs.cell 4
    have zxs0 := xs.frozen 0
    have zxs1 := xs.frozen 1
    have zxs2 := xs.frozen 2
    have zxs3 := xs.frozen 3
    have zxs4 := xs.frozen 4
    go_wp2
    clear ex20 ex21 ex22 ex23 ex24 exs0 exs1 exs2 exs3 exs4 zxs0 zxs1 zxs2 zxs3 zxs4
    have hQs := xs.lt
    replace x2 := x2.far (a := ⟨Q, 0, none⟩) (by show _ ≠ Q; omega) (.int .i64 m0)
    replace xs := xs.set_ 0 (.int .i64 m0)
    replace HB := HB.setCell (p := ⟨Q, 0, none⟩) (by show _ ≤ Q; omega) (.int .i64 m0)
    clear hQs
    replace c0 := st_cellQ (o := 0) (v := (.int .i64 m0)) c0 (Nat.ne_of_lt hgQ)
    replace c1 := st_cellQ (o := 0) (v := (.int .i64 m0)) c1 (Nat.ne_of_lt hgQ)
    replace c3 := st_cellQ (o := 0) (v := (.int .i64 m0)) c3 (Nat.ne_of_lt hgQ)
    replace c5 := st_cellQ (o := 0) (v := (.int .i64 m0)) c5 (Nat.ne_of_lt hgQ)
    replace c7 := st_cellQ (o := 0) (v := (.int .i64 m0)) c7 (Nat.ne_of_lt hgQ)
    obtain ⟨V3, hV⟩ : ∃ v, w2.setCell ⟨Q, 0, none⟩ (.int .i64 m0) = v := ⟨_, rfl⟩
    rw [hV] at xs x2 HB c0 c1 c3 c5 c7 ⊢
    clear hV
    go_region_held3 (fun w' => w'.cell? ⟨g, 3, none⟩ = some (.string t3)) (first | exact c3 | exact st_cellQ c3 (Nat.ne_of_lt hgQ) | go_keep) (first | (go_at_call 8; (with_reducible refine (HP3.out _).mono ?_); rintro e w3 ⟨rfl, hb⟩; (try replace hb := below_drew' hb); replace c0 := cells_of hb c0 (Nat.lt_trans hgQ xs.lt); replace c1 := cells_of hb c1 (Nat.lt_trans hgQ xs.lt); replace c3 := cells_of hb c3 (Nat.lt_trans hgQ xs.lt); replace c5 := cells_of hb c5 (Nat.lt_trans hgQ xs.lt); replace c7 := cells_of hb c7 (Nat.lt_trans hgQ xs.lt); replace x2 := x2.all hb; replace xs := xs.all hb; replace HB := HB.trans (hb.mono HB.size); clear hb; have hxc := xs.cell 2; have hxz := xs.frozen 2))
    clear hxc hxz
    have ex20 := x2.cell 0
    have ex21 := x2.cell 1
    have ex22 := x2.cell 2
    have ex23 := x2.cell 3
    have ex24 := x2.cell 4
    have exs0 := xs.cell 0
    have exs1 := xs.cell 1
    have exs2 := xs.cell 2
    have exs3 := xs.cell 3
    have exs4 := xs.cell 4
    have zxs0 := xs.frozen 0
    have zxs1 := xs.frozen 1
    have zxs2 := xs.frozen 2
    have zxs3 := xs.frozen 3
    have zxs4 := xs.frozen 4
    go_wp2
    clear ex20 ex21 ex22 ex23 ex24 exs0 exs1 exs2 exs3 exs4 zxs0 zxs1 zxs2 zxs3 zxs4
    have hQs := xs.lt
    replace x2 := x2.far (a := ⟨Q, 2, none⟩) (by show _ ≠ Q; omega) (.int .i64 m3)
    replace xs := xs.set_ 2 (.int .i64 m3)
    replace HB := HB.setCell (p := ⟨Q, 2, none⟩) (by show _ ≤ Q; omega) (.int .i64 m3)
    clear hQs
    replace c0 := st_cellQ (o := 2) (v := (.int .i64 m3)) c0 (Nat.ne_of_lt hgQ)
    replace c1 := st_cellQ (o := 2) (v := (.int .i64 m3)) c1 (Nat.ne_of_lt hgQ)
    replace c3 := st_cellQ (o := 2) (v := (.int .i64 m3)) c3 (Nat.ne_of_lt hgQ)
    replace c5 := st_cellQ (o := 2) (v := (.int .i64 m3)) c5 (Nat.ne_of_lt hgQ)
    replace c7 := st_cellQ (o := 2) (v := (.int .i64 m3)) c7 (Nat.ne_of_lt hgQ)
    obtain ⟨V5, hV⟩ : ∃ v, w3.setCell ⟨Q, 2, none⟩ (.int .i64 m3) = v := ⟨_, rfl⟩
    rw [hV] at xs x2 HB c0 c1 c3 c5 c7 ⊢
    clear hV
    go_region_held3 (fun w' => w'.cell? ⟨g, 5, none⟩ = some (.string t5)) (first | exact c5 | exact st_cellQ c5 (Nat.ne_of_lt hgQ) | go_keep) (first | (go_at_call 8; (with_reducible refine (HP5.out _).mono ?_); rintro e w4 ⟨rfl, hb⟩; (try replace hb := below_drew' hb); replace c0 := cells_of hb c0 (Nat.lt_trans hgQ xs.lt); replace c1 := cells_of hb c1 (Nat.lt_trans hgQ xs.lt); replace c3 := cells_of hb c3 (Nat.lt_trans hgQ xs.lt); replace c5 := cells_of hb c5 (Nat.lt_trans hgQ xs.lt); replace c7 := cells_of hb c7 (Nat.lt_trans hgQ xs.lt); replace x2 := x2.all hb; replace xs := xs.all hb; replace HB := HB.trans (hb.mono HB.size); clear hb; have hxc := xs.cell 3; have hxz := xs.frozen 3))
    clear hxc hxz
    have ex20 := x2.cell 0
    have ex21 := x2.cell 1
    have ex22 := x2.cell 2
    have ex23 := x2.cell 3
    have ex24 := x2.cell 4
    have exs0 := xs.cell 0
    have exs1 := xs.cell 1
    have exs2 := xs.cell 2
    have exs3 := xs.cell 3
    have exs4 := xs.cell 4
    have zxs0 := xs.frozen 0
    have zxs1 := xs.frozen 1
    have zxs2 := xs.frozen 2
    have zxs3 := xs.frozen 3
    have zxs4 := xs.frozen 4
    go_wp2_with fail
    clear ex20 ex21 ex22 ex23 ex24 exs0 exs1 exs2 exs3 exs4 zxs0 zxs1 zxs2 zxs3 zxs4
    have hQs := xs.lt
    replace x2 := x2.far (a := ⟨Q, 3, none⟩) (by show _ ≠ Q; omega) (.int .i64 m5)
    replace xs := xs.set_ 3 (.int .i64 m5)
    replace HB := HB.setCell (p := ⟨Q, 3, none⟩) (by show _ ≤ Q; omega) (.int .i64 m5)
    clear hQs
    replace c0 := st_cellQ (o := 3) (v := (.int .i64 m5)) c0 (Nat.ne_of_lt hgQ)
    replace c1 := st_cellQ (o := 3) (v := (.int .i64 m5)) c1 (Nat.ne_of_lt hgQ)
    replace c3 := st_cellQ (o := 3) (v := (.int .i64 m5)) c3 (Nat.ne_of_lt hgQ)
    replace c5 := st_cellQ (o := 3) (v := (.int .i64 m5)) c5 (Nat.ne_of_lt hgQ)
    replace c7 := st_cellQ (o := 3) (v := (.int .i64 m5)) c7 (Nat.ne_of_lt hgQ)
    refine (HP7.out _).mono ?_
    rintro e w5 ⟨rfl, hb⟩
    replace c0 := cells_of hb c0 (Nat.lt_trans hgQ xs.lt)
    replace c1 := cells_of hb c1 (Nat.lt_trans hgQ xs.lt)
    replace c3 := cells_of hb c3 (Nat.lt_trans hgQ xs.lt)
    replace c5 := cells_of hb c5 (Nat.lt_trans hgQ xs.lt)
    replace c7 := cells_of hb c7 (Nat.lt_trans hgQ xs.lt)
    replace x2 := x2.all hb
    replace xs := xs.all hb
    replace HB := HB.trans (hb.mono HB.size)
    clear hb
    have ex20 := x2.cell 0
    have ex21 := x2.cell 1
    have ex22 := x2.cell 2
    have ex23 := x2.cell 3
    have ex24 := x2.cell 4
    have exs0 := xs.cell 0
    have exs1 := xs.cell 1
    have exs2 := xs.cell 2
    have exs3 := xs.cell 3
    have exs4 := xs.cell 4
    have zxs0 := xs.frozen 0
    have zxs1 := xs.frozen 1
    have zxs2 := xs.frozen 2
    have zxs3 := xs.frozen 3
    have zxs4 := xs.frozen 4
    go_wp2_with fail
    clear ex20 ex21 ex22 ex23 ex24 exs0 exs1 exs2 exs3 exs4 zxs0 zxs1 zxs2 zxs3 zxs4
    have hQs := xs.lt
    replace x2 := x2.far (a := ⟨Q, 4, none⟩) (by show _ ≠ Q; omega) (.int .i64 m7)
    replace xs := xs.set_ 4 (.int .i64 m7)
    replace HB := HB.setCell (p := ⟨Q, 4, none⟩) (by show _ ≤ Q; omega) (.int .i64 m7)
    clear hQs
    replace c0 := st_cellQ (o := 4) (v := (.int .i64 m7)) c0 (Nat.ne_of_lt hgQ)
    replace c1 := st_cellQ (o := 4) (v := (.int .i64 m7)) c1 (Nat.ne_of_lt hgQ)
    replace c3 := st_cellQ (o := 4) (v := (.int .i64 m7)) c3 (Nat.ne_of_lt hgQ)
    replace c5 := st_cellQ (o := 4) (v := (.int .i64 m7)) c5 (Nat.ne_of_lt hgQ)
    replace c7 := st_cellQ (o := 4) (v := (.int .i64 m7)) c7 (Nat.ne_of_lt hgQ)
    refine (hO.out _).mono ?_
    rintro e w6 ⟨rfl, hb⟩
    replace c0 := cells_of hb c0 (Nat.lt_trans hgQ xs.lt)
    replace c1 := cells_of hb c1 (Nat.lt_trans hgQ xs.lt)
    replace c3 := cells_of hb c3 (Nat.lt_trans hgQ xs.lt)
    replace c5 := cells_of hb c5 (Nat.lt_trans hgQ xs.lt)
    replace c7 := cells_of hb c7 (Nat.lt_trans hgQ xs.lt)
    replace x2 := x2.all hb
    replace xs := xs.all hb
    replace HB := HB.trans (hb.mono HB.size)
    clear hb
    have ex20 := x2.cell 0
    have ex21 := x2.cell 1
    have ex22 := x2.cell 2
    have ex23 := x2.cell 3
    have ex24 := x2.cell 4
    have exs0 := xs.cell 0
    have exs1 := xs.cell 1
    have exs2 := xs.cell 2
    have exs3 := xs.cell 3
    have exs4 := xs.cell 4
    go_wp2_with fail
    clear ex20 ex21 ex22 ex23 ex24 exs0 exs1 exs2 exs3 exs4
    refine (hT.out _).mono ?_
    rintro e w7 ⟨rfl, hb⟩
    replace c0 := cells_of hb c0 (Nat.lt_trans hgQ xs.lt)
    replace c1 := cells_of hb c1 (Nat.lt_trans hgQ xs.lt)
    replace c3 := cells_of hb c3 (Nat.lt_trans hgQ xs.lt)
    replace c5 := cells_of hb c5 (Nat.lt_trans hgQ xs.lt)
    replace c7 := cells_of hb c7 (Nat.lt_trans hgQ xs.lt)
    replace x2 := x2.all hb
    replace xs := xs.all hb
    replace HB := HB.trans (hb.mono HB.size)
    clear hb
    have ex20 := x2.cell 0
    have ex21 := x2.cell 1
    have ex22 := x2.cell 2
    have ex23 := x2.cell 3
    have ex24 := x2.cell 4
    have zx20 := x2.frozen 0
    have zx21 := x2.frozen 1
    have zx22 := x2.frozen 2
    have zx23 := x2.frozen 3
    have zx24 := x2.frozen 4
    have exs0 := xs.cell 0
    have exs1 := xs.cell 1
    have exs2 := xs.cell 2
    have exs3 := xs.cell 3
    have exs4 := xs.cell 4
    have zxs0 := xs.frozen 0
    have zxs1 := xs.frozen 1
    have zxs2 := xs.frozen 2
    have zxs3 := xs.frozen 3
    have zxs4 := xs.frozen 4
    go_wp2
    have R5 := put5q (a := .int .i64 0) (b := .string ⟨#[]⟩) (c := .int .i64 0) (d := .int .i64 0) (e := .int .i64 0) x2
    have q0 := R5.cell 0
    have q1 := R5.cell 1
    have q2 := R5.cell 2
    have q3 := R5.cell 3
    have q4 := R5.cell 4
    refine bodyPost_ret (v := .tuple #[.agg #[.int .i64 0, .string ⟨#[]⟩, .int .i64 0, .int .i64 0, .int .i64 0], .bool false]) (by simp [results, Tryd.results4, go_sem, q0, q1, q2, q3, q4]) rfl ⟨rfl, below5q HB (Nat.le_refl _)⟩
  have HZ := Lib.hid (HY (by rw [hS]; exact hv) (by rw [hS, ← shadeT_toList, ht]))
  rw [hS] at HZ
  obtain ⟨rfl, rfl⟩ : x = ⟨m0, t1, m3, m5, m7⟩ ∧ b = true := Prod.mk.inj (HR.out.symm.trans HZ.out)
  have hT : Hid (∀ w : World, Calls Tryd.prog 10 #[.agg #[.int .i64 m0, .string t1, .int .i64 m3, .int .i64 m5, .int .i64 m7]] w (Out w (.string s))) := Lib.hid fun w => (by have := l3Text_any ⟨m0, t1, m3, m5, m7⟩ w hv; rw [ht] at this; exact this)
  have heq := strEqQ (show s = s from rfl)
  clear hone hv ht HN HY hS
  have ex20 := x2.cell 0
  have ex21 := x2.cell 1
  have ex22 := x2.cell 2
  have ex23 := x2.cell 3
  have ex24 := x2.cell 4
  go_wp2_with fail
  clear ex20 ex21 ex22 ex23 ex24
  have hq := x2.lt
  have hal := (Below.refl w1.heap.size w1).alloc (Nat.le_refl _) (.cells #[.int .i64 0, .string t1, .int .i64 0, .int .i64 0, .int .i64 0] 23)
  replace c0 := cells_of hal c0 hgz
  replace c1 := cells_of hal c1 hgz
  replace c3 := cells_of hal c3 hgz
  replace c5 := cells_of hal c5 hgz
  replace c7 := cells_of hal c7 hgz
  have xs := Blk.new w1 #[.int .i64 0, .string t1, .int .i64 0, .int .i64 0, .int .i64 0] 23
  replace x2 := x2.alloc (.cells #[.int .i64 0, .string t1, .int .i64 0, .int .i64 0, .int .i64 0] 23)
  replace HB := HB.alloc HB.size (.cells #[.int .i64 0, .string t1, .int .i64 0, .int .i64 0, .int .i64 0] 23)
  obtain ⟨Q, hQ⟩ : ∃ q, w1.heap.size = q := ⟨_, rfl⟩
  have hgQ : g < Q := by omega
  rw [hQ] at xs hq
  (try rw [hQ])
  obtain ⟨W, hW⟩ : ∃ v, w1.alloc (.cells #[.int .i64 0, .string t1, .int .i64 0, .int .i64 0, .int .i64 0] 23) = v := ⟨_, rfl⟩
  rw [hW] at xs x2 HB c0 c1 c3 c5 c7 ⊢
  clear hQ hW hal hgz
  refine (HP0.out _).mono ?_
  rintro e w2 ⟨rfl, hb⟩
  replace c0 := cells_of hb c0 (Nat.lt_trans hgQ xs.lt)
  replace c1 := cells_of hb c1 (Nat.lt_trans hgQ xs.lt)
  replace c3 := cells_of hb c3 (Nat.lt_trans hgQ xs.lt)
  replace c5 := cells_of hb c5 (Nat.lt_trans hgQ xs.lt)
  replace c7 := cells_of hb c7 (Nat.lt_trans hgQ xs.lt)
  replace x2 := x2.all hb
  replace xs := xs.all hb
  replace HB := HB.trans (hb.mono HB.size)
  clear hb
  have ex20 := x2.cell 0
  have ex21 := x2.cell 1
  have ex22 := x2.cell 2
  have ex23 := x2.cell 3
  have ex24 := x2.cell 4
  have exs0 := xs.cell 0
  have exs1 := xs.cell 1
  have exs2 := xs.cell 2
  have exs3 := xs.cell 3
  have exs4 := xs.cell 4
  have zxs0 := xs.frozen 0
  have zxs1 := xs.frozen 1
  have zxs2 := xs.frozen 2
  have zxs3 := xs.frozen 3
  have zxs4 := xs.frozen 4
  go_wp2
  clear ex20 ex21 ex22 ex23 ex24 exs0 exs1 exs2 exs3 exs4 zxs0 zxs1 zxs2 zxs3 zxs4
  have hQs := xs.lt
  replace x2 := x2.far (a := ⟨Q, 0, none⟩) (by show _ ≠ Q; omega) (.int .i64 m0)
  replace xs := xs.set_ 0 (.int .i64 m0)
  replace HB := HB.setCell (p := ⟨Q, 0, none⟩) (by show _ ≤ Q; omega) (.int .i64 m0)
  clear hQs
  replace c0 := st_cellQ (o := 0) (v := (.int .i64 m0)) c0 (Nat.ne_of_lt hgQ)
  replace c1 := st_cellQ (o := 0) (v := (.int .i64 m0)) c1 (Nat.ne_of_lt hgQ)
  replace c3 := st_cellQ (o := 0) (v := (.int .i64 m0)) c3 (Nat.ne_of_lt hgQ)
  replace c5 := st_cellQ (o := 0) (v := (.int .i64 m0)) c5 (Nat.ne_of_lt hgQ)
  replace c7 := st_cellQ (o := 0) (v := (.int .i64 m0)) c7 (Nat.ne_of_lt hgQ)
  obtain ⟨V3, hV⟩ : ∃ v, w2.setCell ⟨Q, 0, none⟩ (.int .i64 m0) = v := ⟨_, rfl⟩
  rw [hV] at xs x2 HB c0 c1 c3 c5 c7 ⊢
  clear hV
  go_region_held3 (fun w' => w'.cell? ⟨g, 3, none⟩ = some (.string t3)) (first | exact c3 | exact st_cellQ c3 (Nat.ne_of_lt hgQ) | go_keep) (first | (go_at_call 8; (with_reducible refine (HP3.out _).mono ?_); rintro e w3 ⟨rfl, hb⟩; (try replace hb := below_drew' hb); replace c0 := cells_of hb c0 (Nat.lt_trans hgQ xs.lt); replace c1 := cells_of hb c1 (Nat.lt_trans hgQ xs.lt); replace c3 := cells_of hb c3 (Nat.lt_trans hgQ xs.lt); replace c5 := cells_of hb c5 (Nat.lt_trans hgQ xs.lt); replace c7 := cells_of hb c7 (Nat.lt_trans hgQ xs.lt); replace x2 := x2.all hb; replace xs := xs.all hb; replace HB := HB.trans (hb.mono HB.size); clear hb; have hxc := xs.cell 2; have hxz := xs.frozen 2))
  clear hxc hxz
  have ex20 := x2.cell 0
  have ex21 := x2.cell 1
  have ex22 := x2.cell 2
  have ex23 := x2.cell 3
  have ex24 := x2.cell 4
  have exs0 := xs.cell 0
  have exs1 := xs.cell 1
  have exs2 := xs.cell 2
  have exs3 := xs.cell 3
  have exs4 := xs.cell 4
  have zxs0 := xs.frozen 0
  have zxs1 := xs.frozen 1
  have zxs2 := xs.frozen 2
  have zxs3 := xs.frozen 3
  have zxs4 := xs.frozen 4
  go_wp2
  clear ex20 ex21 ex22 ex23 ex24 exs0 exs1 exs2 exs3 exs4 zxs0 zxs1 zxs2 zxs3 zxs4
  have hQs := xs.lt
  replace x2 := x2.far (a := ⟨Q, 2, none⟩) (by show _ ≠ Q; omega) (.int .i64 m3)
  replace xs := xs.set_ 2 (.int .i64 m3)
  replace HB := HB.setCell (p := ⟨Q, 2, none⟩) (by show _ ≤ Q; omega) (.int .i64 m3)
  clear hQs
  replace c0 := st_cellQ (o := 2) (v := (.int .i64 m3)) c0 (Nat.ne_of_lt hgQ)
  replace c1 := st_cellQ (o := 2) (v := (.int .i64 m3)) c1 (Nat.ne_of_lt hgQ)
  replace c3 := st_cellQ (o := 2) (v := (.int .i64 m3)) c3 (Nat.ne_of_lt hgQ)
  replace c5 := st_cellQ (o := 2) (v := (.int .i64 m3)) c5 (Nat.ne_of_lt hgQ)
  replace c7 := st_cellQ (o := 2) (v := (.int .i64 m3)) c7 (Nat.ne_of_lt hgQ)
  obtain ⟨V5, hV⟩ : ∃ v, w3.setCell ⟨Q, 2, none⟩ (.int .i64 m3) = v := ⟨_, rfl⟩
  rw [hV] at xs x2 HB c0 c1 c3 c5 c7 ⊢
  clear hV
  go_region_held3 (fun w' => w'.cell? ⟨g, 5, none⟩ = some (.string t5)) (first | exact c5 | exact st_cellQ c5 (Nat.ne_of_lt hgQ) | go_keep) (first | (go_at_call 8; (with_reducible refine (HP5.out _).mono ?_); rintro e w4 ⟨rfl, hb⟩; (try replace hb := below_drew' hb); replace c0 := cells_of hb c0 (Nat.lt_trans hgQ xs.lt); replace c1 := cells_of hb c1 (Nat.lt_trans hgQ xs.lt); replace c3 := cells_of hb c3 (Nat.lt_trans hgQ xs.lt); replace c5 := cells_of hb c5 (Nat.lt_trans hgQ xs.lt); replace c7 := cells_of hb c7 (Nat.lt_trans hgQ xs.lt); replace x2 := x2.all hb; replace xs := xs.all hb; replace HB := HB.trans (hb.mono HB.size); clear hb; have hxc := xs.cell 3; have hxz := xs.frozen 3))
  clear hxc hxz
  have ex20 := x2.cell 0
  have ex21 := x2.cell 1
  have ex22 := x2.cell 2
  have ex23 := x2.cell 3
  have ex24 := x2.cell 4
  have exs0 := xs.cell 0
  have exs1 := xs.cell 1
  have exs2 := xs.cell 2
  have exs3 := xs.cell 3
  have exs4 := xs.cell 4
  have zxs0 := xs.frozen 0
  have zxs1 := xs.frozen 1
  have zxs2 := xs.frozen 2
  have zxs3 := xs.frozen 3
  have zxs4 := xs.frozen 4
  go_wp2_with fail
  clear ex20 ex21 ex22 ex23 ex24 exs0 exs1 exs2 exs3 exs4 zxs0 zxs1 zxs2 zxs3 zxs4
  have hQs := xs.lt
  replace x2 := x2.far (a := ⟨Q, 3, none⟩) (by show _ ≠ Q; omega) (.int .i64 m5)
  replace xs := xs.set_ 3 (.int .i64 m5)
  replace HB := HB.setCell (p := ⟨Q, 3, none⟩) (by show _ ≤ Q; omega) (.int .i64 m5)
  clear hQs
  replace c0 := st_cellQ (o := 3) (v := (.int .i64 m5)) c0 (Nat.ne_of_lt hgQ)
  replace c1 := st_cellQ (o := 3) (v := (.int .i64 m5)) c1 (Nat.ne_of_lt hgQ)
  replace c3 := st_cellQ (o := 3) (v := (.int .i64 m5)) c3 (Nat.ne_of_lt hgQ)
  replace c5 := st_cellQ (o := 3) (v := (.int .i64 m5)) c5 (Nat.ne_of_lt hgQ)
  replace c7 := st_cellQ (o := 3) (v := (.int .i64 m5)) c7 (Nat.ne_of_lt hgQ)
  refine (HP7.out _).mono ?_
  rintro e w5 ⟨rfl, hb⟩
  replace c0 := cells_of hb c0 (Nat.lt_trans hgQ xs.lt)
  replace c1 := cells_of hb c1 (Nat.lt_trans hgQ xs.lt)
  replace c3 := cells_of hb c3 (Nat.lt_trans hgQ xs.lt)
  replace c5 := cells_of hb c5 (Nat.lt_trans hgQ xs.lt)
  replace c7 := cells_of hb c7 (Nat.lt_trans hgQ xs.lt)
  replace x2 := x2.all hb
  replace xs := xs.all hb
  replace HB := HB.trans (hb.mono HB.size)
  clear hb
  have ex20 := x2.cell 0
  have ex21 := x2.cell 1
  have ex22 := x2.cell 2
  have ex23 := x2.cell 3
  have ex24 := x2.cell 4
  have exs0 := xs.cell 0
  have exs1 := xs.cell 1
  have exs2 := xs.cell 2
  have exs3 := xs.cell 3
  have exs4 := xs.cell 4
  have zxs0 := xs.frozen 0
  have zxs1 := xs.frozen 1
  have zxs2 := xs.frozen 2
  have zxs3 := xs.frozen 3
  have zxs4 := xs.frozen 4
  go_wp2_with fail
  clear ex20 ex21 ex22 ex23 ex24 exs0 exs1 exs2 exs3 exs4 zxs0 zxs1 zxs2 zxs3 zxs4
  have hQs := xs.lt
  replace x2 := x2.far (a := ⟨Q, 4, none⟩) (by show _ ≠ Q; omega) (.int .i64 m7)
  replace xs := xs.set_ 4 (.int .i64 m7)
  replace HB := HB.setCell (p := ⟨Q, 4, none⟩) (by show _ ≤ Q; omega) (.int .i64 m7)
  clear hQs
  replace c0 := st_cellQ (o := 4) (v := (.int .i64 m7)) c0 (Nat.ne_of_lt hgQ)
  replace c1 := st_cellQ (o := 4) (v := (.int .i64 m7)) c1 (Nat.ne_of_lt hgQ)
  replace c3 := st_cellQ (o := 4) (v := (.int .i64 m7)) c3 (Nat.ne_of_lt hgQ)
  replace c5 := st_cellQ (o := 4) (v := (.int .i64 m7)) c5 (Nat.ne_of_lt hgQ)
  replace c7 := st_cellQ (o := 4) (v := (.int .i64 m7)) c7 (Nat.ne_of_lt hgQ)
  refine (hO.out _).mono ?_
  rintro e w6 ⟨rfl, hb⟩
  replace c0 := cells_of hb c0 (Nat.lt_trans hgQ xs.lt)
  replace c1 := cells_of hb c1 (Nat.lt_trans hgQ xs.lt)
  replace c3 := cells_of hb c3 (Nat.lt_trans hgQ xs.lt)
  replace c5 := cells_of hb c5 (Nat.lt_trans hgQ xs.lt)
  replace c7 := cells_of hb c7 (Nat.lt_trans hgQ xs.lt)
  replace x2 := x2.all hb
  replace xs := xs.all hb
  replace HB := HB.trans (hb.mono HB.size)
  clear hb
  have ex20 := x2.cell 0
  have ex21 := x2.cell 1
  have ex22 := x2.cell 2
  have ex23 := x2.cell 3
  have ex24 := x2.cell 4
  have exs0 := xs.cell 0
  have exs1 := xs.cell 1
  have exs2 := xs.cell 2
  have exs3 := xs.cell 3
  have exs4 := xs.cell 4
  go_wp2_with fail
  clear ex20 ex21 ex22 ex23 ex24 exs0 exs1 exs2 exs3 exs4
  refine (hT.out _).mono ?_
  rintro e w7 ⟨rfl, hb⟩
  replace c0 := cells_of hb c0 (Nat.lt_trans hgQ xs.lt)
  replace c1 := cells_of hb c1 (Nat.lt_trans hgQ xs.lt)
  replace c3 := cells_of hb c3 (Nat.lt_trans hgQ xs.lt)
  replace c5 := cells_of hb c5 (Nat.lt_trans hgQ xs.lt)
  replace c7 := cells_of hb c7 (Nat.lt_trans hgQ xs.lt)
  replace x2 := x2.all hb
  replace xs := xs.all hb
  replace HB := HB.trans (hb.mono HB.size)
  clear hb
  have ex20 := x2.cell 0
  have ex21 := x2.cell 1
  have ex22 := x2.cell 2
  have ex23 := x2.cell 3
  have ex24 := x2.cell 4
  have zx20 := x2.frozen 0
  have zx21 := x2.frozen 1
  have zx22 := x2.frozen 2
  have zx23 := x2.frozen 3
  have zx24 := x2.frozen 4
  have exs0 := xs.cell 0
  have exs1 := xs.cell 1
  have exs2 := xs.cell 2
  have exs3 := xs.cell 3
  have exs4 := xs.cell 4
  have zxs0 := xs.frozen 0
  have zxs1 := xs.frozen 1
  have zxs2 := xs.frozen 2
  have zxs3 := xs.frozen 3
  have zxs4 := xs.frozen 4
  go_wp2
  have R5 := put5q (a := .int .i64 m0) (b := .string t1) (c := .int .i64 m3) (d := .int .i64 m5) (e := .int .i64 m7) x2
  have q0 := R5.cell 0
  have q1 := R5.cell 1
  have q2 := R5.cell 2
  have q3 := R5.cell 3
  have q4 := R5.cell 4
  refine bodyPost_ret (v := .tuple #[.agg #[.int .i64 m0, .string t1, .int .i64 m3, .int .i64 m5, .int .i64 m7], .bool true]) (by simp [results, Tryd.results4, go_sem, q0, q1, q2, q3, q4]) rfl ⟨rfl, below5q HB (Nat.le_refl _)⟩
end Go.Proofs.YtcingmfeepcpjaaDoor
