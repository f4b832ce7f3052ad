/- The weavers with a sheet, and PayRoll: the walks of the program. Conditions: as they stand. -/
import Derived.Test.YtihhlldpdfihfaaWages
import Derived.Test.YtihhlldpdfihfaaSortInt
import Derived.OwnWalk
namespace Go.Proofs.Ytihhlldpdfihfaa
open Go.RowKit

/-- What a call leaves that answers two slices of its own, apart from one another, and a yes or no. -/
def OutInts2 (w : World) (ys zs : List Int) (b : Bool) (e : Ending) (w' : World) : Prop :=
  ∃ A c A2 c2, e = .returned (.tuple #[.slice A ys.length c, .slice A2 zs.length c2, .bool b]) ∧ Own w' w.heap.size (.slice A ys.length c) ys ∧ Own w' w.heap.size (.slice A2 zs.length c2) zs ∧
    (∀ j, (Value.slice A ys.length c).ownBlock = some j → (Value.slice A2 zs.length c2).ownBlock ≠ some j) ∧ Below w.heap.size w w'
theorem rd_get {w : World} {B n c : Nat} {A : Option Addr} {xs : List Int} (h : Rd w B A n c xs) {k : Nat} (hk : k < n) : ∃ b off x, A = some ⟨b, off, none⟩ ∧ w.cell? ⟨b, off + k, none⟩ = some (.int .i64 x) ∧ xs[k]? = some x := by
  obtain ⟨b, off, x, e, _, hx, _, _, HX⟩ := h.at hk
  have hl := h.len
  have hk' : k < xs.length := by omega
  refine ⟨b, off, x, e, hx, ?_⟩
  have := HX.out
  rw [List.getD_eq_getElem?_getD, List.getElem?_eq_getElem hk'] at this
  rw [List.getElem?_eq_getElem hk']
  exact congrArg some this
/-- The weavers of sheets, in the sheets' order, and each once in ascending order. -/
def idsW (xs : List WorkSheetR) : List Int := xs.map fun a => a.f0
theorem idsW_len (xs : List WorkSheetR) : (idsW xs).length = xs.length := List.length_map ..
theorem idsW_drop {xs : List WorkSheetR} {k : Nat} {a : WorkSheetR} (ha : xs[k]? = some a) : idsW (xs.drop k) = [a.f0] ++ idsW (xs.drop (k + 1)) := by
  obtain ⟨hlt, e⟩ := List.getElem?_eq_some_iff.1 ha
  rw [List.drop_eq_getElem_cons hlt, e]
  rfl
theorem idsW_take {xs : List WorkSheetR} {k : Nat} {a : WorkSheetR} (ha : xs[k]? = some a) (y : Int) : y ∈ idsW (xs.take (k + 1)) ↔ y = a.f0 ∨ y ∈ idsW (xs.take k) := by
  obtain ⟨hlt, e⟩ := List.getElem?_eq_some_iff.1 ha
  rw [List.take_succ_eq_append_getElem hlt, e]
  simp only [idsW, List.map_append, List.map_cons, List.map_nil, List.mem_append, List.mem_singleton]
  exact Or.comm
def weavers14 (xs : List WorkSheetR) : List Int := setI (idsW xs)
theorem weavers14_len (xs : List WorkSheetR) : (weavers14 xs).length ≤ xs.length := Nat.le_trans (setI_len _) (Nat.le_of_eq (idsW_len xs))
set_option maxRecDepth 100000 in
set_option maxHeartbeats 4000000 in
theorem weaversWithSheets_any (A : Option Addr) (n c B : Nat) (xs : List WorkSheetR) (w : World) (h : RdF workSheetF w B A n c xs) (hB : B ≤ w.heap.size) (hn : n ≤ 1000) :
    Calls Try.prog 25 #[.slice A n c] w fun e w' => ∃ A' c', e = .returned (.slice A' (weavers14 xs).length c') ∧ Own w' w.heap.size (.slice A' (weavers14 xs).length c') (weavers14 xs) ∧ Below w.heap.size w w' := by
  obtain rfl := h.len
  go_enter Try.func25, Try.ntmps25
  go_wp2
  go_loopw [8, 3] (fun i v wr => ∃ (k m : Nat) (ys : List Int) (A' : Option Addr) (c' : Nat), k ≤ xs.length ∧ i = .int .i64 k ∧ v = .slice A' m c' ∧ Hid (ys.length = m) ∧ m ≤ k ∧ Own wr w.heap.size (.slice A' m c') ys ∧ Hid (ys ++ idsW (xs.drop k) = idsW xs) ∧ Below w.heap.size w wr) (fun i _ _ => xs.length - (intOf i).toNat)
  case atStart => exact ⟨0, 0, [], none, 0, Nat.zero_le _, rfl, rfl, Lib.hid rfl, Nat.le_refl _, Own.nil _ _, Lib.hid (by simp), Below.refl _ _⟩
  case round =>
    obtain ⟨k, m, ys, A', c', hk, rfl, rfl, HL, hmk, own, HY, hb⟩ := hrel
    have hzz := hb.size
    by_cases hlt : k < xs.length
    · obtain ⟨b, off, a, rfl, hbB, ok, HX, hc0, hc1, hc2, hc3, hc4⟩ := WorkSheetR_at (F := workSheetF) rfl (fun _ => rfl) (fun _ => rfl) (h.all hb hB) hlt
      have HN := Lib.hid (show (ys ++ [a.f0]) ++ idsW (xs.drop (k + 1)) = idsW xs by rw [← HY.out, idsW_drop HX.out, List.append_assoc])
      have x7 := Blk.new wr #[.int .i64 a.f0, .int .i64 a.f1, .int .i64 a.f2, .int .i64 a.f3, .int .i64 a.f4] 36
      have own7 := own.alloc (.cells #[.int .i64 a.f0, .int .i64 a.f1, .int .i64 a.f2, .int .i64 a.f3, .int .i64 a.f4] 36)
      have HB := hb.alloc hzz (.cells #[.int .i64 a.f0, .int .i64 a.f1, .int .i64 a.f2, .int .i64 a.f3, .int .i64 a.f4] 36)
      have hz7 : w.heap.size ≤ (wr.alloc (.cells #[.int .i64 a.f0, .int .i64 a.f1, .int .i64 a.f2, .int .i64 a.f3, .int .i64 a.f4] 36)).heap.size := HB.size
      have hid : I64 a.f0 := ok.1
      clear hb own
      go_upto_region 5 with fail
      clear hc0 hc1 hc2 hc3 hc4
      generalize wr.alloc (.cells #[.int .i64 a.f0, .int .i64 a.f1, .int .i64 a.f2, .int .i64 a.f3, .int .i64 a.f4] 36) = W7 at *
      generalize wr.heap.size = P at *
      have e70 := x7.cell 0
      have e71 := x7.cell 1
      have e72 := x7.cell 2
      have e73 := x7.cell 3
      have e74 := x7.cell 4
      have hzP := x7.lt
      go_wp2_with (at_builtin; refine wpList_append_one W7 rfl (.tmp 12) (.tmp 15) 29 rfl Try.underlying29 info_int w.heap.size _ ys a.f0 rfl rfl own7 (by rw [HL.out]; omega) hid hz7 ?_)
      intro A2 c2 w8 own8 hg8
      have HB8 := HB.grown hg8 HB.size (fun j hj => (own7.bd j hj).1)
      clear hg8
      go_wp2
      go_roundw
      case rel => exact ⟨k + 1, ys.length + 1, ys ++ [a.f0], A2, c2, by omega, by go_num, rfl, Lib.hid (by simp), by have := HL.out; omega, own8, HN, HB8⟩
      case measure => simp [intOf]; omega
    · obtain rfl : k = xs.length := by omega
      have HE := Lib.hid (show ys = idsW xs by have := HY.out; rwa [List.drop_length, show idsW [] = [] from rfl, List.append_nil] at this)
      go_wp2_with fail
      refine (sortInts_any A' m c' w.heap.size ys _ own (by have := HL.out; omega) hzz).mono ?_
      rintro e w3 ⟨rfl, own3, hb3⟩
      have HB3 := hb.trans hb3
      clear own hb hb3
      go_wp2_with fail
      refine (compactInts_any A' m c' w.heap.size (sortI ys) _ own3 (by rw [sortI_len]; have := HL.out; omega)).mono ?_
      rintro e w4 ⟨rfl, own4, hb4⟩
      have HB4 := HB3.trans hb4
      have HEU := Lib.hid (show Lib.compact (sortI ys) = weavers14 xs by rw [HE.out]; rfl)
      rw [HEU.out] at own4 ⊢
      go_wp2
      go_ret
      exact ⟨A', c', rfl, own4, HB4⟩
theorem st_cell {w : World} {p o b o' : Nat} {v x : Value} (h : w.cell? ⟨b, o', none⟩ = some x) (hne : b ≠ p) : (w.setCell ⟨p, o, none⟩ v).cell? ⟨b, o', none⟩ = some x :=
  (grown_setCell w ⟨p, o, none⟩ v).cell (a := ⟨b, o', none⟩) h (fun e => hne (Option.some.inj e))
def sums14 (r : RatesR) (xs : List WorkSheetR) (vs : List Int) : List Int := vs.map fun v => wageSum r (ofW xs v)
theorem sums14_len (r : RatesR) (xs : List WorkSheetR) (vs : List Int) : (sums14 r xs vs).length = vs.length := List.length_map ..
theorem sums14_at {r : RatesR} {xs : List WorkSheetR} {vs : List Int} {k : Nat} {x : Int} (h : vs[k]? = some x) : (sums14 r xs vs)[k]? = some (wageSum r (ofW xs x)) := by
  unfold sums14
  rw [List.getElem?_map, h]
  rfl
theorem sums14_drop {r : RatesR} {xs : List WorkSheetR} {vs : List Int} {k : Nat} {x : Int} (h : vs[k]? = some x) : sums14 r xs (vs.drop k) = [wageSum r (ofW xs x)] ++ sums14 r xs (vs.drop (k + 1)) := by
  obtain ⟨hlt, e⟩ := List.getElem?_eq_some_iff.1 h
  rw [List.drop_eq_getElem_cons hlt, e]
  rfl
noncomputable def pay14 (r : RatesR) (xs : List WorkSheetR) : List Int × List Int × Bool := if ratesB r = true ∧ sheetsB xs = true then (weavers14 xs, sums14 r xs (weavers14 xs), true) else ([], [], false)
theorem pay14_no1 {r : RatesR} {xs : List WorkSheetR} (h : ¬ ratesB r = true) : pay14 r xs = ([], [], false) := if_neg fun hh => h hh.1
theorem pay14_no2 {r : RatesR} {xs : List WorkSheetR} (h : ¬ sheetsB xs = true) : pay14 r xs = ([], [], false) := if_neg fun hh => h hh.2
theorem pay14_yes {r : RatesR} {xs : List WorkSheetR} (h : ratesB r = true) (h2 : sheetsB xs = true) : pay14 r xs = (weavers14 xs, sums14 r xs (weavers14 xs), true) := if_pos ⟨h, h2⟩
theorem pay14_len (r : RatesR) (xs : List WorkSheetR) : (pay14 r xs).1.length ≤ 100000 ∧ (pay14 r xs).2.1.length ≤ 100000 := by
  unfold pay14
  split
  · next h =>
    have h1 := weavers14_len xs
    have h2 := (sheetsB_of h.2).1
    have h3 := sums14_len r xs (weavers14 xs)
    simp only
    omega
  · simp
theorem wageOf_bd {r : RatesR} {xs : List WorkSheetR} (hr : ratesB r = true) (h : sheetsB xs = true) (v : Int) : 0 ≤ wageSum r (ofW xs v) ∧ wageSum r (ofW xs v) ≤ 12000000 := by
  have := paid_bd hr h v 0 4000
  rwa [paid_all (sheets_all h)] at this
set_option maxRecDepth 100000 in
set_option maxHeartbeats 8000000 in
theorem implPayRoll_any (r : RatesR) (A : Option Addr) (n c B : Nat) (xs : List WorkSheetR) (w : World) (h : RdF workSheetF w B A n c xs) (hB : B ≤ w.heap.size) :
    Calls Try.prog 6 #[.agg #[.int .i64 r.f0, .int .i64 r.f1, .int .i64 r.f2, .int .i64 r.f3, .int .i64 r.f4], .slice A n c] w (OutInts2 w (pay14 r xs).1 (pay14 r xs).2.1 (pay14 r xs).2.2) := by
  obtain rfl := h.len
  obtain ⟨i0, hi, hz0, hz1, hz2⟩ := info_parts info_int
  have y0 := Blk.new w #[.int .i64 r.f0, .int .i64 r.f1, .int .i64 r.f2, .int .i64 r.f3, .int .i64 r.f4] 25
  have HB : Below w.heap.size w (w.alloc (.cells #[.int .i64 r.f0, .int .i64 r.f1, .int .i64 r.f2, .int .i64 r.f3, .int .i64 r.f4] 25)) := (Below.refl _ _).alloc (Nat.le_refl _) _
  have hR := h.alloc hB (.cells #[.int .i64 r.f0, .int .i64 r.f1, .int .i64 r.f2, .int .i64 r.f3, .int .i64 r.f4] 25)
  have hBW : B ≤ (w.alloc (.cells #[.int .i64 r.f0, .int .i64 r.f1, .int .i64 r.f2, .int .i64 r.f3, .int .i64 r.f4] 25)).heap.size := by simp; omega
  by_cases hr : ratesB r = true
  rotate_left
  · have hr' := not_false hr
    have HU := Lib.hid (pay14_no1 (r := r) (xs := xs) hr)
    go_enter Try.func6, Try.ntmps6
    have e00 := y0.cell 0
    have e01 := y0.cell 1
    have e02 := y0.cell 2
    have e03 := y0.cell 3
    have e04 := y0.cell 4
    go_wp2_with fail
    refine (implAreRates_eq r _ _ hr').mono ?_
    rintro e wa ⟨rfl, hb⟩
    clear e00 e01 e02 e03 e04
    replace y0 := y0.all hb
    replace hR := hR.all hb hBW
    replace hBW := Nat.le_trans hBW hb.size
    replace HB := HB.trans (hb.mono HB.size)
    clear hb
    go_wp2
    go_ret3
    rw [HU.out]
    exact ⟨none, 0, none, 0, rfl, Own.nil _ _, Own.nil _ _, (fun j hj => by cases hj), HB⟩
  by_cases hs : sheetsB xs = true
  rotate_left
  · have hs' := not_false hs
    have HU := Lib.hid (pay14_no2 (r := r) (xs := xs) hs)
    go_enter Try.func6, Try.ntmps6
    have e00 := y0.cell 0
    have e01 := y0.cell 1
    have e02 := y0.cell 2
    have e03 := y0.cell 3
    have e04 := y0.cell 4
    go_wp2_with fail
    refine (implAreRates_eq r _ _ hr).mono ?_
    rintro e wa ⟨rfl, hb⟩
    clear e00 e01 e02 e03 e04
    replace y0 := y0.all hb
    replace hR := hR.all hb hBW
    replace hBW := Nat.le_trans hBW hb.size
    replace HB := HB.trans (hb.mono HB.size)
    clear hb
    have e00 := y0.cell 0
    have e01 := y0.cell 1
    have e02 := y0.cell 2
    have e03 := y0.cell 3
    have e04 := y0.cell 4
    go_wp2_with fail
    refine (implAreSheets_eq A _ c B xs _ _ hR hBW hs').mono ?_
    rintro e wb ⟨rfl, hb⟩
    clear e00 e01 e02 e03 e04
    replace y0 := y0.all hb
    replace hR := hR.all hb hBW
    replace hBW := Nat.le_trans hBW hb.size
    replace HB := HB.trans (hb.mono HB.size)
    clear hb
    go_wp2
    go_ret3
    rw [HU.out]
    exact ⟨none, 0, none, 0, rfl, Own.nil _ _, Own.nil _ _, (fun j hj => by cases hj), HB⟩
  have HU := Lib.hid (pay14_yes (r := r) (xs := xs) hr hs)
  have h12 := (sheetsB_of hs).1
  have HA := Lib.hid (sheets_all hs)
  have HBD := Lib.hid (fun v => wageOf_bd hr hs v)
  go_enter Try.func6, Try.ntmps6
  have e00 := y0.cell 0
  have e01 := y0.cell 1
  have e02 := y0.cell 2
  have e03 := y0.cell 3
  have e04 := y0.cell 4
  go_wp2_with fail
  refine (implAreRates_eq r _ _ hr).mono ?_
  rintro e wa ⟨rfl, hb⟩
  clear e00 e01 e02 e03 e04
  replace y0 := y0.all hb
  replace hR := hR.all hb hBW
  replace hBW := Nat.le_trans hBW hb.size
  replace HB := HB.trans (hb.mono HB.size)
  clear hb
  have e00 := y0.cell 0
  have e01 := y0.cell 1
  have e02 := y0.cell 2
  have e03 := y0.cell 3
  have e04 := y0.cell 4
  go_wp2_with fail
  refine (implAreSheets_eq A _ c B xs _ _ hR hBW hs).mono ?_
  rintro e wb ⟨rfl, hb⟩
  clear e00 e01 e02 e03 e04
  replace y0 := y0.all hb
  replace hR := hR.all hb hBW
  replace hBW := Nat.le_trans hBW hb.size
  replace HB := HB.trans (hb.mono HB.size)
  clear hb
  go_wp2_with fail
  refine (weaversWithSheets_any A _ c B xs _ hR hBW (by omega)).mono ?_
  rintro e w4 ⟨A', c', rfl, own4, hb4⟩
  have hz1' := HB.size
  replace own4 := own4.mono hz1'
  replace y0 := y0.all hb4
  replace hR := hR.all hb4 hBW
  replace hBW := Nat.le_trans hBW hb4.size
  have HB4 := HB.trans (hb4.mono hz1')
  have hz4 := HB4.size
  have hzy := y0.lt
  have hll := weavers14_len xs
  clear HB hb4 hz1'
  have HW := Lib.hid (show weavers14 xs = weavers14 xs from rfl)
  obtain ⟨vs, hvs⟩ : ∃ vs, weavers14 xs = vs := ⟨_, rfl⟩
  rw [hvs] at own4 hll HU ⊢
  clear HW hvs
  obtain ⟨q, hq⟩ : ∃ q, vs.length = q := ⟨_, rfl⟩
  rw [hq] at own4 hll ⊢
  have HQ := Lib.hid hq
  clear hq
  go_wp2_with (at_make; refine wpList_make_full _ rfl _ _ 29 rfl w4.heap.size 3 i0 (.int .i64 0) 1 Try.underlying29 hi hz0 hz1 _ _ _ _ q rfl rfl rfl rfl (by rw [hz2]; omega) (by unfold maxLen; omega) (Nat.le_refl _) ?_)
  intro w5 hown0 hgrow0
  have own5 : Own w5 w.heap.size (.slice A' q c') vs := own4.mark hgrow0 (fun j j' hj => by cases hj)
  have HB5 := HB4.grown hgrow0 hz4 (fun j hj => by cases hj)
  have y5 := y0.mark hgrow0 (fun j hj => by cases hj)
  have hR5 := hR.mark hgrow0 (fun j hj => by cases hj) hBW
  have hBW5 : B ≤ w5.heap.size := Nat.le_trans hBW hgrow0.size
  have seat5 : Own w5 w4.heap.size (.slice (some ⟨w4.heap.size, 0, none⟩) q q) (List.replicate q 0) := ⟨by simpa [toList_madeCells_one, List.map_replicate] using hown0, fun x hx => by
    have := List.eq_of_mem_replicate hx
    subst this
    exact ⟨by omega, by omega⟩⟩
  have hlow : Hid (∀ j, (Value.slice A' q c').ownBlock = some j → j ≠ w4.heap.size) := Lib.hid fun j hj e => by have := (own4.bd j hj).2; omega
  clear own4 HB4 hown0 hgrow0 y0 hR
  go_wp2
  go_loopw [26] (fun i wr => ∃ (k : Nat) (zs : List Int), k ≤ q ∧ i = .int .i64 k ∧ Hid (zs.length = q) ∧ Hid (zs.take k = (sums14 r xs vs).take k) ∧ Own wr w.heap.size (.slice A' q c') vs ∧ Own wr w4.heap.size (.slice (some ⟨w4.heap.size, 0, none⟩) q q) zs ∧ Blk wr w.heap.size 25 #[.int .i64 r.f0, .int .i64 r.f1, .int .i64 r.f2, .int .i64 r.f3, .int .i64 r.f4] ∧ RdF workSheetF wr B A xs.length c xs ∧ Below w.heap.size w wr ∧ B ≤ wr.heap.size) (fun i _ => q - (intOf i).toNat)
  case atStart => exact ⟨0, List.replicate q 0, Nat.zero_le _, rfl, Lib.hid (by simp), Lib.hid (by simp), own5, seat5, y5, hR5, HB5, hBW5⟩
  case round =>
    obtain ⟨k, zs, hk, rfl, HL2, HT, own, seat, y0, hR, hb, hBW⟩ := hrel
    have hzz := hb.size
    by_cases hlt : k < q
    · obtain ⟨b, off, x, rfl, hx, hgx⟩ := rd_get own.rd hlt
      obtain ⟨v, hv⟩ : ∃ v, wageSum r (ofW xs x) = v := ⟨_, rfl⟩
      have hvb := HBD.out x
      have hgv : (sums14 r xs vs)[k]? = some v := by rw [← hv]; exact sums14_at hgx
      rw [hv] at hvb
      have HV := Lib.hid hv
      have HY := Lib.hid (take_step hgv (by rw [sums14_len]; exact HL2.out.trans HQ.out.symm) HT.out)
      clear hgx hgv hv
      have hk0 : (0 : Int) ≤ (k : Int) := by omega
      have hkq : (k : Int) < (q : Int) := by omega
      have hyl := y0.lt
      have es := own_at seat (j := k) (by rw [HL2.out]; exact hlt) rfl
      have hseatb := (seat.bd w4.heap.size rfl).2
      go_wp2
      clear hx
      have hne4 : w.heap.size ≠ w4.heap.size := by omega
      have hRd := hR.drew
      have hBWd : B ≤ wr.drew.heap.size := hBW
      have hn6 : xs.length ≤ 1000 := by omega
      have hl6 : (ofW xs x).length ≤ 1000 := Nat.le_trans (ofW_len xs x) hn6
      have hA6 : AllS (ofW xs x) := allS_filter HA.out (ownP x)
      have hi6 : I64 v := ⟨by omega, by omega⟩
      have c0 := y0.cell 0
      have c1 := y0.cell 1
      have c2 := y0.cell 2
      have c3 := y0.cell 3
      have c4 := y0.cell 4
      go_region_held3 (fun w' => w'.cell? ⟨w.heap.size, 0, none⟩ = some (.int .i64 r.f0) ∧ w'.cell? ⟨w.heap.size, 1, none⟩ = some (.int .i64 r.f1) ∧ w'.cell? ⟨w.heap.size, 2, none⟩ = some (.int .i64 r.f2) ∧ w'.cell? ⟨w.heap.size, 3, none⟩ = some (.int .i64 r.f3) ∧ w'.cell? ⟨w.heap.size, 4, none⟩ = some (.int .i64 r.f4)) (first | exact ⟨c0, c1, c2, c3, c4⟩ | exact ⟨st_cell c0 hne4, st_cell c1 hne4, st_cell c2 hne4, st_cell c3 hne4, st_cell c4 hne4⟩ | go_keep) (first | (go_at_call 27; (with_reducible refine (sheetsOf_any A _ c B xs x _ hRd hBWd hn6).mono ?_); rintro e w6 ⟨A6, c6, rfl, own6, hb6⟩; (try replace hb6 := below_drew' hb6); have hz6 := hb6.size; have hO6 := own6.rd; have hrf6 : w6.heap.size ≤ w6.heap.size := Nat.le_refl _; replace own := own.all hb6; replace seat := seat.all hb6; replace hR := hR.all hb6 hBW; replace hBW := Nat.le_trans hBW hz6; replace hb := hb.trans (hb6.mono hzz); replace c0 := cells_of hb6 c0 hyl; replace c1 := cells_of hb6 c1 hyl; replace c2 := cells_of hb6 c2 hyl; replace c3 := cells_of hb6 c3 hyl; replace c4 := cells_of hb6 c4 hyl; replace y0 := y0.all hb6; replace hyl := y0.lt; replace es := cells_of hb6 es hseatb; replace hseatb := Nat.lt_of_lt_of_le hseatb hz6; clear own6 hb6) | (go_at_call 26; (with_reducible refine (wagesOf_eq A6 _ c6 _ (ofW xs x) r v _ hO6 hrf6 hl6 hr hA6 HV.out).mono ?_); rintro e w7 ⟨rfl, hb7⟩; (try replace hb7 := below_drew' hb7); have hz7 := hb7.size; replace own := own.all hb7; replace seat := seat.all hb7; replace hR := hR.all hb7 hBW; replace hBW := Nat.le_trans hBW hz7; replace hb := hb.trans (hb7.mono hb.size); replace c0 := cells_of hb7 c0 hyl; replace c1 := cells_of hb7 c1 hyl; replace c2 := cells_of hb7 c2 hyl; replace c3 := cells_of hb7 c3 hyl; replace c4 := cells_of hb7 c4 hyl; replace y0 := y0.all hb7; replace es := cells_of hb7 es hseatb; clear hb7; have hfz := (own_put seat k v hi6).1))
      all_goals
        obtain ⟨hf, seat2, hg2⟩ := own_put seat k v hi6
        have hz6 := hb.size
        have own2 := own.mark hg2 (fun j j' hj hj' => by cases hj; exact fun e => hlow.out j' hj' e.symm)
        have HB2 := hb.grown hg2 hz6 (fun j hj => by cases hj; exact hz4)
        have y2 := y0.mark hg2 (fun j hj e => by cases hj; omega)
        have hR2 := hR.mark hg2 (fun j hj => by cases hj; omega) hBW
        have hBW2 : B ≤ _ := Nat.le_trans hBW hg2.size
        go_wp2
        go_roundw
        case rel => exact ⟨k + 1, zs.set k v, by omega, by go_num, Lib.hid (by rw [List.length_set]; exact HL2.out), HY, own2, seat2, y2, hR2, HB2, hBW2⟩
        case measure => simp [intOf]; omega
    · obtain rfl : k = q := by omega
      have HZ := Lib.hid (show zs = sums14 r xs vs by
        have := HT.out
        rwa [List.take_of_length_le (by have := HL2.out; omega), List.take_of_length_le (by rw [sums14_len]; have := HQ.out; omega)] at this)
      go_wp2
      go_ret3
      rw [HU.out]
      have hs1 : ((vs, sums14 r xs vs, true) : List Int × List Int × Bool).1.length = k := HQ.out
      have hs2 : ((vs, sums14 r xs vs, true) : List Int × List Int × Bool).2.1.length = k := (sums14_len r xs _).trans HQ.out
      refine ⟨A', c', some ⟨w4.heap.size, 0, none⟩, k, ?_, ?_, ?_, ?_, hb⟩
      · rw [hs1, hs2]; rfl
      · rw [hs1]; exact own
      · rw [hs2]; rw [← HZ.out]; exact seat.mono hz4
      · rw [hs1, hs2]; intro j hj e; cases e; exact hlow.out _ hj rfl
end Go.Proofs.Ytihhlldpdfihfaa
