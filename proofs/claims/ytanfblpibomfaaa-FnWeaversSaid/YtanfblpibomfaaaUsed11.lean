/- Which looms are used: as data, and the walk of the program. No condition. -/
import Derived.Test.YtanfblpibomfaaaKnots11
import Derived.Test.YtanfblpibomfaaaCmp11
import Derived.Test.YtanfblpibomfaaaSortInt
import Derived.OwnWalk
namespace Go.Proofs.Ytanfblpibomfaaa
open Go.RowKit

/-- What a call leaves that answers two slices of its own, apart from one another, and a yes or no. -/
def OutInts2 (w : World) (ys zs : List Int) (b : Bool) (e : Ending) (w' : World) : Prop :=
  ∃ A c A2 c2, e = .returned (.tuple #[.slice A ys.length c, .slice A2 zs.length c2, .bool b]) ∧ Own w' w.heap.size (.slice A ys.length c) ys ∧ Own w' w.heap.size (.slice A2 zs.length c2) zs ∧
    (∀ j, (Value.slice A ys.length c).ownBlock = some j → (Value.slice A2 zs.length c2).ownBlock ≠ some j) ∧ Below w.heap.size w w'
/-- The looms of those who sit at one. -/
def loomZ (xs : List WeaverR) : List Int := (xs.filter fun a => !decide (a.f4 = 0)).map fun a => a.f4
theorem loomZ_drop {xs : List WeaverR} {k : Nat} {a : WeaverR} (ha : xs[k]? = some a) : loomZ (xs.drop k) = (if a.f4 = 0 then [] else [a.f4]) ++ loomZ (xs.drop (k + 1)) := by
  obtain ⟨hlt, e⟩ := List.getElem?_eq_some_iff.1 ha
  rw [List.drop_eq_getElem_cons hlt, e]
  unfold loomZ
  rw [List.filter_cons]
  by_cases h : a.f4 = 0
  · simp [h]
  · simp [h]
theorem loomZ_len (xs : List WeaverR) : (loomZ xs).length ≤ xs.length := by
  unfold loomZ
  rw [List.length_map]
  exact List.length_filter_le _ _
theorem loomZ_mem {xs : List WeaverR} {y : Int} : y ∈ loomZ xs ↔ y ≠ 0 ∧ 0 < seatsN xs y := by
  unfold loomZ seatsN atL
  rw [List.length_pos_iff_exists_mem]
  simp only [List.mem_map, List.mem_filter, Bool.not_eq_true', decide_eq_false_iff_not, decide_eq_true_eq]
  constructor
  · rintro ⟨a, ⟨ha, h0⟩, rfl⟩
    exact ⟨h0, a, ha, rfl⟩
  · rintro ⟨h0, a, ha, rfl⟩
    exact ⟨a, ⟨ha, h0⟩, rfl⟩
theorem loomZ_in {xs : List WeaverR} (h : weaversB xs = true) {y : Int} (hy : y ∈ loomZ xs) : 1 ≤ y ∧ y ≤ 99 := by
  unfold loomZ at hy
  simp only [List.mem_map, List.mem_filter, Bool.not_eq_true', decide_eq_false_iff_not] at hy
  obtain ⟨a, ⟨ha, h0⟩, rfl⟩ := hy
  obtain ⟨i, hi, e⟩ := List.mem_iff_getElem.1 ha
  have := (weaver_of (weavers_at h (i := i) (a := a) (by rw [List.getElem?_eq_getElem hi, e]))).2.2.2.2
  omega
def looms11 (xs : List WeaverR) : List Int := setI (loomZ xs)
def seatL (xs : List WeaverR) (ls : List Int) : List Int := ls.map fun l => (seatsN xs l : Int)
theorem seatL_len (xs : List WeaverR) (ls : List Int) : (seatL xs ls).length = ls.length := List.length_map ..
theorem seatL_at {xs : List WeaverR} {ls : List Int} {k : Nat} {x : Int} (h : ls[k]? = some x) : (seatL xs ls)[k]? = some (seatsN xs x : Int) := by
  unfold seatL
  rw [List.getElem?_map, h]
  rfl
theorem seatL_app (xs : List WeaverR) (a b : List Int) : seatL xs (a ++ b) = seatL xs a ++ seatL xs b := List.map_append ..
noncomputable def used11 (xs : List WeaverR) : List Int × List Int × Bool := if weaversB xs = true then (looms11 xs, seatL xs (looms11 xs), true) else ([], [], false)
theorem looms11_len (xs : List WeaverR) : (looms11 xs).length ≤ xs.length := Nat.le_trans (setI_len _) (loomZ_len xs)
theorem used11_len (xs : List WeaverR) : (used11 xs).1.length ≤ 100000 ∧ (used11 xs).2.1.length ≤ 100000 := by
  unfold used11
  split
  · next h =>
    have h1 := looms11_len xs
    have h2 := (weaversB_of h).1
    have h3 := seatL_len xs (looms11 xs)
    simp only
    omega
  · simp
set_option maxRecDepth 100000 in
set_option maxHeartbeats 4000000 in
theorem implLoomsUsed_any (A : Option Addr) (n c B : Nat) (xs : List WeaverR) (w : World) (h : RdF weaverF w B A n c xs) (hB : B ≤ w.heap.size) :
    Calls Try.prog 16 #[.slice A n c] w (OutInts2 w (used11 xs).1 (used11 xs).2.1 (used11 xs).2.2) := by
  obtain ⟨i0, hi, hz0, hz1, hz2⟩ := info_parts info_int
  obtain rfl := h.len
  by_cases hg : weaversB xs = true
  rotate_left
  · have hg' := not_false hg
    have HU := Lib.hid (show used11 xs = ([], [], false) from if_neg hg)
    go_enter Try.func16, Try.ntmps16
    go_wp2_with (go_at_call 14; refine (implAreWeavers_eq A _ c B xs _ _ h hB hg').mono ?_; rintro e w1 ⟨rfl, hb⟩)
    go_ret3
    rw [HU.out]
    exact ⟨none, 0, none, 0, rfl, Own.nil _ _, Own.nil _ _, (fun j hj => by cases hj), hb⟩
  have HU := Lib.hid (show used11 xs = (looms11 xs, seatL xs (looms11 xs), true) from if_pos hg)
  have h8 := (weaversB_of hg).1
  go_enter Try.func16, Try.ntmps16
  go_wp2_with (go_at_call 14; refine (implAreWeavers_eq A _ c B xs _ _ h hB hg).mono ?_; rintro e w1 ⟨rfl, hb⟩)
  go_loopw [16, 5] (fun i v wr => ∃ (k m : Nat) (ys : List Int) (A' : Option Addr) (c' : Nat), k ≤ xs.length ∧ i = .int .i64 k ∧ v = .slice A' m c' ∧ Hid (ys.length = m) ∧ m ≤ k ∧ Own wr w.heap.size (.slice A' m c') ys ∧ Hid (ys ++ loomZ (xs.drop k) = loomZ xs) ∧ Below w.heap.size w wr) (fun i _ _ => xs.length - (intOf i).toNat)
  case atStart => exact ⟨0, 0, [], none, 0, Nat.zero_le _, rfl, rfl, Lib.hid rfl, Nat.le_refl _, Own.nil _ _, Lib.hid (by simp), hb⟩
  case round =>
    obtain ⟨k, m, ys, A', c', hk, rfl, rfl, HL, hmk, own, HY, hb⟩ := hrel
    have hzz := hb.size
    by_cases hlt : k < xs.length
    · obtain ⟨b, off, a, rfl, hbB, ok, HX, hc0, hc1, hc2, hc3, hc4⟩ := WeaverR_at (F := weaverF) rfl (fun _ => rfl) (fun _ => rfl) (h.below hb hB) hlt
      have HD := Lib.hid (loomZ_drop HX.out)
      have x7 := Blk.new wr #[.int .i64 a.f0, .string a.f1, .int .i64 a.f2, .int .i64 a.f3, .int .i64 a.f4] 40
      have own7 := own.alloc (.cells #[.int .i64 a.f0, .string a.f1, .int .i64 a.f2, .int .i64 a.f3, .int .i64 a.f4] 40)
      have HB := hb.alloc hzz (.cells #[.int .i64 a.f0, .string a.f1, .int .i64 a.f2, .int .i64 a.f3, .int .i64 a.f4] 40)
      have hz7 : w.heap.size ≤ (wr.alloc (.cells #[.int .i64 a.f0, .string a.f1, .int .i64 a.f2, .int .i64 a.f3, .int .i64 a.f4] 40)).heap.size := HB.size
      have hid := ok.2.2.2.2
      clear hb own
      by_cases hl : a.f4 = 0
      · have HN := Lib.hid (show ys ++ loomZ (xs.drop (k + 1)) = loomZ xs by rw [← HY.out, HD.out, if_pos hl]; rfl)
        have hl1 : (a.f4 == 0) = true := by simp [hl]
        have hl2 : (a.f4 != 0) = false := by simp [hl]
        clear hl
        go_wp2
        go_roundw
        case rel => exact ⟨k + 1, m, ys, A', c', by omega, by go_num, rfl, HL, by omega, own7, HN, HB⟩
        case measure => simp [intOf]; omega
      · have HN := Lib.hid (show (ys ++ [a.f4]) ++ loomZ (xs.drop (k + 1)) = loomZ xs by rw [← HY.out, HD.out, if_neg hl, List.append_assoc])
        have hl1 : (a.f4 == 0) = false := by simp [hl]
        have hl2 : (a.f4 != 0) = true := by simp [hl]
        clear hl
        go_upto_region 8 with fail
        clear hc0 hc1 hc2 hc3 hc4
        generalize wr.alloc (.cells #[.int .i64 a.f0, .string a.f1, .int .i64 a.f2, .int .i64 a.f3, .int .i64 a.f4] 40) = W7 at *
        generalize wr.heap.size = P at *
        have e70 := x7.cell 0
        have e71 := x7.cell 1
        have e72 := x7.cell 2
        have e73 := x7.cell 3
        have e74 := x7.cell 4
        have hzP := x7.lt
        go_wp2_with (at_builtin; refine wpList_append_one W7 rfl (.tmp 23) (.tmp 26) 35 rfl Try.underlying35 info_int w.heap.size _ ys a.f4 rfl rfl own7 (by rw [HL.out]; omega) hid hz7 ?_)
        intro A2 c2 w8 own8 hg8
        have HB8 := HB.grown hg8 HB.size (fun j hj => (own7.bd j hj).1)
        clear hg8
        go_wp2
        go_roundw
        case rel => exact ⟨k + 1, ys.length + 1, ys ++ [a.f4], A2, c2, by omega, by go_num, rfl, Lib.hid (by simp), by have := HL.out; omega, own8, HN, HB8⟩
        case measure => simp [intOf]; omega
    · obtain rfl : k = xs.length := by omega
      have HE := Lib.hid (show ys = loomZ xs by have := HY.out; rwa [List.drop_length, show loomZ [] = [] from rfl, List.append_nil] at this)
      go_wp2_with fail
      refine (sortInts_any A' m c' w.heap.size ys _ own (by have := HL.out; omega) hzz).mono ?_
      rintro e w3 ⟨rfl, own3, hb3⟩
      have HB3 := hb.trans hb3
      have hz3 := HB3.size
      clear own hb hb3
      go_wp2_with fail
      refine (compactInts_any A' m c' w.heap.size (sortI ys) _ own3 (by rw [sortI_len]; have := HL.out; omega)).mono ?_
      rintro e w4 ⟨rfl, own4, hb4⟩
      have HB4 := HB3.trans hb4
      have hz4 := HB4.size
      have HEU := Lib.hid (show Lib.compact (sortI ys) = looms11 xs by rw [HE.out]; rfl)
      have hll := looms11_len xs
      rw [HEU.out] at own4 ⊢
      clear own3 HB3 hb4 hz3 HEU
      obtain ⟨q, hq⟩ : ∃ q, (looms11 xs).length = q := ⟨_, rfl⟩
      rw [hq] at own4 hll ⊢
      have HQ := Lib.hid hq
      clear hq
      go_wp2_with (at_make; refine wpList_make_full _ rfl _ _ 35 rfl w4.heap.size 3 i0 (.int .i64 0) 1 Try.underlying35 hi hz0 hz1 _ _ _ _ q rfl rfl rfl rfl (by rw [hz2]; omega) (by unfold maxLen; omega) (Nat.le_refl _) ?_)
      intro w5 hown0 hgrow0
      have own5 : Own w5 w.heap.size (.slice A' q c') (looms11 xs) := own4.mark hgrow0 (fun j j' hj => by cases hj)
      have HB5 := HB4.grown hgrow0 hz4 (fun j hj => by cases hj)
      have hz5 := HB5.size
      have seat5 : Own w5 w4.heap.size (.slice (some ⟨w4.heap.size, 0, none⟩) q q) (List.replicate q 0) := ⟨by simpa [toList_madeCells_one, List.map_replicate] using hown0, fun x hx => by
        have := List.eq_of_mem_replicate hx
        subst this
        exact ⟨by omega, by omega⟩⟩
      have hlow : Hid (∀ j, (Value.slice A' q c').ownBlock = some j → j ≠ w4.heap.size) := Lib.hid fun j hj e => by have := (own4.bd j hj).2; omega
      clear own4 HB4 hown0 hgrow0
      go_wp2
      go_loopw [38] (fun i wr => ∃ (k : Nat) (zs : List Int), k ≤ q ∧ i = .int .i64 k ∧ Hid (zs.length = q) ∧ Hid (zs.take k = (seatL xs (looms11 xs)).take k) ∧ Own wr w.heap.size (.slice A' q c') (looms11 xs) ∧ Own wr w4.heap.size (.slice (some ⟨w4.heap.size, 0, none⟩) q q) zs ∧ Below w.heap.size w wr) (fun i _ => q - (intOf i).toNat)
      case atStart => exact ⟨0, List.replicate q 0, Nat.zero_le _, rfl, Lib.hid (by simp), Lib.hid (by simp), own5, seat5, HB5⟩
      case round =>
        obtain ⟨k, zs, hk, rfl, HL2, HT, own, seat, hb⟩ := hrel
        have hzz := hb.size
        by_cases hlt : k < q
        · obtain ⟨b, off, x, rfl, hx, hgx⟩ := rd_get own.rd hlt
          have HGX := Lib.hid hgx
          obtain ⟨v, hv⟩ : ∃ v, Hid (seatsN xs x = v) := ⟨_, Lib.hid rfl⟩
          have hvx : v ≤ xs.length := hv.out ▸ seatsN_le xs x
          have hgv : (seatL xs (looms11 xs))[k]? = some (v : Int) := by rw [← hv.out]; exact seatL_at hgx
          have HY := Lib.hid (take_step hgv (by rw [seatL_len]; exact HL2.out.trans HQ.out.symm) HT.out)
          clear hgx hgv
          have hk0 : (0 : Int) ≤ (k : Int) := by omega
          have hkq : (k : Int) < (q : Int) := by omega
          go_wp2_with fail
          refine (weaversAt_n A _ c B xs x _ v (h.below hb hB) (Nat.le_trans hB hzz) (by omega) hv.out).mono ?_
          rintro e w6 ⟨⟨A6, c6, rfl⟩, hb6⟩
          replace own := own.all hb6
          replace seat := seat.all hb6
          replace hb := hb.trans (hb6.mono hzz)
          have hz6 := hb.size
          have es := own_at seat (j := k) (by rw [HL2.out]; exact hlt) rfl
          obtain ⟨hf, seat2, hg2⟩ := own_put seat k (v : Int) ⟨by omega, by omega⟩
          have own2 := own.mark hg2 (fun j j' hj hj' => by cases hj; exact fun e => hlow.out j' hj' e.symm)
          have HB2 := hb.grown hg2 hz6 (fun j hj => by cases hj; exact hz4)
          clear hb6 hx
          go_wp2
          go_roundw
          case rel => exact ⟨k + 1, zs.set k (v : Int), by omega, by go_num, Lib.hid (by rw [List.length_set]; exact HL2.out), HY, own2, seat2, HB2⟩
          case measure => simp [intOf]; omega
        · obtain rfl : k = q := by omega
          have HZ := Lib.hid (show zs = seatL xs (looms11 xs) by
            have := HT.out
            rwa [List.take_of_length_le (by have := HL2.out; omega), List.take_of_length_le (by rw [seatL_len]; have := HQ.out; omega)] at this)
          go_wp2
          go_ret3
          rw [HU.out]
          have hs1 : ((looms11 xs, seatL xs (looms11 xs), true) : List Int × List Int × Bool).1.length = k := HQ.out
          have hs2 : ((looms11 xs, seatL xs (looms11 xs), true) : List Int × List Int × Bool).2.1.length = k := (seatL_len xs _).trans HQ.out
          refine ⟨A', c', some ⟨w4.heap.size, 0, none⟩, k, ?_, ?_, ?_, ?_, hb⟩
          · rw [hs1, hs2]; rfl
          · rw [hs1]; exact own
          · rw [hs2]; rw [← HZ.out]; exact seat.mono hz4
          · rw [hs1, hs2]; intro j hj e; cases e; exact hlow.out _ hj rfl
end Go.Proofs.Ytanfblpibomfaaa
