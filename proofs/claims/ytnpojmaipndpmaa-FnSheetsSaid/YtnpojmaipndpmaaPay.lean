/- The weavers with a sheet, and PayRoll: the walks of the program. Conditions: as they stand. -/
import Derived.Test.YtnpojmaipndpmaaWages
import Derived.Test.YtnpojmaipndpmaaSortInt
import Derived.OwnWalk
namespace Go.Proofs.Ytnpojmaipndpmaa
open Go.RowKit

/-- What a call leaves that answers two slices of its own, apart from one another, and a yes or no. -/
def OutInts2 (w : World) (ys zs : List Int) (b : Bool) (e : Ending) (w' : World) : Prop :=
  ∃ A c A2 c2, e = .returned (.tuple #[.slice A ys.length c, .slice A2 zs.length c2, .bool b]) ∧ Own w' w.heap.size (.slice A ys.length c) ys ∧ Own w' w.heap.size (.slice A2 zs.length c2) zs ∧
    (∀ j, (Value.slice A ys.length c).ownBlock = some j → (Value.slice A2 zs.length c2).ownBlock ≠ some j) ∧ Below w.heap.size w w'
theorem rd_get {w : World} {B n c : Nat} {A : Option Addr} {xs : List Int} (h : Rd w B A n c xs) {k : Nat} (hk : k < n) : ∃ b off x, A = some ⟨b, off, none⟩ ∧ w.cell? ⟨b, off + k, none⟩ = some (.int .i64 x) ∧ xs[k]? = some x := by
  obtain ⟨b, off, x, e, _, hx, _, _, HX⟩ := h.at hk
  have hl := h.len
  have hk' : k < xs.length := by omega
  refine ⟨b, off, x, e, hx, ?_⟩
  have := HX.out
  rw [List.getD_eq_getElem?_getD, List.getElem?_eq_getElem hk'] at this
  rw [List.getElem?_eq_getElem hk']
  exact congrArg some this
/-- The weavers of sheets, in the sheets' order, and each once in ascending order. -/
def idsW (xs : List WorkSheetR) : List Int := xs.map fun a => a.f0
theorem idsW_len (xs : List WorkSheetR) : (idsW xs).length = xs.length := List.length_map ..
theorem idsW_drop {xs : List WorkSheetR} {k : Nat} {a : WorkSheetR} (ha : xs[k]? = some a) : idsW (xs.drop k) = [a.f0] ++ idsW (xs.drop (k + 1)) := by
  obtain ⟨hlt, e⟩ := List.getElem?_eq_some_iff.1 ha
  rw [List.drop_eq_getElem_cons hlt, e]
  rfl
theorem idsW_take {xs : List WorkSheetR} {k : Nat} {a : WorkSheetR} (ha : xs[k]? = some a) (y : Int) : y ∈ idsW (xs.take (k + 1)) ↔ y = a.f0 ∨ y ∈ idsW (xs.take k) := by
  obtain ⟨hlt, e⟩ := List.getElem?_eq_some_iff.1 ha
  rw [List.take_succ_eq_append_getElem hlt, e]
  simp only [idsW, List.map_append, List.map_cons, List.map_nil, List.mem_append, List.mem_singleton]
  exact Or.comm
def weavers14 (xs : List WorkSheetR) : List Int := setI (idsW xs)
theorem weavers14_len (xs : List WorkSheetR) : (weavers14 xs).length ≤ xs.length := Nat.le_trans (setI_len _) (Nat.le_of_eq (idsW_len xs))
set_option maxRecDepth 100000 in
set_option maxHeartbeats 4000000 in
theorem weaversWithSheets_any (A : Option Addr) (n c B : Nat) (xs : List WorkSheetR) (w : World) (h : RdF workSheetF w B A n c xs) (hB : B ≤ w.heap.size) (hn : n ≤ 1000) :
    Calls Try.prog 18 #[.slice A n c] w fun e w' => ∃ A' c', e = .returned (.slice A' (weavers14 xs).length c') ∧ Own w' w.heap.size (.slice A' (weavers14 xs).length c') (weavers14 xs) ∧ Below w.heap.size w w' := by
  obtain rfl := h.len
  go_enter Try.func18, Try.ntmps18
  go_wp2
  go_loopw [8, 3] (fun i v wr => ∃ (k m : Nat) (ys : List Int) (A' : Option Addr) (c' : Nat), k ≤ xs.length ∧ i = .int .i64 k ∧ v = .slice A' m c' ∧ Hid (ys.length = m) ∧ m ≤ k ∧ Own wr w.heap.size (.slice A' m c') ys ∧ Hid (ys ++ idsW (xs.drop k) = idsW xs) ∧ Below w.heap.size w wr) (fun i _ _ => xs.length - (intOf i).toNat)
  case atStart => exact ⟨0, 0, [], none, 0, Nat.zero_le _, rfl, rfl, Lib.hid rfl, Nat.le_refl _, Own.nil _ _, Lib.hid (by simp), Below.refl _ _⟩
  case round =>
    obtain ⟨k, m, ys, A', c', hk, rfl, rfl, HL, hmk, own, HY, hb⟩ := hrel
    have hzz := hb.size
    by_cases hlt : k < xs.length
    · obtain ⟨b, off, a, rfl, hbB, ok, HX, hc0, hc1, hc2, hc3, hc4⟩ := WorkSheetR_at (F := workSheetF) rfl (fun _ => rfl) (fun _ => rfl) (h.all hb hB) hlt
      have HN := Lib.hid (show (ys ++ [a.f0]) ++ idsW (xs.drop (k + 1)) = idsW xs by rw [← HY.out, idsW_drop HX.out, List.append_assoc])
      have x7 := Blk.new wr #[.int .i64 a.f0, .int .i64 a.f1, .int .i64 a.f2, .int .i64 a.f3, .int .i64 a.f4] 33
      have own7 := own.alloc (.cells #[.int .i64 a.f0, .int .i64 a.f1, .int .i64 a.f2, .int .i64 a.f3, .int .i64 a.f4] 33)
      have HB := hb.alloc hzz (.cells #[.int .i64 a.f0, .int .i64 a.f1, .int .i64 a.f2, .int .i64 a.f3, .int .i64 a.f4] 33)
      have hz7 : w.heap.size ≤ (wr.alloc (.cells #[.int .i64 a.f0, .int .i64 a.f1, .int .i64 a.f2, .int .i64 a.f3, .int .i64 a.f4] 33)).heap.size := HB.size
      have hid : I64 a.f0 := ok.1
      clear hb own
      go_upto_region 5 with fail
      clear hc0 hc1 hc2 hc3 hc4
      generalize wr.alloc (.cells #[.int .i64 a.f0, .int .i64 a.f1, .int .i64 a.f2, .int .i64 a.f3, .int .i64 a.f4] 33) = W7 at *
      generalize wr.heap.size = P at *
      have e70 := x7.cell 0
      have e71 := x7.cell 1
      have e72 := x7.cell 2
      have e73 := x7.cell 3
      have e74 := x7.cell 4
      have hzP := x7.lt
      go_wp2_with (at_builtin; refine wpList_append_one W7 rfl (.tmp 12) (.tmp 15) 26 rfl Try.underlying26 info_int w.heap.size _ ys a.f0 rfl rfl own7 (by rw [HL.out]; omega) hid hz7 ?_)
      intro A2 c2 w8 own8 hg8
      have HB8 := HB.grown hg8 HB.size (fun j hj => (own7.bd j hj).1)
      clear hg8
      go_wp2
      go_roundw
      case rel => exact ⟨k + 1, ys.length + 1, ys ++ [a.f0], A2, c2, by omega, by go_num, rfl, Lib.hid (by simp), by have := HL.out; omega, own8, HN, HB8⟩
      case measure => simp [intOf]; omega
    · obtain rfl : k = xs.length := by omega
      have HE := Lib.hid (show ys = idsW xs by have := HY.out; rwa [List.drop_length, show idsW [] = [] from rfl, List.append_nil] at this)
      go_wp2_with fail
      refine (sortInts_any A' m c' w.heap.size ys _ own (by have := HL.out; omega) hzz).mono ?_
      rintro e w3 ⟨rfl, own3, hb3⟩
      have HB3 := hb.trans hb3
      clear own hb hb3
      go_wp2_with fail
      refine (compactInts_any A' m c' w.heap.size (sortI ys) _ own3 (by rw [sortI_len]; have := HL.out; omega)).mono ?_
      rintro e w4 ⟨rfl, own4, hb4⟩
      have HB4 := HB3.trans hb4
      have HEU := Lib.hid (show Lib.compact (sortI ys) = weavers14 xs by rw [HE.out]; rfl)
      rw [HEU.out] at own4 ⊢
      go_wp2
      go_ret
      exact ⟨A', c', rfl, own4, HB4⟩
theorem st_cell {w : World} {p o b o' : Nat} {v x : Value} (h : w.cell? ⟨b, o', none⟩ = some x) (hne : b ≠ p) : (w.setCell ⟨p, o, none⟩ v).cell? ⟨b, o', none⟩ = some x :=
  (grown_setCell w ⟨p, o, none⟩ v).cell (a := ⟨b, o', none⟩) h (fun e => hne (Option.some.inj e))
def sums14 (r : RatesR) (xs : List WorkSheetR) (vs : List Int) : List Int := vs.map fun v => wageSum r (ofW xs v)
theorem sums14_len (r : RatesR) (xs : List WorkSheetR) (vs : List Int) : (sums14 r xs vs).length = vs.length := List.length_map ..
theorem sums14_at {r : RatesR} {xs : List WorkSheetR} {vs : List Int} {k : Nat} {x : Int} (h : vs[k]? = some x) : (sums14 r xs vs)[k]? = some (wageSum r (ofW xs x)) := by
  unfold sums14
  rw [List.getElem?_map, h]
  rfl
theorem sums14_drop {r : RatesR} {xs : List WorkSheetR} {vs : List Int} {k : Nat} {x : Int} (h : vs[k]? = some x) : sums14 r xs (vs.drop k) = [wageSum r (ofW xs x)] ++ sums14 r xs (vs.drop (k + 1)) := by
  obtain ⟨hlt, e⟩ := List.getElem?_eq_some_iff.1 h
  rw [List.drop_eq_getElem_cons hlt, e]
  rfl
noncomputable def pay14 (r : RatesR) (xs : List WorkSheetR) : List Int × List Int × Bool := if ratesB r = true ∧ sheetsB xs = true then (weavers14 xs, sums14 r xs (weavers14 xs), true) else ([], [], false)
theorem pay14_no1 {r : RatesR} {xs : List WorkSheetR} (h : ¬ ratesB r = true) : pay14 r xs = ([], [], false) := if_neg fun hh => h hh.1
theorem pay14_no2 {r : RatesR} {xs : List WorkSheetR} (h : ¬ sheetsB xs = true) : pay14 r xs = ([], [], false) := if_neg fun hh => h hh.2
theorem pay14_yes {r : RatesR} {xs : List WorkSheetR} (h : ratesB r = true) (h2 : sheetsB xs = true) : pay14 r xs = (weavers14 xs, sums14 r xs (weavers14 xs), true) := if_pos ⟨h, h2⟩
theorem pay14_len (r : RatesR) (xs : List WorkSheetR) : (pay14 r xs).1.length ≤ 100000 ∧ (pay14 r xs).2.1.length ≤ 100000 := by
  unfold pay14
  split
  · next h =>
    have h1 := weavers14_len xs
    have h2 := (sheetsB_of h.2).1
    have h3 := sums14_len r xs (weavers14 xs)
    simp only
    omega
  · simp
theorem wageOf_bd {r : RatesR} {xs : List WorkSheetR} (hr : ratesB r = true) (h : sheetsB xs = true) (v : Int) : 0 ≤ wageSum r (ofW xs v) ∧ wageSum r (ofW xs v) ≤ 12000000 := by
  have := paid_bd hr h v 0 4000
  rwa [paid_all (sheets_all h)] at this
end Go.Proofs.Ytnpojmaipndpmaa
