/- The walks that tell how many knots are tied at a loom, both texts. No condition. -/
import Derived.Test.YtanfblpibomfaaaWeavers
import Derived.Test.YtanfblpibomfaaaWeaversS
import Derived.IntWalk
namespace Go.Proofs.Ytanfblpibomfaaa
open Go.RowKit

theorem implAreWeavers_eq (A : Option Addr) (n c B : Nat) (xs : List WeaverR) (w : World) (v : Bool) (h : RdF weaverF w B A n c xs) (hB : B ≤ w.heap.size) (hv : weaversB xs = v) :
    Calls Try.prog 14 #[.slice A n c] w (Tells w v) := hv ▸ implAreWeavers_any A n c B xs w h hB
theorem l11Good_eq (A : Option Addr) (n c B : Nat) (xs : List WeaverR) (w : World) (v : Bool) (h : RdF weaverF w B A n c xs) (hB : B ≤ w.heap.size) (hv : weaversB xs = v) :
    Calls Try.prog 40 #[.slice A n c] w (Tells w v) := hv ▸ l11Good_any A n c B xs w h hB
def knotSum : List WeaverR → Int
  | [] => 0
  | a :: r => (if hasB a.f2 1 = true then a.f3 else 0) + knotSum r
def knots11 (xs : List WeaverR) (l : Int) : Int := knotSum (atL xs l)
theorem knotSum_app (xs ys : List WeaverR) : knotSum (xs ++ ys) = knotSum xs + knotSum ys := by
  induction xs with
  | nil => simp [knotSum]
  | cons x xs ih => rw [List.cons_append, knotSum, knotSum, ih]; omega
theorem knotSum_drop {xs : List WeaverR} {k : Nat} {a : WeaverR} (ha : xs[k]? = some a) : knotSum (xs.drop k) = (if hasB a.f2 1 = true then a.f3 else 0) + knotSum (xs.drop (k + 1)) := by
  obtain ⟨hlt, e⟩ := List.getElem?_eq_some_iff.1 ha
  rw [List.drop_eq_getElem_cons hlt, e]
  rfl
def Fast (xs : List WeaverR) : Prop := ∀ a ∈ xs, (100 ≤ a.f3 ∧ a.f3 ≤ 12000) ∧ In15 a.f2
theorem fast_at {xs : List WeaverR} (h : Fast xs) {k : Nat} {a : WeaverR} (ha : xs[k]? = some a) : (100 ≤ a.f3 ∧ a.f3 ≤ 12000) ∧ In15 a.f2 := h a (List.mem_of_getElem? ha)
theorem weavers_fast {xs : List WeaverR} (h : weaversB xs = true) : Fast xs := fun a ha => by
  obtain ⟨i, hi, e⟩ := List.mem_iff_getElem.1 ha
  have := weaver_of (weavers_at h (i := i) (a := a) (by rw [List.getElem?_eq_getElem hi, e]))
  exact ⟨this.2.2.2.1, by have := this.2.2.1; constructor <;> omega⟩
theorem fast_atL {xs : List WeaverR} (h : Fast xs) (l : Int) : Fast (atL xs l) := fun a ha => h a (List.mem_filter.1 ha).1
theorem knotSum_bd {xs : List WeaverR} (h : Fast xs) : 0 ≤ knotSum xs ∧ knotSum xs ≤ 12000 * (xs.length : Int) := by
  induction xs with
  | nil => simp [knotSum]
  | cons x xs ih =>
    have h1 := ih fun a ha => h a (List.mem_cons_of_mem _ ha)
    have h2 := (h x (List.mem_cons_self ..)).1
    rw [knotSum, List.length_cons]
    split <;> constructor <;> omega
theorem knots11_bd {xs : List WeaverR} (h : weaversB xs = true) (l : Int) : 0 ≤ knots11 xs l ∧ knots11 xs l ≤ 96000 := by
  have h1 := knotSum_bd (fast_atL (weavers_fast h) l)
  have h2 := seatsN_le xs l
  have h3 := (weaversB_of h).1
  unfold seatsN at h2
  unfold knots11
  omega
noncomputable def kn11 (xs : List WeaverR) (l : Int) : Int × Bool := if weaversB xs = true ∧ inB l 1 99 = true then (knots11 xs l, true) else (0, false)
theorem kn11_bad {xs : List WeaverR} {l : Int} (h : ¬ weaversB xs = true) : kn11 xs l = (0, false) := if_neg fun hh => h hh.1
theorem kn11_bad2 {xs : List WeaverR} {l : Int} (h : ¬ inB l 1 99 = true) : kn11 xs l = (0, false) := if_neg fun hh => h hh.2
theorem kn11_good {xs : List WeaverR} {l : Int} (h : weaversB xs = true) (h2 : inB l 1 99 = true) : kn11 xs l = (knots11 xs l, true) := if_pos ⟨h, h2⟩
set_option maxRecDepth 100000 in
set_option maxHeartbeats 4000000 in
theorem implKnotsADay_any (A : Option Addr) (n c B : Nat) (xs : List WeaverR) (l : Int) (w : World) (h : RdF weaverF w B A n c xs) (hB : B ≤ w.heap.size) :
    Calls Try.prog 9 #[.slice A n c, .int .i64 l] w (Out w (.tuple #[.int .i64 (kn11 xs l).1, .bool (kn11 xs l).2])) := by
  obtain rfl := h.len
  by_cases hg : weaversB xs = true
  rotate_left
  · have hg' := not_false hg
    rw [kn11_bad hg]
    go_enter Try.func9, Try.ntmps9
    go_wp2_with (go_at_call 14; refine (implAreWeavers_eq A _ c B xs _ _ h hB hg').mono ?_; rintro e w1 ⟨rfl, hb⟩)
    go_ret2
    exact ⟨rfl, hb⟩
  by_cases hl : inB l 1 99 = true
  rotate_left
  · have hl' := not_false hl
    rw [kn11_bad2 hl]
    go_enter Try.func9, Try.ntmps9
    go_wp2_with (first | (go_at_call 14; refine (implAreWeavers_eq A _ c B xs _ _ h hB hg).mono ?_; rintro e w1 ⟨rfl, hb⟩) | (go_at_call 44; (with_reducible refine (isLoomId_any _ _).mono ?_); rintro e w' ⟨rfl, rfl⟩))
    go_ret2
    exact ⟨rfl, hb⟩
  rw [kn11_good hg hl]
  have h8 := (weaversB_of hg).1
  have HF := Lib.hid (fast_atL (weavers_fast hg) l)
  have hn8 : (atL xs l).length ≤ xs.length := seatsN_le xs l
  go_enter Try.func9, Try.ntmps9
  go_wp2_with (first | (go_at_call 14; refine (implAreWeavers_eq A _ c B xs _ _ h hB hg).mono ?_; rintro e w1 ⟨rfl, hb⟩) | (go_at_call 44; (with_reducible refine (isLoomId_any _ _).mono ?_); rintro e w' ⟨rfl, rfl⟩))
  have hR := h.all hb hB
  have hB1 : B ≤ w1.heap.size := Nat.le_trans hB hb.size
  clear h
  refine (weaversAt_any A _ c B xs l _ hR hB1 (by omega)).mono ?_
  rintro e w2 ⟨A2, c2, rfl, own, hb2⟩
  have hR2 := own.rd
  have hz1 := hb.size
  have hb12 : Below w.heap.size w w2 := hb.trans (hb2.mono hz1)
  have hz2 := hb12.size
  have HK := Lib.hid (show knots11 xs l = knotSum (atL xs l) from rfl)
  clear own hb hb2 hR
  generalize atL xs l = ys at *
  go_wp2
  go_loopw [21, 6] (fun i v wr => ∃ (k : Nat) (m : Int), k ≤ ys.length ∧ i = .int .i64 k ∧ v = .int .i64 m ∧ 0 ≤ m ∧ m ≤ 12000 * (k : Int) ∧ Hid (m + knotSum (ys.drop k) = knotSum ys) ∧ Below w.heap.size w wr ∧ RdF weaverF wr w2.heap.size A2 ys.length c2 ys ∧ w2.heap.size ≤ wr.heap.size) (fun i _ _ => ys.length - (intOf i).toNat)
  case atStart => exact ⟨0, 0, Nat.zero_le _, rfl, rfl, by omega, by omega, Lib.hid (by simp), hb12, hR2, Nat.le_refl _⟩
  case round =>
    obtain ⟨k, m, hk, rfl, rfl, hm0, hm1, HY, hb, hR, hz⟩ := hrel
    have hzz := hb.size
    by_cases hlt : k < ys.length
    · obtain ⟨b, off, a, rfl, hbB, ok, HX, hc0, hc1, hc2, hc3, hc4⟩ := WeaverR_at (F := weaverF) rfl (fun _ => rfl) (fun _ => rfl) hR hlt
      have HD := Lib.hid (knotSum_drop HX.out)
      obtain ⟨⟨hs0, hs1⟩, _⟩ := fast_at HF.out HX.out
      have x8 := Blk.new wr #[.int .i64 a.f0, .string a.f1, .int .i64 a.f2, .int .i64 a.f3, .int .i64 a.f4] 40
      have HB := hb.alloc hzz (.cells #[.int .i64 a.f0, .string a.f1, .int .i64 a.f2, .int .i64 a.f3, .int .i64 a.f4] 40)
      have hR8 := hR.alloc hz (.cells #[.int .i64 a.f0, .string a.f1, .int .i64 a.f2, .int .i64 a.f3, .int .i64 a.f4] 40)
      have hz8 : w2.heap.size ≤ (wr.alloc (.cells #[.int .i64 a.f0, .string a.f1, .int .i64 a.f2, .int .i64 a.f3, .int .i64 a.f4] 40)).heap.size := by simp; omega
      clear hb hR
      by_cases hsk : hasB a.f2 1 = true
      · have HN := Lib.hid (show (m + a.f3) + knotSum (ys.drop (k + 1)) = knotSum ys by rw [← HY.out, HD.out, if_pos hsk]; omega)
        go_wp2_with (go_at_call 46; (with_reducible refine (hasSkills_any _ _ _).mono ?_); rintro e w' ⟨rfl, rfl⟩)
        go_roundw
        case rel => exact ⟨k + 1, m + a.f3, by omega, by go_num, by go_num, by omega, by omega, HN, HB, hR8, hz8⟩
        case measure => simp [intOf]; omega
      · have HN := Lib.hid (show m + knotSum (ys.drop (k + 1)) = knotSum ys by rw [← HY.out, HD.out, if_neg hsk]; omega)
        have hsk' := not_false hsk
        clear hsk
        go_wp2_with (go_at_call 46; (with_reducible refine (hasSkills_any _ _ _).mono ?_); rintro e w' ⟨rfl, rfl⟩)
        go_roundw
        case rel => exact ⟨k + 1, m, by omega, by go_num, rfl, by omega, by omega, HN, HB, hR8, hz8⟩
        case measure => simp [intOf]; omega
    · obtain rfl : k = ys.length := by omega
      have HE := Lib.hid (show m = knotSum ys by have := HY.out; rw [List.drop_length] at this; simpa [knotSum] using this)
      go_wp2
      go_ret2
      exact ⟨by rw [HK.out, ← HE.out]; rfl, hb⟩
set_option maxRecDepth 100000 in
set_option maxHeartbeats 4000000 in
theorem l11Knots_any (A : Option Addr) (n c B : Nat) (xs : List WeaverR) (l : Int) (w : World) (h : RdF weaverF w B A n c xs) (hB : B ≤ w.heap.size) (hg : weaversB xs = true) :
    Calls Try.prog 43 #[.slice A n c, .int .i64 l] w fun e w' => e = .returned (.int .i64 (knots11 xs l)) ∧ w = w' := by
  have hn := h.len_lt
  obtain rfl := h.len
  have h8 := (weaversB_of hg).1
  have HF := Lib.hid (weavers_fast hg)
  clear hg
  go_enter Try.func43, Try.ntmps43
  go_wp2
  go_loopw [6, 5] (fun i v wr => ∃ (k : Nat) (m : Int), k ≤ xs.length ∧ i = .int .i64 k ∧ v = .int .i64 m ∧ 0 ≤ m ∧ m ≤ 12000 * (k : Int) ∧ Hid (m + knotSum (atL (xs.drop k) l) = knots11 xs l) ∧ wr = w) (fun i _ _ => xs.length - (intOf i).toNat)
  case atStart => exact ⟨0, 0, Nat.zero_le _, rfl, rfl, by omega, by omega, Lib.hid (by simp [knots11]), rfl⟩
  case round =>
    obtain ⟨k, m, hk, rfl, rfl, hm0, hm1, HY, hw⟩ := hrel
    subst hw
    by_cases hlt : k < xs.length
    · obtain ⟨b, off, a, rfl, hbB, ok, HX, hc0, hc1, hc2, hc3, hc4⟩ := WeaverR_at (F := weaverF) rfl (fun _ => rfl) (fun _ => rfl) h hlt
      have HD := Lib.hid (atL_drop HX.out l)
      obtain ⟨⟨hs0, hs1⟩, h15⟩ := fast_at HF.out HX.out
      have HK := Lib.hid (knot_has h15)
      by_cases hl : a.f4 = l
      · have HM := Lib.hid (show knotSum (atL (xs.drop k) l) = (if hasB a.f2 1 = true then a.f3 else 0) + knotSum (atL (xs.drop (k + 1)) l) by rw [HD.out, atL_one_yes hl]; rfl)
        have hl' : (a.f4 == l) = true := by simp [hl]
        have HLL := Lib.hid hl
        clear hl
        by_cases hsk : hasB a.f2 1 = true
        · have HN := Lib.hid (show (m + a.f3) + knotSum (atL (xs.drop (k + 1)) l) = knots11 xs l by rw [← HY.out, HM.out, if_pos hsk]; omega)
          have hb0 : (bits BinOp.and IntKind.i64 a.f2 1 == 0) = false := by have := HK.out; rw [hsk] at this; simpa [andI] using this
          have hb1 : (bits BinOp.and IntKind.i64 a.f2 1 != 0) = true := by rw [bne, hb0]; rfl
          clear hsk
          go_wp2
          go_roundw
          case rel => exact ⟨k + 1, m + a.f3, by omega, by go_num, by go_num, by omega, by omega, HN, by first | rfl | trivial⟩
          case measure => simp [intOf]; omega
        · have HN := Lib.hid (show m + knotSum (atL (xs.drop (k + 1)) l) = knots11 xs l by rw [← HY.out, HM.out, if_neg hsk]; omega)
          have hsk' := not_false hsk
          have hb0 : (bits BinOp.and IntKind.i64 a.f2 1 == 0) = true := by have := HK.out; rw [hsk'] at this; simpa [andI] using this
          have hb1 : (bits BinOp.and IntKind.i64 a.f2 1 != 0) = false := by rw [bne, hb0]; rfl
          clear hsk hsk'
          go_wp2
          go_roundw
          case rel => exact ⟨k + 1, m, by omega, by go_num, rfl, by omega, by omega, HN, by first | rfl | trivial⟩
          case measure => simp [intOf]; omega
      · have HN := Lib.hid (show m + knotSum (atL (xs.drop (k + 1)) l) = knots11 xs l by rw [← HY.out, HD.out, atL_one_no hl]; rfl)
        have hl' : (a.f4 == l) = false := by simp [hl]
        clear hl
        go_wp2
        go_roundw
        case rel => exact ⟨k + 1, m, by omega, by go_num, rfl, by omega, by omega, HN, by first | rfl | trivial⟩
        case measure => simp [intOf]; omega
    · obtain rfl : k = xs.length := by omega
      have HE := Lib.hid (show m = knots11 xs l by have := HY.out; rw [List.drop_length] at this; simpa [knotSum, atL] using this)
      go_wp2
      go_ret
      exact ⟨ret_int (by rw [HE.out]), rfl⟩
end Go.Proofs.Ytanfblpibomfaaa
