/- The walks of WithSkills, both texts. No condition. -/
import Derived.Test.YtanfblpibomfaaaKnots11
namespace Go.Proofs.Ytanfblpibomfaaa
open Go.RowKit

def withIds (xs : List WeaverR) (s : Int) : List Int := (xs.filter fun a => hasB a.f2 s).map fun a => a.f0
theorem withIds_drop {xs : List WeaverR} {k : Nat} {a : WeaverR} (ha : xs[k]? = some a) (s : Int) : withIds (xs.drop k) s = (if hasB a.f2 s = true then [a.f0] else []) ++ withIds (xs.drop (k + 1)) s := by
  obtain ⟨hlt, e⟩ := List.getElem?_eq_some_iff.1 ha
  rw [List.drop_eq_getElem_cons hlt, e]
  unfold withIds
  rw [List.filter_cons]
  split <;> simp
theorem withIds_len (xs : List WeaverR) (s : Int) : (withIds xs s).length ≤ xs.length := by
  unfold withIds
  rw [List.length_map]
  exact List.length_filter_le _ _
noncomputable def with11 (xs : List WeaverR) (s : Int) : List Int × Bool := if weaversB xs = true ∧ inB s 1 15 = true then (withIds xs s, true) else ([], false)
theorem with11_len (xs : List WeaverR) (s : Int) : (with11 xs s).1.length ≤ 100000 := by
  unfold with11
  split
  · next h =>
    have := withIds_len xs s
    have := (weaversB_of h.1).1
    simp only; omega
  · simp
set_option maxRecDepth 100000 in
set_option maxHeartbeats 4000000 in
theorem implWithSkills_any (A : Option Addr) (n c B : Nat) (xs : List WeaverR) (s : Int) (w : World) (h : RdF weaverF w B A n c xs) (hB : B ≤ w.heap.size) :
    Calls Try.prog 26 #[.slice A n c, .int .i64 s] w (OutInts w (with11 xs s).1 (with11 xs s).2) := by
  obtain rfl := h.len
  by_cases hg : weaversB xs = true
  rotate_left
  · have hg' := not_false hg
    rw [show with11 xs s = ([], false) from if_neg fun hh => hg hh.1]
    go_enter Try.func26, Try.ntmps26
    go_wp2_with (go_at_call 14; refine (implAreWeavers_eq A _ c B xs _ _ h hB hg').mono ?_; rintro e w1 ⟨rfl, hb⟩)
    go_ret2
    exact ⟨none, 0, rfl, Own.nil _ _, hb⟩
  by_cases hl : inB s 1 15 = true
  rotate_left
  · have hl' := not_false hl
    rw [show with11 xs s = ([], false) from if_neg fun hh => hl hh.2]
    go_enter Try.func26, Try.ntmps26
    go_wp2_with (first | (go_at_call 14; refine (implAreWeavers_eq A _ c B xs _ _ h hB hg).mono ?_; rintro e w1 ⟨rfl, hb⟩) | (go_at_call 57; (with_reducible refine (areSkills_any _ _).mono ?_); rintro e w' ⟨rfl, rfl⟩))
    go_ret2
    exact ⟨none, 0, rfl, Own.nil _ _, hb⟩
  have HW := Lib.hid (show with11 xs s = (withIds xs s, true) from if_pos ⟨hg, hl⟩)
  have h8 := (weaversB_of hg).1
  go_enter Try.func26, Try.ntmps26
  go_wp2_with (first | (go_at_call 14; refine (implAreWeavers_eq A _ c B xs _ _ h hB hg).mono ?_; rintro e w1 ⟨rfl, hb⟩) | (go_at_call 57; (with_reducible refine (areSkills_any _ _).mono ?_); rintro e w' ⟨rfl, rfl⟩))
  go_loopw [19, 6] (fun i v wr => ∃ (k m : Nat) (ys : List Int) (A' : Option Addr) (c' : Nat), k ≤ xs.length ∧ i = .int .i64 k ∧ v = .slice A' m c' ∧ Hid (ys.length = m) ∧ m ≤ k ∧ Own wr w.heap.size (.slice A' m c') ys ∧ Hid (ys ++ withIds (xs.drop k) s = withIds xs s) ∧ Below w.heap.size w wr) (fun i _ _ => xs.length - (intOf i).toNat)
  case atStart => exact ⟨0, 0, [], none, 0, Nat.zero_le _, rfl, rfl, Lib.hid rfl, Nat.le_refl _, Own.nil _ _, Lib.hid (by simp), hb⟩
  case round =>
    obtain ⟨k, m, ys, A', c', hk, rfl, rfl, HL, hmk, own, HY, hb⟩ := hrel
    have hzz := hb.size
    by_cases hlt : k < xs.length
    · obtain ⟨b, off, a, rfl, hbB, ok, HX, hc0, hc1, hc2, hc3, hc4⟩ := WeaverR_at (F := weaverF) rfl (fun _ => rfl) (fun _ => rfl) (h.below hb hB) hlt
      have HD := Lib.hid (withIds_drop HX.out s)
      have x7 := Blk.new wr #[.int .i64 a.f0, .string a.f1, .int .i64 a.f2, .int .i64 a.f3, .int .i64 a.f4] 40
      have own7 := own.alloc (.cells #[.int .i64 a.f0, .string a.f1, .int .i64 a.f2, .int .i64 a.f3, .int .i64 a.f4] 40)
      have HB := hb.alloc hzz (.cells #[.int .i64 a.f0, .string a.f1, .int .i64 a.f2, .int .i64 a.f3, .int .i64 a.f4] 40)
      have hz7 : w.heap.size ≤ (wr.alloc (.cells #[.int .i64 a.f0, .string a.f1, .int .i64 a.f2, .int .i64 a.f3, .int .i64 a.f4] 40)).heap.size := HB.size
      have hid := ok.1
      clear hb own
      by_cases hl : hasB a.f2 s = true
      · have HN := Lib.hid (show (ys ++ [a.f0]) ++ withIds (xs.drop (k + 1)) s = withIds xs s by rw [← HY.out, HD.out, if_pos hl, List.append_assoc])
        go_upto_region 8 with (go_at_call 46; (with_reducible refine (hasSkills_any _ _ _).mono ?_); rintro e w' ⟨rfl, rfl⟩)
        clear hc0 hc1 hc2 hc3 hc4
        generalize wr.alloc (.cells #[.int .i64 a.f0, .string a.f1, .int .i64 a.f2, .int .i64 a.f3, .int .i64 a.f4] 40) = W7 at *
        generalize wr.heap.size = P at *
        have e70 := x7.cell 0
        have e71 := x7.cell 1
        have e72 := x7.cell 2
        have e73 := x7.cell 3
        have e74 := x7.cell 4
        have hzP := x7.lt
        go_wp2_with (at_builtin; refine wpList_append_one W7 rfl (.tmp 27) (.tmp 30) 35 rfl Try.underlying35 info_int w.heap.size _ ys a.f0 rfl rfl own7 (by rw [HL.out]; omega) hid hz7 ?_)
        intro A2 c2 w8 own8 hg8
        have HB8 := HB.grown hg8 HB.size (fun j hj => (own7.bd j hj).1)
        clear hg8
        go_wp2
        go_roundw
        case rel => exact ⟨k + 1, ys.length + 1, ys ++ [a.f0], A2, c2, by omega, by go_num, rfl, Lib.hid (by simp), by have := HL.out; omega, own8, HN, HB8⟩
        case measure => simp [intOf]; omega
      · have HN := Lib.hid (show ys ++ withIds (xs.drop (k + 1)) s = withIds xs s by rw [← HY.out, HD.out, if_neg hl]; rfl)
        have hl' := not_false hl
        clear hl
        go_wp2_with (go_at_call 46; (with_reducible refine (hasSkills_any _ _ _).mono ?_); rintro e w' ⟨rfl, rfl⟩)
        go_roundw
        case rel => exact ⟨k + 1, m, ys, A', c', by omega, by go_num, rfl, HL, by omega, own7, HN, HB⟩
        case measure => simp [intOf]; omega
    · obtain rfl : k = xs.length := by omega
      have HE := Lib.hid (show ys = withIds xs s by have := HY.out; rwa [List.drop_length, show withIds [] s = [] from rfl, List.append_nil] at this)
      go_wp2
      go_ret2
      exact ⟨A', c', by rw [HW.out, ← HE.out, HL.out]; rfl, by rw [HW.out, ← HE.out, HL.out]; exact own, hb⟩
set_option maxRecDepth 100000 in
set_option maxHeartbeats 4000000 in
theorem specWithSkills_any (A : Option Addr) (n c B : Nat) (xs : List WeaverR) (s : Int) (w : World) (h : RdF weaverF w B A n c xs) (hB : B ≤ w.heap.size) :
    Calls Try.prog 27 #[.slice A n c, .int .i64 s] w (OutInts w (with11 xs s).1 (with11 xs s).2) := by
  obtain rfl := h.len
  have own0 : Own (w.alloc (.cells #[] 3)) w.heap.size (.slice (some ⟨w.heap.size, 0, none⟩) 0 0) [] := Own.empty (Nat.le_refl _)
  have HB0 : Below w.heap.size w (w.alloc (.cells #[] 3)) := (Below.refl _ _).alloc (Nat.le_refl _) _
  have h0 := h.alloc hB (.cells #[] 3)
  have hB0 : B ≤ (w.alloc (.cells #[] 3)).heap.size := by simp; omega
  by_cases hg : weaversB xs = true
  rotate_left
  · have hg' := not_false hg
    rw [show with11 xs s = ([], false) from if_neg fun hh => hg hh.1]
    go_enter Try.func27, Try.ntmps27
    go_wp2_with (go_at_call 40; refine (l11Good_eq A _ c B xs _ _ h0 hB0 hg').mono ?_; rintro e w1 ⟨rfl, hb⟩)
    go_ret2
    exact ⟨_, _, rfl, own0.all hb, HB0.trans (hb.mono HB0.size)⟩
  by_cases hl : inB s 1 15 = true
  rotate_left
  · have hl' := not_false hl
    rw [show with11 xs s = ([], false) from if_neg fun hh => hl hh.2]
    go_enter Try.func27, Try.ntmps27
    go_wp2_with (first | (go_at_call 40; refine (l11Good_eq A _ c B xs _ _ h0 hB0 hg).mono ?_; rintro e w1 ⟨rfl, hb⟩) | (go_at_call 60; (with_reducible refine (l11Skills_any _ _).mono ?_); rintro e w' ⟨rfl, rfl⟩))
    go_ret2
    exact ⟨_, _, rfl, own0.all hb, HB0.trans (hb.mono HB0.size)⟩
  have HW := Lib.hid (show with11 xs s = (withIds xs s, true) from if_pos ⟨hg, hl⟩)
  have h8 := (weaversB_of hg).1
  go_enter Try.func27, Try.ntmps27
  go_wp2_with (first | (go_at_call 40; refine (l11Good_eq A _ c B xs _ _ h0 hB0 hg).mono ?_; rintro e w1 ⟨rfl, hb⟩) | (go_at_call 60; (with_reducible refine (l11Skills_any _ _).mono ?_); rintro e w' ⟨rfl, rfl⟩))
  have own1 := own0.all hb
  have HB1 := HB0.trans (hb.mono HB0.size)
  clear own0 hb h0
  go_loopw [7, 6] (fun i v wr => ∃ (k m : Nat) (ys : List Int) (A' : Option Addr) (c' : Nat), k ≤ xs.length ∧ i = .int .i64 k ∧ v = .slice A' m c' ∧ Hid (ys.length = m) ∧ m ≤ k ∧ Own wr w.heap.size (.slice A' m c') ys ∧ Hid (ys ++ withIds (xs.drop k) s = withIds xs s) ∧ Below w.heap.size w wr) (fun i _ _ => xs.length - (intOf i).toNat)
  case atStart => exact ⟨0, 0, [], _, 0, Nat.zero_le _, rfl, rfl, Lib.hid rfl, Nat.le_refl _, own1, Lib.hid (by simp), HB1⟩
  case round =>
    obtain ⟨k, m, ys, A', c', hk, rfl, rfl, HL, hmk, own, HY, hb⟩ := hrel
    have hzz := hb.size
    by_cases hlt : k < xs.length
    · obtain ⟨b, off, a, rfl, hbB, ok, HX, hc0, hc1, hc2, hc3, hc4⟩ := WeaverR_at (F := weaverF) rfl (fun _ => rfl) (fun _ => rfl) (h.below hb hB) hlt
      have HD := Lib.hid (withIds_drop HX.out s)
      have hid := ok.1
      by_cases hl : hasB a.f2 s = true
      · have HN := Lib.hid (show (ys ++ [a.f0]) ++ withIds (xs.drop (k + 1)) s = withIds xs s by rw [← HY.out, HD.out, if_pos hl, List.append_assoc])
        have hba : (bits BinOp.and IntKind.i64 a.f2 s == s) = true := by simpa [hasB, andI] using hl
        clear hl
        go_wp2_with (at_builtin; refine wpList_append_one wr rfl (.tmp 33) (.tmp 39) 35 rfl Try.underlying35 info_int w.heap.size _ ys a.f0 rfl rfl own (by rw [HL.out]; omega) hid hzz ?_)
        intro A2 c2 w8 own8 hg8
        have HB8 := hb.grown hg8 hb.size (fun j hj => (own.bd j hj).1)
        clear hg8
        go_wp2
        go_roundw
        case rel => exact ⟨k + 1, ys.length + 1, ys ++ [a.f0], A2, c2, by omega, by go_num, rfl, Lib.hid (by simp), by have := HL.out; omega, own8, HN, HB8⟩
        case measure => simp [intOf]; omega
      · have HN := Lib.hid (show ys ++ withIds (xs.drop (k + 1)) s = withIds xs s by rw [← HY.out, HD.out, if_neg hl]; rfl)
        have hba : (bits BinOp.and IntKind.i64 a.f2 s == s) = false := by simpa [hasB, andI] using hl
        clear hl
        go_wp2
        go_roundw
        case rel => exact ⟨k + 1, m, ys, A', c', by omega, by go_num, rfl, HL, by omega, own, HN, hb⟩
        case measure => simp [intOf]; omega
    · obtain rfl : k = xs.length := by omega
      have HE := Lib.hid (show ys = withIds xs s by have := HY.out; rwa [List.drop_length, show withIds [] s = [] from rfl, List.append_nil] at this)
      go_wp2
      go_ret2
      exact ⟨A', c', by rw [HW.out, ← HE.out, HL.out]; rfl, by rw [HW.out, ← HE.out, HL.out]; exact own, hb⟩
end Go.Proofs.Ytanfblpibomfaaa
