/- The walk of the model's l12Next: the places beside a place. Condition: the place is within a chart whose sides are sides. -/
import Derived.Test.YtpnmnkdnlajfiaaAreaMath
import Derived.Test.YtpnmnkdnlajfiaaCopy
import Derived.Deep.CutRange
import Derived.BigQuiet
namespace Go.Proofs.Ytpnmnkdnlajfiaa
open Go.RowKit

def NxS (w : World) (m k : Nat) (v : Value) (L : List Int) (t : Value) (wx : World) : Prop :=
  ∃ A c, t = .slice A L.length c ∧ Own wx w.heap.size (.slice A L.length c) L ∧ Blk wx w.heap.size 26 #[.int .i64 m, .int .i64 k, v] ∧ Below w.heap.size w wx
theorem nxs_put {w wx w' : World} {m k : Nat} {v : Value} {L : List Int} {A A' : Option Addr} {c c' : Nat} {x : Int} (h2 : Own wx w.heap.size (.slice A L.length c) L) (h3 : Blk wx w.heap.size 26 #[.int .i64 m, .int .i64 k, v]) (h4 : Below w.heap.size w wx)
    (ho : Own w' w.heap.size (.slice A' (L.length + 1) c') (L ++ [x])) (hg : wx.grownBy w' (Value.slice A L.length c).ownBlock) : NxS w m k v (L ++ [x]) (.slice A' (L.length + 1) c') w' :=
  ⟨A', c', by rw [List.length_append]; rfl, by rw [List.length_append]; exact ho, h3.mark hg (row_ne h2.1 h3 (by decide)), h4.grown hg h4.size (fun q hq => (h2.bd q hq).1)⟩
set_option maxRecDepth 100000 in
set_option maxHeartbeats 4000000 in
theorem l12Next_any (m k i : Nat) (v : Value) (w : World) (hm : 1 ≤ m) (hm8 : m ≤ 8) (hk1 : 1 ≤ k) (hk8 : k ≤ 8) (hi : i < m * k) :
    Calls Try.prog 75 #[chartV m k v, .int .i64 i] w (OwnCopy w (upI (nextM m k i))) := by
  have hN : m * k ≤ 8 * 8 := Nat.mul_le_mul hm8 hk8
  have x0 := Blk.new w #[.int .i64 m, .int .i64 k, v] 26
  have e0 := x0.cell 0
  have e1 := x0.cell 1
  have hq : Int.tdiv (i : Int) (m : Int) = ((i / m : Nat) : Int) := rfl
  have hr : Int.tmod (i : Int) (m : Int) = ((i % m : Nat) : Int) := rfl
  have hm0 : ¬ (m : Int) = 0 := by omega
  have hal : i / m ≤ 64 := Nat.le_trans (Nat.div_le_self _ _) (by omega)
  have hbl : i % m < m := Nat.mod_lt _ (by omega)
  have hma : 0 < i / m → m ≤ i := fun h => (Nat.div_pos_iff.1 h).2
  have hmb : 0 < i % m → 1 ≤ i := fun h => Nat.le_trans h (Nat.mod_le _ _)
  obtain ⟨L1, HL1⟩ : ∃ L, Hid (upI (if 0 < i / m then [i - m] else []) = L) := ⟨_, rfl⟩
  obtain ⟨L2, HL2⟩ : ∃ L, Hid (L1 ++ upI (if 0 < i % m then [i - 1] else []) = L) := ⟨_, rfl⟩
  obtain ⟨L3, HL3⟩ : ∃ L, Hid (L2 ++ upI (if i % m + 1 < m then [i + 1] else []) = L) := ⟨_, rfl⟩
  have HL4 := Lib.hid (show L3 ++ upI (if i / m + 1 < k then [i + m] else []) = upI (nextM m k i) by
    rw [← HL3.out, ← HL2.out, ← HL1.out]
    simp only [nextM, upI, List.map_append, List.append_assoc])
  have l1 : L1.length ≤ 1 := by rw [← HL1.out, upI_len]; split <;> simp
  have l2 : L2.length ≤ 2 := by rw [← HL2.out, List.length_append, upI_len]; split <;> simp <;> omega
  have l3 : L3.length ≤ 3 := by rw [← HL3.out, List.length_append, upI_len]; split <;> simp <;> omega
  generalize i / m = a at *
  generalize i % m = b at *
  have hwa : wrap64 (a : Int) = (a : Int) := by unfold wrap64; omega
  go_enter Try.func75, Try.ntmps75
  go_wp2
  go_quiet (fail)
  simp only [hwa]
  clear hq hr hwa
  have hb0 : Below w.heap.size w (((w.alloc (.cells #[.int .i64 m, .int .i64 k, v] 26)).drewN nq).alloc (.cells #[] 3)) := (belowN ((Below.refl _ _).alloc (Nat.le_refl _) _) nq).alloc (by simp) _
  have o0 : Own (((w.alloc (.cells #[.int .i64 m, .int .i64 k, v] 26)).drewN nq).alloc (.cells #[] 3)) w.heap.size (.slice (some ⟨w.heap.size + 1, 0, none⟩) 0 0) [] := by simpa using Own.empty (w := (w.alloc (.cells #[.int .i64 m, .int .i64 k, v] 26)).drewN nq) (lo := w.heap.size) (by simp)
  replace x0 : Blk (((w.alloc (.cells #[.int .i64 m, .int .i64 k, v] 26)).drewN nq).alloc (.cells #[] 3)) w.heap.size 26 #[.int .i64 m, .int .i64 k, v] := Blk.alloc (w := (w.alloc (.cells #[.int .i64 m, .int .i64 k, v] 26)).drewN nq) x0 _
  clear e0 e1
  go_upto_if 18 with fail
  generalize ((w.alloc (.cells #[.int .i64 m, .int .i64 k, v] 26)).drewN nq).alloc (.cells #[] 3) = wc at *
  go_cut [7] from 17 to 25 (fun t wx => NxS w m k v (L1) t wx)
  case first =>
    have e0 := x0.cell 0
    have e1 := x0.cell 1
    have hz := hb0.size
    by_cases h1 : 0 < a
    · have hu : m ≤ i := hma h1
      have HX := Lib.hid (show ([] : List Int) ++ [((i : Int) - (m : Int))] = L1 by rw [← HL1.out, if_pos h1]; simp [upI]; try omega)
      have hln : (([] : List Int)).length ≤ 1073741824 := by simp
      go_wp2_with (at_builtin; refine wpList_append_one wc rfl (.tmp 19) (.tmp 24) 24 rfl Try.underlying24 info_int w.heap.size _ ([] : List Int) (((i : Int) - (m : Int))) rfl rfl o0 hln ⟨by omega, by omega⟩ hz ?_)
      intro A9 c9 w9 ho9 hg9
      have HP := nxs_put o0 x0 hb0 ho9 hg9
      rw [HX.out] at HP
      clear hg9 ho9 e0 e1 o0 x0 hb0
      go_wp2_with fail
      go_meet
      case rel => exact HP
    · have HX := Lib.hid (show ([] : List Int) = L1 by rw [← HL1.out, if_neg h1]; simp [upI])
      go_wp2_with fail
      go_meet
      case rel => exact ⟨_, _, by rw [← HX.out] <;> rfl, by rw [← HX.out]; exact o0, x0, hb0⟩
  case rest =>
    clear o0 x0 hb0
    obtain ⟨A1, c1, rfl, o1, x1, hb1⟩ := hcut
    have e0 := x1.cell 0
    have e1 := x1.cell 1
    go_upto_if 27 with fail
    clear e0 e1
    go_cut [7] from 26 to 32 (fun t wx => NxS w m k v (L2) t wx)
    case first =>
      have e0 := x1.cell 0
      have e1 := x1.cell 1
      have hz := hb1.size
      by_cases h1 : 0 < b
      · have hu : 1 ≤ i := hmb h1
        have HX := Lib.hid (show L1 ++ [((i : Int) - 1)] = L2 by rw [← HL2.out, if_pos h1]; simp [upI]; try omega)
        have hln : (L1).length ≤ 1073741824 := by omega
        go_wp2_with (at_builtin; refine wpList_append_one wc rfl (.tmp 28) (.tmp 31) 24 rfl Try.underlying24 info_int w.heap.size _ L1 (((i : Int) - 1)) rfl rfl o1 hln ⟨by omega, by omega⟩ hz ?_)
        intro A9 c9 w9 ho9 hg9
        have HP := nxs_put o1 x1 hb1 ho9 hg9
        rw [HX.out] at HP
        clear hg9 ho9 e0 e1 o1 x1 hb1
        go_wp2_with fail
        go_meet
        case rel => exact HP
      · have HX := Lib.hid (show L1 = L2 by rw [← HL2.out, if_neg h1]; simp [upI])
        go_wp2_with fail
        go_meet
        case rel => exact ⟨_, _, by rw [← HX.out] <;> rfl, by rw [← HX.out]; exact o1, x1, hb1⟩
    case rest =>
      clear o1 x1 hb1
      obtain ⟨A2, c2, rfl, o2, x2, hb2⟩ := hcut
      have e0 := x2.cell 0
      have e1 := x2.cell 1
      go_upto_if 37 with fail
      clear e0 e1
      go_cut [7] from 33 to 42 (fun t wx => NxS w m k v (L3) t wx)
      case first =>
        have e0 := x2.cell 0
        have e1 := x2.cell 1
        have hz := hb2.size
        by_cases h1 : b + 1 < m
        · have hu : True := trivial
          have HX := Lib.hid (show L2 ++ [((i : Int) + 1)] = L3 by rw [← HL3.out, if_pos h1]; simp [upI]; try omega)
          have hln : (L2).length ≤ 1073741824 := by omega
          go_wp2_with (at_builtin; refine wpList_append_one wc rfl (.tmp 38) (.tmp 41) 24 rfl Try.underlying24 info_int w.heap.size _ L2 (((i : Int) + 1)) rfl rfl o2 hln ⟨by omega, by omega⟩ hz ?_)
          intro A9 c9 w9 ho9 hg9
          have HP := nxs_put o2 x2 hb2 ho9 hg9
          rw [HX.out] at HP
          clear hg9 ho9 e0 e1 o2 x2 hb2
          go_wp2_with fail
          go_meet
          case rel => exact HP
        · have HX := Lib.hid (show L2 = L3 by rw [← HL3.out, if_neg h1]; simp [upI])
          go_wp2_with fail
          go_meet
          case rel => exact ⟨_, _, by rw [← HX.out] <;> rfl, by rw [← HX.out]; exact o2, x2, hb2⟩
      case rest =>
        clear o2 x2 hb2
        obtain ⟨A3, c3, rfl, o3, x3, hb3⟩ := hcut
        have e0 := x3.cell 0
        have e1 := x3.cell 1
        go_upto_if 47 with fail
        clear e0 e1
        go_cut [7] from 43 to 54 (fun t wx => NxS w m k v (upI (nextM m k i)) t wx)
        case first =>
          have e0 := x3.cell 0
          have e1 := x3.cell 1
          have hz := hb3.size
          by_cases h1 : a + 1 < k
          · have hu : True := trivial
            have HX := Lib.hid (show L3 ++ [((i : Int) + (m : Int))] = upI (nextM m k i) by rw [← HL4.out, if_pos h1]; simp [upI]; try omega)
            have hln : (L3).length ≤ 1073741824 := by omega
            go_wp2_with (at_builtin; refine wpList_append_one wc rfl (.tmp 48) (.tmp 53) 24 rfl Try.underlying24 info_int w.heap.size _ L3 (((i : Int) + (m : Int))) rfl rfl o3 hln ⟨by omega, by omega⟩ hz ?_)
            intro A9 c9 w9 ho9 hg9
            have HP := nxs_put o3 x3 hb3 ho9 hg9
            rw [HX.out] at HP
            clear hg9 ho9 e0 e1 o3 x3 hb3
            go_wp2_with fail
            go_meet
            case rel => exact HP
          · have HX := Lib.hid (show L3 = upI (nextM m k i) by rw [← HL4.out, if_neg h1]; simp [upI])
            go_wp2_with fail
            go_meet
            case rel => exact ⟨_, _, by rw [← HX.out] <;> rfl, by rw [← HX.out]; exact o3, x3, hb3⟩
        case rest =>
          clear o3 x3 hb3
          obtain ⟨A4, c4, rfl, o4, x4, hb4⟩ := hcut
          go_wp2
          go_ret
          exact ⟨A4, c4, rfl, o4, hb4⟩
end Go.Proofs.Ytpnmnkdnlajfiaa
