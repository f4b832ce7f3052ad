/- The walk that makes a group of weavers out of bits. Condition: at most 8 weavers. -/
import Derived.Test.YtanfblpibomfaaaKnots11
import Derived.Test.YtanfblpibomfaaaFewMath
namespace Go.Proofs.Ytanfblpibomfaaa
open Go.RowKit

/-- What a call leaves that answers numbers of its own and a number. -/
def OutIntsN (w : World) (ys : List Int) (t : Int) (e : Ending) (w' : World) : Prop :=
  ∃ A c, e = .returned (.tuple #[.slice A ys.length c, .int .i64 t]) ∧ Own w' w.heap.size (.slice A ys.length c) ys ∧ Below w.heap.size w w'
theorem bit_one (q : Nat) (hq : q ≤ 1000000) : bits .and .i64 (q : Int) 1 = ((q % 2 : Nat) : Int) := by
  have h := (bits_nat .i64 60 (by decide) (fun n h0 h1 => IntWalk.i64_in _ (by omega)) q 1 (by omega) (by omega)).1
  rw [Nat.and_one_is_mod] at h
  exact h
theorem grpIds_drop {xs : List WeaverR} {k q : Nat} {a : WeaverR} (ha : xs[k]? = some a) : grpIds (xs.drop k) q = if q % 2 = 1 then a.f0 :: grpIds (xs.drop (k + 1)) (q / 2) else grpIds (xs.drop (k + 1)) (q / 2) := by
  obtain ⟨hlt, e⟩ := List.getElem?_eq_some_iff.1 ha
  rw [List.drop_eq_getElem_cons hlt, e]
  rfl
theorem grpSk_drop {xs : List WeaverR} {k q : Nat} {a : WeaverR} {t : Int} (ha : xs[k]? = some a) : grpSk (xs.drop k) q t = grpSk (xs.drop (k + 1)) (q / 2) (if q % 2 = 1 then orI t a.f2 else t) := by
  obtain ⟨hlt, e⟩ := List.getElem?_eq_some_iff.1 ha
  rw [List.drop_eq_getElem_cons hlt, e]
  rfl
theorem half_pow (s k : Nat) : s / 2 ^ k / 2 = s / 2 ^ (k + 1) := by rw [Nat.div_div_eq_div_mul, Nat.pow_succ]
set_option maxRecDepth 100000 in
set_option maxHeartbeats 4000000 in
theorem groupOf_any (A : Option Addr) (n c B : Nat) (xs : List WeaverR) (s : Nat) (w : World) (ids : List Int) (tg : Int) (h : RdF weaverF w B A n c xs) (hB : B ≤ w.heap.size) (hn : n ≤ 8) (hs : s ≤ 1000) (hF : Hid (Fast xs)) (hi : Hid (grpIds xs s = ids)) (ht : Hid (grpSk xs s 0 = tg)) :
    Calls Try.prog 58 #[.slice A n c, .int .i64 (s : Int)] w (OutIntsN w ids tg) := by
  obtain rfl := h.len
  have hs0 : (0 : Int) ≤ (s : Int) := by omega
  go_enter Try.func58, Try.ntmps58
  go_wp2
  go_loopw [12, 6, 7] (fun i v r wr => ∃ (k m : Nat) (ys : List Int) (A' : Option Addr) (c' : Nat) (t : Int), k ≤ xs.length ∧ i = .int .i64 k ∧ v = .slice A' m c' ∧ r = .int .i64 t ∧ Hid (ys.length = m) ∧ m ≤ k ∧ Own wr w.heap.size (.slice A' m c') ys ∧ In15 t ∧ Hid (ys ++ grpIds (xs.drop k) (s / 2 ^ k) = ids) ∧ Hid (grpSk (xs.drop k) (s / 2 ^ k) t = tg) ∧ Below w.heap.size w wr) (fun i _ _ _ => xs.length - (intOf i).toNat)
  case atStart => exact ⟨0, 0, [], none, 0, 0, Nat.zero_le _, rfl, rfl, rfl, Lib.hid rfl, Nat.le_refl _, Own.nil _ _, ⟨by omega, by omega⟩, Lib.hid (by simpa using hi.out), Lib.hid (by simpa using ht.out), Below.refl _ _⟩
  case round =>
    obtain ⟨k, m, ys, A', c', t, hk, rfl, rfl, rfl, HL, hmk, own, h15, HY, HT, hb⟩ := hrel
    have hzz := hb.size
    by_cases hlt : k < xs.length
    · obtain ⟨b, off, a, rfl, hbB, ok, HX, hc0, hc1, hc2, hc3, hc4⟩ := WeaverR_at (F := weaverF) rfl (fun _ => rfl) (fun _ => rfl) (h.below hb hB) hlt
      have HD := Lib.hid (grpIds_drop (q := s / 2 ^ k) HX.out)
      have HS := Lib.hid (grpSk_drop (q := s / 2 ^ k) (t := t) HX.out)
      obtain ⟨_, ha15⟩ := fast_at hF.out HX.out
      have x9 := Blk.new wr #[.int .i64 a.f0, .string a.f1, .int .i64 a.f2, .int .i64 a.f3, .int .i64 a.f4] 40
      have own9 := own.alloc (.cells #[.int .i64 a.f0, .string a.f1, .int .i64 a.f2, .int .i64 a.f3, .int .i64 a.f4] 40)
      have HB := hb.alloc hzz (.cells #[.int .i64 a.f0, .string a.f1, .int .i64 a.f2, .int .i64 a.f3, .int .i64 a.f4] 40)
      have hz9 : w.heap.size ≤ (wr.alloc (.cells #[.int .i64 a.f0, .string a.f1, .int .i64 a.f2, .int .i64 a.f3, .int .i64 a.f4] 40)).heap.size := HB.size
      have hid := ok.1
      have hk0 : (0 : Int) ≤ (k : Int) := by omega
      have hk64 : (k : Int) ≤ 64 := by omega
      have hq := Lib.hid (bit_one (s / 2 ^ k) (Nat.le_trans (Nat.div_le_self _ _) (by omega)))
      have hcast : ((s / 2 ^ k : Nat) : Int) = (s : Int) / 2 ^ k := by rw [Int.natCast_ediv]; simp
      rw [hcast] at hq
      clear hb own hcast
      by_cases hod : s / 2 ^ k % 2 = 1
      · have HN := Lib.hid (show (ys ++ [a.f0]) ++ grpIds (xs.drop (k + 1)) (s / 2 ^ (k + 1)) = ids by rw [← HY.out, HD.out, if_pos hod, half_pow, List.append_assoc]; rfl)
        have HM := Lib.hid (show grpSk (xs.drop (k + 1)) (s / 2 ^ (k + 1)) (orI t a.f2) = tg by rw [← HT.out, HS.out, if_pos hod, half_pow])
        have hor := orI_in h15 ha15
        have hb1 : (bits BinOp.and IntKind.i64 ((s : Int) / 2 ^ k) 1 == 1) = true := by rw [hq.out, hod]; rfl
        clear hod
        go_upto_region 7 with fail
        clear hc0 hc1 hc2 hc3 hc4
        generalize wr.alloc (.cells #[.int .i64 a.f0, .string a.f1, .int .i64 a.f2, .int .i64 a.f3, .int .i64 a.f4] 40) = W7 at *
        generalize wr.heap.size = P at *
        have e70 := x9.cell 0
        have e71 := x9.cell 1
        have e72 := x9.cell 2
        have e73 := x9.cell 3
        have e74 := x9.cell 4
        have hzP := x9.lt
        go_wp2_with (at_builtin; refine wpList_append_one W7 rfl (.tmp 22) (.tmp 25) 35 rfl Try.underlying35 info_int w.heap.size _ ys a.f0 rfl rfl own9 (by rw [HL.out]; omega) hid hz9 ?_)
        intro A2 c2 w8 own8 hg8
        have x10 := x9.mark hg8 (row_ne own9.1 x9 (by decide))
        have HB8 := HB.grown hg8 HB.size (fun j hj => (own9.bd j hj).1)
        have e82 := x10.cell 2
        clear hg8 e70 e71 e72 e73 e74
        go_wp2
        go_roundw
        case rel => exact ⟨k + 1, ys.length + 1, ys ++ [a.f0], A2, c2, orI t a.f2, by omega, by go_num, rfl, rfl, Lib.hid (by simp), by have := HL.out; omega, own8, hor, HN, HM, HB8⟩
        case measure => simp [intOf]; omega
      · have HN := Lib.hid (show ys ++ grpIds (xs.drop (k + 1)) (s / 2 ^ (k + 1)) = ids by rw [← HY.out, HD.out, if_neg hod, half_pow])
        have HM := Lib.hid (show grpSk (xs.drop (k + 1)) (s / 2 ^ (k + 1)) t = tg by rw [← HT.out, HS.out, if_neg hod, half_pow])
        have hb1 : (bits BinOp.and IntKind.i64 ((s : Int) / 2 ^ k) 1 == 1) = false := by rw [hq.out, show s / 2 ^ k % 2 = 0 by omega]; rfl
        clear hod
        go_wp2
        go_roundw
        case rel => exact ⟨k + 1, m, ys, A', c', t, by omega, by go_num, rfl, rfl, HL, by omega, own9, h15, HN, HM, HB⟩
        case measure => simp [intOf]; omega
    · obtain rfl : k = xs.length := by omega
      have HE := Lib.hid (show ys = ids by have := HY.out; rwa [List.drop_length, show grpIds [] _ = [] from rfl, List.append_nil] at this)
      have HE2 := Lib.hid (show t = tg by have := HT.out; rwa [List.drop_length] at this)
      go_wp2
      go_ret2
      exact ⟨A', c', by rw [← HE.out, HL.out, ← HE2.out]; rfl, by rw [← HE.out, HL.out]; exact own, hb⟩
end Go.Proofs.Ytanfblpibomfaaa
