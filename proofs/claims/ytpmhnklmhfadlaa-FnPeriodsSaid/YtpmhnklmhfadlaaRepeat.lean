/- The walks of slices.Repeat over numbers and over charts. Condition: at least one element and one copy, few altogether. -/
import Derived.Test.YtpmhnklmhfadlaaMgSeq
import Derived.Test.YtpmhnklmhfadlaaMgPlm
import Derived.Test.YtpmhnklmhfadlaaShelf
namespace Go.Proofs.Ytpmhnklmhfadlaa
open Go.RowKit

theorem mul_eq (x y N : Nat) (w : World) (h : x * y = N) (hN : N ≤ 4096) (hx : x < 18446744073709551616) (hy : y < 18446744073709551616) :
    Calls Try.prog 67 #[.int .u64 x, .int .u64 y] w fun e w' => e = .returned (.tuple #[.int .u64 0, .int .u64 N]) ∧ w = w' := by
  refine (Try.bits_Mul x y hx hy w).mono ?_
  rintro e w' ⟨rfl, rfl⟩
  refine ⟨?_, rfl⟩
  rw [h, Nat.div_eq_of_lt (by omega), Nat.mod_eq_of_lt (by omega)]
  rfl
def RepOut {α : Type} (F : Flat α) (w : World) (ys : List α) (e : Ending) (w' : World) : Prop :=
  ∃ g, e = .returned (.slice (some ⟨g, 0, none⟩) ys.length ys.length) ∧ OwnF F w' w.heap.size (.slice (some ⟨g, 0, none⟩) ys.length ys.length) ys ∧ Below w.heap.size w w'
set_option maxRecDepth 100000 in
set_option maxHeartbeats 4000000 in
theorem repeatI_any (b off c B m : Nat) (xs : List Int) (w : World) (h : RdF intF w B (some ⟨b, off, none⟩) xs.length c xs) (hB : B ≤ w.heap.size) (h1 : 1 ≤ xs.length) (hm : 1 ≤ m) (hNm : m * xs.length ≤ 4096) :
    Calls Try.prog 42 #[.slice (some ⟨b, off, none⟩) xs.length c, .int .i64 m] w (RepOut intF w (repT xs m)) := by
  obtain ⟨i0, hi, hz0, hz1, hz2⟩ := info_parts info_int
  have hsz : (Try.prog.info? intF.t).map (·.size) = some intF.k := by rw [show intF.t = 3 from rfl, hi]; exact congrArg some hz1
  obtain ⟨N, hN⟩ : ∃ N, N = m * xs.length := ⟨_, rfl⟩
  have hxN : xs.length ≤ N := by rw [hN]; exact Nat.le_mul_of_pos_left _ hm
  have hmN : m ≤ N := by rw [hN]; exact Nat.le_mul_of_pos_right _ h1
  have HN := Lib.hid hN
  have hN4 : N ≤ 4096 := by rw [hN]; exact hNm
  clear hN hNm
  have hwn : IntKind.u64.wrap (xs.length : Int) = (xs.length : Int) := by have e : IntKind.u64.wrap (xs.length : Int) = (xs.length : Int) % 18446744073709551616 := rfl; rw [e]; omega
  have hwm : IntKind.u64.wrap (m : Int) = (m : Int) := by have e : IntKind.u64.wrap (m : Int) = (m : Int) % 18446744073709551616 := rfl; rw [e]; omega
  have hwN : IntKind.i64.wrap (N : Int) = (N : Int) := IntWalk.i64_in _ (by omega)
  have hz1' : (intF.k) = 1 := rfl
  go_enter Try.func42, Try.ntmps42
  go_wp2_with (first | (go_at_call 67; (with_reducible refine (mul_eq xs.length m N _ ((Nat.mul_comm _ _).trans HN.out.symm) hN4 (by omega) (by omega)).mono ?_); rintro e w' ⟨rfl, rfl⟩) | (at_make; refine wpList_make_full _ rfl _ _ 24 rfl w.heap.size 3 i0 (.int .i64 0) 1 Try.underlying24 hi hz0 hz1 _ _ _ _ N rfl rfl rfl rfl (by rw [hz2]; omega) (by unfold maxLen; omega) (Nat.le_refl _) ?_))
  intro w1 hown0 hg0
  have ho : OwnF intF w1 w.heap.size (.slice (some ⟨w.heap.size, 0, none⟩) N N) (List.replicate N (0 : Int)) := by
    refine ⟨?_, fun x hx => ?_⟩
    · have e := flat_made intF (cs := #[.int .i64 0]) (z := 0) (by decide) rfl N
      rw [List.length_replicate, ← e]
      first | exact hown0 | (rw [show N * intF.k = N from Nat.mul_one N]; exact hown0)
    · rw [List.mem_replicate] at hx
      rw [hx.2]; exact ⟨by omega, by omega⟩
  have HB1 := Lib.hid ((Below.refl w.heap.size w).grown hg0 (Nat.le_refl _) (fun k hk => by cases hk))
  have h' := h.mark hg0 (fun k hk => by cases hk) hB
  have hlz := Lib.hid (show (List.replicate N (0 : Int)).length = N from List.length_replicate)
  have hmin := Lib.hid (show Nat.min xs.length N = xs.length from Nat.min_eq_left hxN)
  have htk := Lib.hid (show xs = xs.take xs.length from (List.take_of_length_le (Nat.le_refl _)).symm)
  have hfit := Lib.hid (show 0 + xs.length ≤ (List.replicate N (0 : Int)).length by rw [hlz.out]; omega)
  clear hown0 hg0 h
  go_wp2_with (refine wpList_copyF intF rfl _ (.tmp 31) (.tmp 32) 24 24 rfl Try.underlying24 hsz (by decide) w.heap.size w.heap.size N N 0 0 N N xs.length c xs.length b off B (List.replicate N (0 : Int)) xs xs rfl rfl rfl hlz.out ho h' hmin.out htk.out hfit.out ?_)
  intro w2 o2 hg2
  have HB2 := Lib.hid (HB1.out.grown hg2 HB1.out.size (fun k hk => by cases hk; exact Nat.le_refl _))
  have hrep := Lib.hid (show RepTo xs m xs.length (splice (List.replicate N (0 : Int)) 0 xs) from rep_first (by rw [hlz.out]; exact HN.out) hm)
  clear ho HB1 h' hg2 htk hfit hlz hmin
  generalize splice (List.replicate N (0 : Int)) 0 xs = z2 at *
  go_wp2
  go_loopw [8] (fun s8 wr => ∃ (q : Nat) (zs : List Int), s8 = .int .i64 q ∧ xs.length ≤ q ∧ q ≤ N ∧ Hid (RepTo xs m q zs) ∧ OwnF intF wr w.heap.size (.slice (some ⟨w.heap.size, 0, none⟩) N N) zs ∧ Hid (Below w.heap.size w wr)) (fun s8 _ => N - (intOf s8).toNat)
  case atStart => exact ⟨xs.length, z2, rfl, Nat.le_refl _, hxN, hrep, o2, HB2⟩
  case round =>
    clear hrep o2 HB2
    obtain ⟨q, zs, rfl, hq1, hqN, hrep, ho, HB⟩ := hrel
    by_cases hlt : q < N
    · obtain ⟨p, hp⟩ : ∃ p, p = Nat.min q (N - q) := ⟨_, rfl⟩
      have hp1 : p ≤ q := by rw [hp]; exact Nat.min_le_left _ _
      have hp2 : p ≤ N - q := by rw [hp]; exact Nat.min_le_right _ _
      have hp3 : p = q ∨ p = N - q := by
        rw [hp]
        rcases Nat.le_total q (N - q) with h | h
        · exact .inl (Nat.min_eq_left h)
        · exact .inr (Nat.min_eq_right h)
      have hp0 : 1 ≤ p := by omega
      have HP := Lib.hid hp.symm
      clear hp
      have hzN := Lib.hid (show zs.length = N from hrep.out.1.trans HN.out.symm)
      have hqi : IntKind.i64.wrap ((q : Int) + (p : Int)) = (q : Int) + (p : Int) := IntWalk.i64_in _ (by omega)
      obtain ⟨row, hrow⟩ : ∃ row, Hid (row = zs.take p) := ⟨_, rfl⟩
      have hst := Lib.hid (show RepTo xs m (q + p) (splice zs q row) by
        rw [hrow.out]
        obtain ⟨d, hd | hd⟩ := hrep.out.2.1
        · exact rep_step hrep.out hd hp1 (by rcases hp3 with e | e; exact .inl e; exact .inr (by rw [← HN.out]; omega)) (by rw [← HN.out]; omega)
        · exact absurd hd (by rw [← HN.out]; omega))
      have hrow' := Lib.hid (show row = (zs.take q).take p by rw [hrow.out, List.take_take, Nat.min_eq_left hp1])
      have hne : ¬ N = q := by omega
      have hfit := Lib.hid (show q + p ≤ zs.length by rw [hzN.out]; omega)
      have hrd := (ho.rd.head (q := q) hqN).drew
      have hod := ho.drew
      have hat := Lib.hid (show q = q * intF.k from (Nat.mul_one q).symm)
      clear hp3 hrow hrep
      go_wp2
      go_region_law (refine step_copyF intF rfl (.tmp 41) (.tmp 44) 24 24 rfl Try.underlying24 hsz (by decide) w.heap.size w.heap.size N N q (q) (N - q) (N - q) q N p w.heap.size 0 wr.heap.size zs (zs.take q) row (by simp [Act.eval, Act.put]) (by simp [Act.eval, Act.put]) hat.out hzN.out hod hrd HP.out hrow'.out hfit.out ?_; intro w5 o5 hg5; have HB5 := Lib.hid ((belowD HB.out).grown hg5 HB.out.size (fun k hk => by cases hk; exact Nat.le_refl _)))
      clear hod hrd ho HB hrow' hfit HP
      (try simp only [Act.put, List.getElem_toArray, List.getElem_cons_zero, List.getElem_cons_succ, List.setIfInBounds_toArray, List.set_cons_zero, List.set_cons_succ])
      go_wp2
      go_roundw
      case rel => exact ⟨q + p, _, by go_num, by omega, by omega, hst, o5, HB5⟩
      case measure => simp [intOf]; omega
    · obtain rfl : q = N := by omega
      have e := rep_end (HN.out ▸ hrep.out)
      rw [e] at ho
      go_wp2
      go_ret
      refine ⟨w.heap.size, ?_, ?_, HB.out⟩
      · rw [repT_len, ← HN.out]; rfl
      · rw [repT_len, ← HN.out]; exact ho
set_option maxRecDepth 100000 in
set_option maxHeartbeats 4000000 in
theorem repeatC_any (b off c B m : Nat) (xs : List ChR) (w : World) (h : RdF chartsF w B (some ⟨b, off, none⟩) xs.length c xs) (hB : B ≤ w.heap.size) (h1 : 1 ≤ xs.length) (hm : 1 ≤ m) (hNm : m * xs.length ≤ 4096) :
    Calls Try.prog 40 #[.slice (some ⟨b, off, none⟩) xs.length c, .int .i64 m] w (RepOut chartsF w (repT xs m)) := by
  obtain ⟨i0, hi, hz0, hz1, hz2⟩ := info_parts info_Chart6
  have hsz : (Try.prog.info? chartsF.t).map (·.size) = some chartsF.k := by rw [show chartsF.t = 26 from rfl, hi]; exact congrArg some hz1
  obtain ⟨N, hN⟩ : ∃ N, N = m * xs.length := ⟨_, rfl⟩
  have hxN : xs.length ≤ N := by rw [hN]; exact Nat.le_mul_of_pos_left _ hm
  have hmN : m ≤ N := by rw [hN]; exact Nat.le_mul_of_pos_right _ h1
  have HN := Lib.hid hN
  have hN4 : N ≤ 4096 := by rw [hN]; exact hNm
  clear hN hNm
  have hwn : IntKind.u64.wrap (xs.length : Int) = (xs.length : Int) := by have e : IntKind.u64.wrap (xs.length : Int) = (xs.length : Int) % 18446744073709551616 := rfl; rw [e]; omega
  have hwm : IntKind.u64.wrap (m : Int) = (m : Int) := by have e : IntKind.u64.wrap (m : Int) = (m : Int) % 18446744073709551616 := rfl; rw [e]; omega
  have hwN : IntKind.i64.wrap (N : Int) = (N : Int) := IntWalk.i64_in _ (by omega)
  have hz1' : (chartsF.k) = 3 := rfl
  go_enter Try.func40, Try.ntmps40
  go_wp2_with (first | (go_at_call 67; (with_reducible refine (mul_eq xs.length m N _ ((Nat.mul_comm _ _).trans HN.out.symm) hN4 (by omega) (by omega)).mono ?_); rintro e w' ⟨rfl, rfl⟩) | (at_make; refine wpList_make_full _ rfl _ _ 51 rfl w.heap.size 26 i0 (.agg #[.int .i64 0, .int .i64 0, .slice none 0 0]) 3 Try.underlying51 hi hz0 hz1 _ _ _ _ N rfl rfl rfl rfl (by rw [hz2]; omega) (by unfold maxLen; omega) (Nat.le_refl _) ?_))
  intro w1 hown0 hg0
  have ho : OwnF chartsF w1 w.heap.size (.slice (some ⟨w.heap.size, 0, none⟩) N N) (List.replicate N (⟨0, 0, none, 0, 0⟩ : ChR)) := by
    refine ⟨?_, fun x hx => ?_⟩
    · have e := flat_made chartsF (cs := #[.int .i64 0, .int .i64 0, .slice none 0 0]) (z := (⟨0, 0, none, 0, 0⟩ : ChR)) (by decide) rfl N
      rw [List.length_replicate, ← e]
      first | exact hown0 | (rw [show N * intF.k = N from Nat.mul_one N]; exact hown0)
    · rw [List.mem_replicate] at hx
      rw [hx.2]; exact trivial
  have HB1 := Lib.hid ((Below.refl w.heap.size w).grown hg0 (Nat.le_refl _) (fun k hk => by cases hk))
  have h' := h.mark hg0 (fun k hk => by cases hk) hB
  have hlz := Lib.hid (show (List.replicate N (⟨0, 0, none, 0, 0⟩ : ChR)).length = N from List.length_replicate)
  have hmin := Lib.hid (show Nat.min xs.length N = xs.length from Nat.min_eq_left hxN)
  have htk := Lib.hid (show xs = xs.take xs.length from (List.take_of_length_le (Nat.le_refl _)).symm)
  have hfit := Lib.hid (show 0 + xs.length ≤ (List.replicate N (⟨0, 0, none, 0, 0⟩ : ChR)).length by rw [hlz.out]; omega)
  clear hown0 hg0 h
  go_wp2_with (refine wpList_copyF chartsF rfl _ (.tmp 31) (.tmp 32) 51 51 rfl Try.underlying51 hsz (by decide) w.heap.size w.heap.size N N 0 0 N N xs.length c xs.length b off B (List.replicate N (⟨0, 0, none, 0, 0⟩ : ChR)) xs xs rfl rfl rfl hlz.out ho h' hmin.out htk.out hfit.out ?_)
  intro w2 o2 hg2
  have HB2 := Lib.hid (HB1.out.grown hg2 HB1.out.size (fun k hk => by cases hk; exact Nat.le_refl _))
  have hrep := Lib.hid (show RepTo xs m xs.length (splice (List.replicate N (⟨0, 0, none, 0, 0⟩ : ChR)) 0 xs) from rep_first (by rw [hlz.out]; exact HN.out) hm)
  clear ho HB1 h' hg2 htk hfit hlz hmin
  generalize splice (List.replicate N (⟨0, 0, none, 0, 0⟩ : ChR)) 0 xs = z2 at *
  go_wp2
  go_loopw [8] (fun s8 wr => ∃ (q : Nat) (zs : List ChR), s8 = .int .i64 q ∧ xs.length ≤ q ∧ q ≤ N ∧ Hid (RepTo xs m q zs) ∧ OwnF chartsF wr w.heap.size (.slice (some ⟨w.heap.size, 0, none⟩) N N) zs ∧ Hid (Below w.heap.size w wr)) (fun s8 _ => N - (intOf s8).toNat)
  case atStart => exact ⟨xs.length, z2, rfl, Nat.le_refl _, hxN, hrep, o2, HB2⟩
  case round =>
    clear hrep o2 HB2
    obtain ⟨q, zs, rfl, hq1, hqN, hrep, ho, HB⟩ := hrel
    by_cases hlt : q < N
    · obtain ⟨p, hp⟩ : ∃ p, p = Nat.min q (N - q) := ⟨_, rfl⟩
      have hp1 : p ≤ q := by rw [hp]; exact Nat.min_le_left _ _
      have hp2 : p ≤ N - q := by rw [hp]; exact Nat.min_le_right _ _
      have hp3 : p = q ∨ p = N - q := by
        rw [hp]
        rcases Nat.le_total q (N - q) with h | h
        · exact .inl (Nat.min_eq_left h)
        · exact .inr (Nat.min_eq_right h)
      have hp0 : 1 ≤ p := by omega
      have HP := Lib.hid hp.symm
      clear hp
      have hzN := Lib.hid (show zs.length = N from hrep.out.1.trans HN.out.symm)
      have hqi : IntKind.i64.wrap ((q : Int) + (p : Int)) = (q : Int) + (p : Int) := IntWalk.i64_in _ (by omega)
      obtain ⟨row, hrow⟩ : ∃ row, Hid (row = zs.take p) := ⟨_, rfl⟩
      have hst := Lib.hid (show RepTo xs m (q + p) (splice zs q row) by
        rw [hrow.out]
        obtain ⟨d, hd | hd⟩ := hrep.out.2.1
        · exact rep_step hrep.out hd hp1 (by rcases hp3 with e | e; exact .inl e; exact .inr (by rw [← HN.out]; omega)) (by rw [← HN.out]; omega)
        · exact absurd hd (by rw [← HN.out]; omega))
      have hrow' := Lib.hid (show row = (zs.take q).take p by rw [hrow.out, List.take_take, Nat.min_eq_left hp1])
      have hne : ¬ N = q := by omega
      have hfit := Lib.hid (show q + p ≤ zs.length by rw [hzN.out]; omega)
      have hrd := (ho.rd.head (q := q) hqN).drew
      have hod := ho.drew
      have hat := Lib.hid (show q * 3 = q * chartsF.k from rfl)
      clear hp3 hrow hrep
      go_wp2
      go_region_law (refine step_copyF chartsF rfl (.tmp 41) (.tmp 44) 51 51 rfl Try.underlying51 hsz (by decide) w.heap.size w.heap.size N N q (q * 3) (N - q) (N - q) q N p w.heap.size 0 wr.heap.size zs (zs.take q) row (by simp [Act.eval, Act.put]) (by simp [Act.eval, Act.put]) hat.out hzN.out hod hrd HP.out hrow'.out hfit.out ?_; intro w5 o5 hg5; have HB5 := Lib.hid ((belowD HB.out).grown hg5 HB.out.size (fun k hk => by cases hk; exact Nat.le_refl _)))
      clear hod hrd ho HB hrow' hfit HP
      (try simp only [Act.put, List.getElem_toArray, List.getElem_cons_zero, List.getElem_cons_succ, List.setIfInBounds_toArray, List.set_cons_zero, List.set_cons_succ])
      go_wp2
      go_roundw
      case rel => exact ⟨q + p, _, by go_num, by omega, by omega, hst, o5, HB5⟩
      case measure => simp [intOf]; omega
    · obtain rfl : q = N := by omega
      have e := rep_end (HN.out ▸ hrep.out)
      rw [e] at ho
      go_wp2
      go_ret
      refine ⟨w.heap.size, ?_, ?_, HB.out⟩
      · rw [repT_len, ← HN.out]; rfl
      · rw [repT_len, ← HN.out]; exact ho
end Go.Proofs.Ytpmhnklmhfadlaa
