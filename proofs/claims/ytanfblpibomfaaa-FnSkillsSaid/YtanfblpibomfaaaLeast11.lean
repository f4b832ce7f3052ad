/- The walk of the model's FewestFor. No condition. -/
import Derived.Test.YtanfblpibomfaaaFew11
namespace Go.Proofs.Ytanfblpibomfaaa
open Go.RowKit

/-- A list that may be wanting, as an answer. -/
def leastR (o : Option (List Int)) : List Int × Bool := match o with | some r => (r, true) | none => ([], false)
/-- What a call leaves that answers numbers of its own, never nil, and a yes or no. -/
def OutSomeI (w : World) (r : List Int × Bool) (e : Ending) (w' : World) : Prop :=
  ∃ g c, e = .returned (.tuple #[.slice (some ⟨g, 0, none⟩) r.1.length c, .bool r.2]) ∧ Own w' w.heap.size (.slice (some ⟨g, 0, none⟩) r.1.length c) r.1 ∧ Below w.heap.size w w'
/-- append of a list of numbers, be it empty. -/
theorem wpList_append_list0 {P : Program} {ops : Array Oper} {rest : List Oper} {o : Oper} {a : Act} {Q : Exit → Act → World → Prop} (w : World) (hgd : o.guard = none) (s x : Operand) (T : TypeId)
    (ho : o.op = .call { callee := .builtin .append, args := #[s, x], argTypes := #[T, T] }) (ht : P.underlying T = some (.slice 3)) (hinfo : (P.info? 3).map (fun i => (i.zero, i.size, i.bytes)) = some (some (.int .i64 0), 1, 8))
    (lo : Nat) (v : Value) (xs ys : List Int) (b off m c B : Nat)
    (hs : a.eval s = v) (hx : a.eval x = .slice (some ⟨b, off, none⟩) m c) (hown : Own w lo v xs) (hy : Rd w B (some ⟨b, off, none⟩) m c ys) (hlen : xs.length + ys.length ≤ 1073741824) (hlo : lo ≤ w.heap.size)
    (h : ∀ A' c' w', Own w' lo (.slice A' (xs.length + ys.length) c') (xs ++ ys) → w.grownBy w' v.ownBlock → wpList P ops Q rest (a.put o.dst (.slice A' (xs.length + ys.length) c')) w') :
    wpList P ops Q (o :: rest) a w := by
  obtain ⟨i0, hi, hz0, hz1, hz2⟩ := info_parts hinfo
  obtain rfl := hy.len
  have hc : ∀ j u, (ys.map (Value.int .i64))[j]? = some u → w.cell? ((⟨b, off, none⟩ : Addr).add j) = some u := by
    intro j u hu
    have hj : j < ys.length := by have := (List.getElem?_eq_some_iff.1 hu).1; simpa using this
    obtain ⟨_, _, e, _, hc⟩ := hy.cells (by omega)
    cases e
    have e : (⟨b, off, none⟩ : Addr).add j = ⟨b, off + j, none⟩ := by unfold Addr.add; split <;> simp_all
    rw [e, hc j hj, getD_at hj]
    rw [List.getElem?_map, List.getElem?_eq_getElem hj] at hu
    exact hu
  refine wpList_append_own _ hgd s x T ho lo 3 i0 (.int .i64 0) 1 8 ht hi hz0 hz1 hz2 rfl (by decide) v xs.length _ hs hown.1 ⟨b, off, none⟩ ys.length c (ys.map (Value.int .i64)) hx (by simp) hc (ints_oneCell _ _) (by unfold maxLen; omega) (by omega) hlo ?_
  intro v' w' ho' hg' _
  have hO : Own w' lo v' (xs ++ ys) := ⟨by simpa using ho', fun y hy' => by
    rcases List.mem_append.1 hy' with hy' | hy'
    · exact hown.2 y hy'
    · exact hy.fits y hy'⟩
  obtain ⟨A', c', rfl, _, _⟩ := hO.form
  rw [List.length_append] at hO
  have := h A' c' w' hO hg'
  rwa [List.length_append]
theorem least_drop {xs : List WeaverR} {k m : Nat} {need : Int} {a : WeaverR} (ha : xs[k]? = some a) : leastL (xs.drop k) (m + 1) need = match leastL (xs.drop (k + 1)) m (leaveI need a.f2) with
    | some r => some (a.f0 :: r)
    | none => leastL (xs.drop (k + 1)) (m + 1) need := by
  obtain ⟨hlt, e⟩ := List.getElem?_eq_some_iff.1 ha
  rw [List.drop_eq_getElem_cons hlt, e]
  rfl
theorem least_end {xs : List WeaverR} {m : Nat} {need : Int} : leastL (xs.drop xs.length) (m + 1) need = none := by rw [List.drop_length]; rfl
theorem least_len {xs : List WeaverR} {m : Nat} {need : Int} {r : List Int} (h : leastL xs m need = some r) : r.length = m := (least_cov h).2
set_option maxRecDepth 100000 in
set_option maxHeartbeats 4000000 in
theorem l11Least_any : ∀ (m : Nat) (A : Option Addr) (n c B : Nat) (xs : List WeaverR) (fr : Nat) (need : Int) (w : World) (_ : RdF weaverF w B A n c xs) (_ : B ≤ w.heap.size) (_ : fr ≤ n) (_ : n ≤ 8) (_ : In15 need) (_ : Hid (Fast xs)) (_ : m ≤ 8),
    Calls Try.prog 61 #[.slice A n c, .int .i64 (fr : Int), .int .i64 (m : Int), .int .i64 need] w (OutSomeI w (leastR (leastL (xs.drop fr) m need))) := by
  intro m
  induction m with
  | zero =>
    intro A n c B xs fr need w h hB hfr hn8 h15 hF _
    have own0 : Own (w.alloc (.cells #[] 3)) w.heap.size (.slice (some ⟨w.heap.size, 0, none⟩) 0 0) [] := Own.empty (Nat.le_refl _)
    have HB0 : Below w.heap.size w (w.alloc (.cells #[] 3)) := (Below.refl _ _).alloc (Nat.le_refl _) _
    by_cases h0 : need = 0
    · have HR := Lib.hid (show leastR (leastL (xs.drop fr) 0 need) = ([], true) by rw [show leastL (xs.drop fr) 0 need = some [] by unfold leastL; rw [if_pos h0]]; rfl)
      have h0' : (need == 0) = true := by simp [h0]
      clear h0
      go_enter Try.func61, Try.ntmps61
      go_wp2
      go_ret2
      rw [HR.out]
      exact ⟨_, _, rfl, own0, HB0⟩
    · have HR := Lib.hid (show leastR (leastL (xs.drop fr) 0 need) = ([], false) by rw [show leastL (xs.drop fr) 0 need = none by unfold leastL; rw [if_neg h0]]; rfl)
      have h0' : (need == 0) = false := by simp [h0]
      clear h0
      go_enter Try.func61, Try.ntmps61
      go_wp2
      go_ret2
      rw [HR.out]
      exact ⟨_, _, rfl, own0, HB0⟩
  | succ m ih =>
    intro A n c B xs fr need w h hB hfr hn8 h15 hF hm8
    have hl := h.len
    subst hl
    have hm1 : (((m + 1 : Nat) : Int) == 0) = false := by simp; omega
    have em : IntKind.i64.wrap (((m + 1 : Nat) : Int) - 1) = (m : Int) := by rw [IntWalk.i64_in _ (by omega)]; omega
    have HIH := Lib.hid ih
    clear ih
    obtain ⟨M, hM⟩ : ∃ M, Hid (((m + 1 : Nat) : Int) = M) := ⟨_, Lib.hid rfl⟩
    rw [hM.out] at hm1 em ⊢
    go_enter Try.func61, Try.ntmps61
    go_wp2
    go_loopw [10] (fun i wr => ∃ k : Nat, k ≤ xs.length ∧ i = .int .i64 k ∧ Hid (leastL (xs.drop k) (m + 1) need = leastL (xs.drop fr) (m + 1) need) ∧ Below w.heap.size w wr) (fun i _ => xs.length - (intOf i).toNat)
    case atStart => exact ⟨fr, hfr, rfl, Lib.hid rfl, Below.refl _ _⟩
    case round =>
      obtain ⟨k, hk, rfl, HY, hb⟩ := hrel
      have hzz := hb.size
      by_cases hlt : k < xs.length
      · have hR := h.below hb hB
        obtain ⟨b, off, a, rfl, hbB, ok, HX, hc0, hc1, hc2, hc3, hc4⟩ := WeaverR_at (F := weaverF) rfl (fun _ => rfl) (fun _ => rfl) hR hlt
        have HD := Lib.hid (least_drop (m := m) (need := need) HX.out)
        obtain ⟨_, ha15⟩ := fast_at hF.out HX.out
        obtain ⟨ha0, ha1⟩ := ha15
        have hl15 := leave_in h15 ⟨ha0, ha1⟩
        have hk1 : (((k + 1 : Nat)) : Int) = (k : Int) + 1 := by omega
        have hcall := Lib.hid (HIH.out (some ⟨b, off, none⟩) _ c B xs (k + 1) (leaveI need a.f2) wr hR (Nat.le_trans hB hzz) hlt hn8 hl15 hF (by omega))
        rw [hk1] at hcall
        have hid := ok.1
        clear hk1
        rcases hr : leastL (xs.drop (k + 1)) m (leaveI need a.f2) with _ | r
        · have HR := Lib.hid (show leastR (leastL (xs.drop (k + 1)) m (leaveI need a.f2)) = ([], false) by rw [hr]; rfl)
          have HN := Lib.hid (show leastL (xs.drop (k + 1)) (m + 1) need = leastL (xs.drop fr) (m + 1) need by rw [← HY.out, HD.out, hr])
          rw [HR.out] at hcall
          clear hr
          go_wp2_with (go_at_call 61; refine hcall.out.mono ?_; rintro e w2 ⟨g2, c2, rfl, own2, hb2⟩)
          go_roundw
          case rel => exact ⟨k + 1, by omega, by go_num, HN, hb.trans (hb2.mono hzz)⟩
          case measure => simp [intOf]; omega
        · have HR := Lib.hid (show leastR (leastL (xs.drop (k + 1)) m (leaveI need a.f2)) = (r, true) by rw [hr]; rfl)
          have HE := Lib.hid (show leastR (leastL (xs.drop fr) (m + 1) need) = (a.f0 :: r, true) by rw [← HY.out, HD.out, hr]; rfl)
          have hrl := Lib.hid (least_len hr)
          rw [HR.out] at hcall
          clear hr
          go_upto_region 8 with (go_at_call 61; refine hcall.out.mono ?_; rintro e w2 ⟨g2, c2, rfl, own2, hb2⟩)
          obtain ⟨q, hq⟩ : ∃ q, r.length = q := ⟨_, rfl⟩
          have HQ := Lib.hid hq
          rw [hq] at own2
          simp only [hq]
          have hbz : b < wr.heap.size := by omega
          have hc0' := (hb2.cell (p := ⟨b, off + k * 5, none⟩) hbz).trans hc0
          have hb3 := hb.trans (hb2.mono hzz)
          have hz3 := hb3.size
          have own1 : Own (w2.alloc (.cells #[.int .i64 a.f0] 3)) w.heap.size (.slice (some ⟨w2.heap.size, 0, none⟩) 1 1) [a.f0] := blk_own (xs := [a.f0]) (Blk.new w2 #[.int .i64 a.f0] 3) hz3 (by unfold maxLen; simp) (fun y hy => by simp at hy; subst hy; exact hid)
          have rd2 := (own2.alloc (.cells #[.int .i64 a.f0] 3)).rd
          have HB4 : Below w.heap.size w (w2.alloc (.cells #[.int .i64 a.f0] 3)) := hb3.alloc hz3 _
          have hz4 : w.heap.size ≤ (w2.alloc (.cells #[.int .i64 a.f0] 3)).heap.size := HB4.size
          have hb2z := hb2.size
          clear hc0 hc1 hc2 hc3 hc4 hb hb2 own2 hq
          go_wp2_with (at_builtin; refine wpList_append_list0 (w2.alloc (.cells #[.int .i64 a.f0] 3)) rfl (.tmp 48) (.tmp 49) 35 rfl Try.underlying35 info_int w.heap.size _ [a.f0] r g2 0 q c2 _ rfl rfl own1 rd2 (by rw [HQ.out, ← HQ.out, hrl.out]; simp; omega) hz4 ?_)
          intro A7 c7 w7 own7 hg7
          have HB7 := HB4.grown hg7 HB4.size (fun j hj => (own1.bd j hj).1)
          obtain ⟨g7, rfl, _, _⟩ := own7.some_ (by simp)
          go_wp2
          go_ret2
          rw [HE.out]
          exact ⟨g7, c7, by simp [Nat.add_comm], by simpa [Nat.add_comm] using own7, HB7⟩
      · obtain rfl : k = xs.length := by omega
        have HE := Lib.hid (show leastR (leastL (xs.drop fr) (m + 1) need) = ([], false) by rw [← HY.out, least_end]; rfl)
        have own0 : Own (wr.alloc (.cells #[] 3)) w.heap.size (.slice (some ⟨wr.heap.size, 0, none⟩) 0 0) [] := Own.empty hzz
        have HB0 : Below w.heap.size w (wr.alloc (.cells #[] 3)) := hb.alloc hzz _
        go_wp2
        go_ret2
        rw [HE.out]
        exact ⟨_, _, rfl, own0, HB0⟩
def oneL : List WeaverR → Nat → Int → List Int × Bool := fun xs m need => leastR (leastL xs m need)
theorem few11_eq (xs : List WeaverR) (need : Int) : few11 xs need = if (oneL xs 1 need).2 = true then oneL xs 1 need else if (oneL xs 2 need).2 = true then oneL xs 2 need else if (oneL xs 3 need).2 = true then oneL xs 3 need else if (oneL xs 4 need).2 = true then oneL xs 4 need else ([], false) := by
  unfold few11 oneL
  cases leastL xs 1 need <;> cases leastL xs 2 need <;> cases leastL xs 3 need <;> cases leastL xs 4 need <;> rfl
/-- The answers of all lengths smaller than one are no. -/
def NoneB (xs : List WeaverR) (need : Int) (k : Nat) : Prop := ∀ j, 1 ≤ j → j < k → (oneL xs j need).2 = false
theorem few11_at {xs : List WeaverR} {need : Int} {k : Nat} (h : NoneB xs need k) (h1 : 1 ≤ k) (h4 : k ≤ 4) (hk : (oneL xs k need).2 = true) : few11 xs need = oneL xs k need := by
  rw [few11_eq]
  match k, h1, h4 with
  | 1, _, _ => rw [if_pos hk]
  | 2, _, _ => rw [h 1 (by omega) (by omega), if_neg (by decide), if_pos hk]
  | 3, _, _ => rw [h 1 (by omega) (by omega), h 2 (by omega) (by omega), if_neg (by decide), if_neg (by decide), if_pos hk]
  | 4, _, _ => rw [h 1 (by omega) (by omega), h 2 (by omega) (by omega), h 3 (by omega) (by omega), if_neg (by decide), if_neg (by decide), if_neg (by decide), if_pos hk]
theorem few11_no {xs : List WeaverR} {need : Int} (h : NoneB xs need 5) : few11 xs need = ([], false) := by
  rw [few11_eq, h 1 (by omega) (by omega), h 2 (by omega) (by omega), h 3 (by omega) (by omega), h 4 (by omega) (by omega)]
  rfl
theorem noneB_step {xs : List WeaverR} {need : Int} {k : Nat} (h : NoneB xs need k) (hk : (oneL xs k need).2 = false) : NoneB xs need (k + 1) := fun j h1 h2 => by
  rcases Nat.lt_or_ge j k with hlt | hge
  · exact h j h1 hlt
  · obtain rfl : j = k := by omega
    exact hk
set_option maxRecDepth 100000 in
set_option maxHeartbeats 4000000 in
theorem specFewestFor_any (A : Option Addr) (n c B : Nat) (xs : List WeaverR) (need : Int) (w : World) (h : RdF weaverF w B A n c xs) (hB : B ≤ w.heap.size) :
    Calls Try.prog 25 #[.slice A n c, .int .i64 need] w (OutInts w (fewest11 xs need).1 (fewest11 xs need).2) := by
  obtain rfl := h.len
  by_cases hg : weaversB xs = true
  rotate_left
  · have hg' := not_false hg
    rw [show fewest11 xs need = ([], false) from if_neg fun hh => hg hh.1]
    go_enter Try.func25, Try.ntmps25
    go_wp2_with (go_at_call 40; refine (l11Good_eq A _ c B xs _ _ h hB hg').mono ?_; rintro e w1 ⟨rfl, hb⟩)
    go_ret2
    exact ⟨_, _, rfl, Own.empty hb.size, hb.alloc hb.size _⟩
  by_cases hl : inB need 1 15 = true
  rotate_left
  · have hl' := not_false hl
    rw [show fewest11 xs need = ([], false) from if_neg fun hh => hl hh.2]
    go_enter Try.func25, Try.ntmps25
    go_wp2_with (first | (go_at_call 40; refine (l11Good_eq A _ c B xs _ _ h hB hg).mono ?_; rintro e w1 ⟨rfl, hb⟩) | (go_at_call 60; (with_reducible refine (l11Skills_any _ _).mono ?_); rintro e w' ⟨rfl, rfl⟩))
    go_ret2
    exact ⟨_, _, rfl, Own.empty hb.size, hb.alloc hb.size _⟩
  have HW := Lib.hid (show fewest11 xs need = few11 xs need from if_pos ⟨hg, hl⟩)
  have h8 := (weaversB_of hg).1
  have HF := Lib.hid (weavers_fast hg)
  obtain ⟨hn1, hn2⟩ := inB_yes hl
  have hn15 : In15 need := ⟨by omega, hn2⟩
  go_enter Try.func25, Try.ntmps25
  go_wp2_with (first | (go_at_call 40; refine (l11Good_eq A _ c B xs _ _ h hB hg).mono ?_; rintro e w1 ⟨rfl, hb⟩) | (go_at_call 60; (with_reducible refine (l11Skills_any _ _).mono ?_); rintro e w' ⟨rfl, rfl⟩))
  go_loopw [6] (fun i wr => ∃ k : Nat, 1 ≤ k ∧ k ≤ 5 ∧ i = .int .i64 k ∧ Hid (NoneB xs need k) ∧ Below w.heap.size w wr) (fun i _ => 5 - (intOf i).toNat)
  case atStart => exact ⟨1, Nat.le_refl _, by omega, rfl, Lib.hid (fun j h1 h2 => by omega), hb⟩
  case round =>
    obtain ⟨k, hk1, hk5, rfl, HN, hb⟩ := hrel
    have hzz := hb.size
    by_cases hlt : k ≤ 4
    · have hc := Lib.hid (l11Least_any k A _ c B xs 0 need wr (h.below hb hB) (Nat.le_trans hB hzz) (Nat.zero_le _) h8 hn15 HF (by omega))
      rw [List.drop_zero, show leastR (leastL xs k need) = oneL xs k need from rfl] at hc
      cases ho : (oneL xs k need).2 with
      | false =>
        have HN2 := Lib.hid (noneB_step HN.out ho)
        have hc2 := Lib.hid (show Calls Try.prog 61 #[.slice A xs.length c, .int .i64 ((0 : Nat) : Int), .int .i64 (k : Int), .int .i64 need] wr fun e w' => ∃ v, e = .returned (.tuple #[v, .bool false]) ∧ Below wr.heap.size wr w' from hc.out.mono fun e w' hh => by obtain ⟨g, c', he, _, hb⟩ := hh; rw [ho] at he; exact ⟨_, he, hb⟩)
        clear hc ho
        go_wp2_with (go_at_call 61; refine hc2.out.mono ?_; rintro e w2 ⟨v2, rfl, hb2⟩)
        go_roundw
        case rel => exact ⟨k + 1, by omega, by omega, by go_num, HN2, hb.trans (hb2.mono hzz)⟩
        case measure => simp [intOf]; omega
      | true =>
        have HE := Lib.hid (HW.out.trans (few11_at HN.out hk1 hlt ho))
        obtain ⟨r, hr⟩ : ∃ r, Hid (oneL xs k need = (r, true)) := ⟨(oneL xs k need).1, Lib.hid (by rw [← ho])⟩
        rw [hr.out] at hc HE
        clear ho
        go_wp2_with (go_at_call 61; refine hc.out.mono ?_; rintro e w2 ⟨g2, c2, rfl, own2, hb2⟩)
        go_ret2
        rw [HE.out]
        exact ⟨_, _, rfl, own2.mono hzz, hb.trans (hb2.mono hzz)⟩
    · obtain rfl : k = 5 := by omega
      have HE := Lib.hid (HW.out.trans (few11_no HN.out))
      go_wp2
      go_ret2
      rw [HE.out]
      exact ⟨_, _, rfl, Own.empty hzz, hb.alloc hzz _⟩
end Go.Proofs.Ytanfblpibomfaaa
