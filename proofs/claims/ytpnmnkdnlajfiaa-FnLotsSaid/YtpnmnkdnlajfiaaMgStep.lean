/- Several texts of this proof in one: AppF, StepF, Step, CopyStep, CopyF. No condition. -/
import Derived.Test.YtpnmnkdnlajfiaaSeq
import Derived.Deep.RegionHeld3
import Derived.Test.YtpnmnkdnlajfiaaMem
namespace Go.Proofs.Ytpnmnkdnlajfiaa
open Go.RowKit

section
variable {α : Type} {F : Flat α} {w : World}
theorem flat_one (F : Flat α) (xs : List α) : ∀ u ∈ xs.flatMap F.enc, u.oneCell' = true := by
  intro u hu
  obtain ⟨a, _, ha⟩ := List.mem_flatMap.1 hu
  exact F.one a u ha
/-- The cells of a slice, one after the other. -/
theorem RdF.flat {B n c b off : Nat} {xs : List α} (h : RdF F w B (some ⟨b, off, none⟩) n c xs) (hk : 0 < F.k) : ∀ j u, (xs.flatMap F.enc)[j]? = some u → w.cell? ((⟨b, off, none⟩ : Addr).add j) = some u := by
  intro j u hu
  have hl := h.len
  have ea : (⟨b, off, none⟩ : Addr).add j = ⟨b, off + j, none⟩ := by unfold Addr.add; split <;> simp_all
  rw [ea]
  have hj : j < n * F.k := by have := (List.getElem?_eq_some_iff.1 hu).1; rwa [flat_len F.len, hl] at this
  have hq : j / F.k < n := Nat.div_lt_of_lt_mul (by rw [Nat.mul_comm]; exact hj)
  have hql : j / F.k < xs.length := by rw [hl]; exact hq
  have hm := Nat.mod_lt j hk
  have e : j = j / F.k * F.k + j % F.k := by rw [Nat.mul_comm]; exact (Nat.div_add_mod j F.k).symm
  obtain ⟨_, _, e', _, hc⟩ := h.cells (Nat.lt_of_le_of_lt (Nat.zero_le _) hq)
  cases e'
  have hx : xs[j / F.k]? = some (xs[j / F.k]'hql) := List.getElem?_eq_getElem hql
  have hu' : (F.enc (xs[j / F.k]'hql))[j % F.k]? = some u := by
    rw [← flat_get F.len hx hm, ← e]; exact hu
  have := hc _ _ _ _ hx hu'
  rwa [← e] at this
/-- A literal of one element. -/
theorem RdF.lit {w : World} {cs : Array Value} {a : α} (e : cs.toList = F.enc a) (ha : F.ok a) : RdF F (w.alloc (.cells cs F.t)) (w.heap.size + 1) (some ⟨w.heap.size, 0, none⟩) 1 1 [a] := by
  refine ⟨rfl, Nat.le_refl _, by unfold maxLen; omega, fun _ => ⟨w.heap.size, 0, rfl, by omega, fun j i x v hj hi => ?_⟩, fun x hx => ?_, fun h => by cases h⟩
  · have hj0 : j = 0 := by
      have := (List.getElem?_eq_some_iff.1 hj).1
      simp at this; omega
    subst hj0
    simp at hj
    subst hj
    rw [(Blk.new w cs F.t).cell, Nat.zero_mul, Nat.zero_add, Nat.zero_add, ← Array.getElem?_toList, e]
    exact hi
  · simp at hx; subst hx; exact ha
end
theorem wp_appendF {α : Type} (F : Flat α) {P : Program} {o : Oper} {a : Act} {K : Act → World → Prop} {Q : Exit → Act → World → Prop} (w : World) (s x : Operand) (T : TypeId) (z : Value) (bytes : Nat)
    (ho : o.op = .call { callee := .builtin .append, args := #[s, x], argTypes := #[T, T] }) (ht : P.underlying T = some (.slice F.t)) (hinfo : (P.info? F.t).map (fun i => (i.zero, i.size, i.bytes)) = some (some z, F.k, bytes))
    (hzs : z.cells.size = F.k) (hk : 0 < F.k) (hby : bytes ≤ 1024)
    (lo : Nat) (v : Value) (xs ys : List α) (b off m c B : Nat)
    (hs : a.eval s = v) (hx : a.eval x = .slice (some ⟨b, off, none⟩) m c) (hown : OwnF F w lo v xs) (hy : RdF F w B (some ⟨b, off, none⟩) m c ys) (hlen : xs.length + ys.length ≤ 1073741824) (hlo : lo ≤ w.heap.size)
    (h : ∀ A' c' w', OwnF F w' lo (.slice A' (xs.length + ys.length) c') (xs ++ ys) → w.grownBy w' v.ownBlock → K (a.put o.dst (.slice A' (xs.length + ys.length) c')) w') :
    o.wp P a w K Q := by
  obtain ⟨i0, hi, hz0, hz1, hz2⟩ := info_parts hinfo
  obtain rfl := hy.len
  have hbb : (xs.length + ys.length) * bytes ≤ 1073741824 * 1024 := Nat.mul_le_mul hlen hby
  refine wp_append_own _ s x T ho lo F.t i0 z F.k bytes ht hi hz0 hz1 hz2 hzs hk v xs.length _ hs hown.1 ⟨b, off, none⟩ ys.length c (ys.flatMap F.enc) hx (flat_len F.len _) (hy.flat hk) (flat_one F ys) (by unfold maxLen; omega) (by omega) hlo ?_
  intro v' w' ho' hg' _
  have hO : OwnF F w' lo v' (xs ++ ys) := ⟨by rw [List.flatMap_append, List.length_append]; exact ho', fun y hy' => by
    rcases List.mem_append.1 hy' with hy' | hy'
    · exact hown.2 y hy'
    · exact hy.fits y hy'⟩
  obtain ⟨A', c', rfl, _, _⟩ := hO.form
  rw [List.length_append] at hO
  have := h A' c' w' hO hg'
  rwa [List.length_append]
theorem wpList_appendF {α : Type} (F : Flat α) {P : Program} {ops : Array Oper} {rest : List Oper} {o : Oper} {a : Act} {Q : Exit → Act → World → Prop} (hgd : o.guard = none) (w : World) (s x : Operand) (T : TypeId) (z : Value) (bytes : Nat)
    (ho : o.op = .call { callee := .builtin .append, args := #[s, x], argTypes := #[T, T] }) (ht : P.underlying T = some (.slice F.t)) (hinfo : (P.info? F.t).map (fun i => (i.zero, i.size, i.bytes)) = some (some z, F.k, bytes))
    (hzs : z.cells.size = F.k) (hk : 0 < F.k) (hby : bytes ≤ 1024)
    (lo : Nat) (v : Value) (xs ys : List α) (b off m c B : Nat)
    (hs : a.eval s = v) (hx : a.eval x = .slice (some ⟨b, off, none⟩) m c) (hown : OwnF F w lo v xs) (hy : RdF F w B (some ⟨b, off, none⟩) m c ys) (hlen : xs.length + ys.length ≤ 1073741824) (hlo : lo ≤ w.heap.size)
    (h : ∀ A' c' w', OwnF F w' lo (.slice A' (xs.length + ys.length) c') (xs ++ ys) → w.grownBy w' v.ownBlock → wpList P ops Q rest (a.put o.dst (.slice A' (xs.length + ys.length) c')) w') :
    wpList P ops Q (o :: rest) a w :=
  wpList_plain hgd fun _ hK => wp_appendF F w s x T z bytes ho ht hinfo hzs hk hby lo v xs ys b off m c B hs hx hown hy hlen hlo fun A' c' w' h5 h6 => hK _ _ (h A' c' w' h5 h6)
end Go.Proofs.Ytpnmnkdnlajfiaa
namespace Go.Proofs.Ytpnmnkdnlajfiaa
open Go.RowKit

theorem step_appendF {α : Type} (F : Flat α) {P : Program} {ops : Array Oper} {o : Oper} {a : Act} {K : Act → World → Prop} {Q : Exit → Act → World → Prop} {E : Prop} (hgd : o.guard = none) (w : World) (s x : Operand) (T : TypeId) (z : Value) (bytes : Nat)
    (ho : o.op = .call { callee := .builtin .append, args := #[s, x], argTypes := #[T, T] }) (ht : P.underlying T = some (.slice F.t)) (hinfo : (P.info? F.t).map (fun i => (i.zero, i.size, i.bytes)) = some (some z, F.k, bytes))
    (hzs : z.cells.size = F.k) (hk : 0 < F.k) (hby : bytes ≤ 1024)
    (lo : Nat) (v : Value) (xs ys : List α) (b off m c B : Nat)
    (hs : a.eval s = v) (hx : a.eval x = .slice (some ⟨b, off, none⟩) m c) (hown : OwnF F w lo v xs) (hy : RdF F w B (some ⟨b, off, none⟩) m c ys) (hlen : xs.length + ys.length ≤ 1073741824) (hlo : lo ≤ w.heap.size)
    (h : ∀ A' c' w', OwnF F w' lo (.slice A' (xs.length + ys.length) c') (xs ++ ys) → w.grownBy w' v.ownBlock → K (a.put o.dst (.slice A' (xs.length + ys.length) c')) w') :
    if Region.wanted o (yielded ops a.tmps) = true then Oper.wp P o a w K Q else E := by
  rw [if_pos (show Region.wanted o (yielded ops a.tmps) = true by simp [Region.wanted, hgd])]
  exact wp_appendF F w s x T z bytes ho ht hinfo hzs hk hby lo v xs ys b off m c B hs hx hown hy hlen hlo h
end Go.Proofs.Ytpnmnkdnlajfiaa
namespace Go.Proofs.Ytpnmnkdnlajfiaa
open Go.RowKit

theorem wp_append_one {P : Program} {o : Oper} {a : Act} {K : Act → World → Prop} {Q : Exit → Act → World → Prop} (w : World) (s x : Operand) (T : TypeId)
    (ho : o.op = .call { callee := .builtin .append, args := #[s, x], argTypes := #[T, T] }) (ht : P.underlying T = some (.slice 3)) (hinfo : (P.info? 3).map (fun i => (i.zero, i.size, i.bytes)) = some (some (.int .i64 0), 1, 8))
    (lo n : Nat) (v : Value) (xs : List Int) (q : Int) (hn : xs.length = n)
    (hs : a.eval s = v) (hx : a.eval x = .slice (some ⟨w.heap.size, 0, none⟩) 1 1) (hown : Own w lo v xs) (hlen : n ≤ 1073741824) (hq : I64 q) (hlo : lo ≤ w.heap.size)
    (h : ∀ A' c' w', Own w' lo (.slice A' (n + 1) c') (xs ++ [q]) → w.grownBy w' v.ownBlock → K (a.put o.dst (.slice A' (n + 1) c')) w') :
    o.wp P a (w.alloc (.cells #[.int .i64 q] 3)) K Q := by
  subst hn
  obtain ⟨i0, hi, hz0, hz1, hz2⟩ := info_parts hinfo
  refine wp_append_own _ s x T ho lo 3 i0 (.int .i64 0) 1 8 ht hi hz0 hz1 hz2 rfl (by decide) v xs.length _ hs (hown.alloc _).1 ⟨w.heap.size, 0, none⟩ 1 1 [.int .i64 q] hx rfl ?_ ?_ ?_ ?_ ?_ ?_
  · intro j u hj
    match j, hj with
    | 0, hj =>
      simp at hj; subst hj
      exact (Blk.new w #[.int .i64 q] 3).cell 0
  · intro u hu; simp at hu; subst hu; rfl
  · unfold maxLen; omega
  · omega
  · simp; omega
  · intro v' w' ho' hg' _
    have hO : Own w' lo v' (xs ++ [q]) := ⟨by simpa using ho', fun y hy => by
      rcases List.mem_append.1 hy with hy | hy
      · exact hown.2 y hy
      · simp at hy; subst hy; exact hq⟩
    obtain ⟨A', c', rfl, _, _⟩ := hO.form
    rw [List.length_append] at hO
    have := h A' c' w' hO ⟨hg'.os, hg'.tape, hg'.output, Nat.le_trans (by simp) hg'.size, fun k hk hne => (hg'.block k (by simp; omega) hne).trans (Below.heap_alloc w _ k hk)⟩
    rwa [List.length_append]
theorem step_append_one {P : Program} {ops : Array Oper} {o : Oper} {a : Act} {K : Act → World → Prop} {Q : Exit → Act → World → Prop} {E : Prop} (w : World) (hgd : o.guard = none) (s x : Operand) (T : TypeId)
    (ho : o.op = .call { callee := .builtin .append, args := #[s, x], argTypes := #[T, T] }) (ht : P.underlying T = some (.slice 3)) (hinfo : (P.info? 3).map (fun i => (i.zero, i.size, i.bytes)) = some (some (.int .i64 0), 1, 8))
    (lo n : Nat) (v : Value) (xs : List Int) (q : Int) (hn : xs.length = n)
    (hs : a.eval s = v) (hx : a.eval x = .slice (some ⟨w.heap.size, 0, none⟩) 1 1) (hown : Own w lo v xs) (hlen : n ≤ 1073741824) (hq : I64 q) (hlo : lo ≤ w.heap.size)
    (h : ∀ A' c' w', Own w' lo (.slice A' (n + 1) c') (xs ++ [q]) → w.grownBy w' v.ownBlock → K (a.put o.dst (.slice A' (n + 1) c')) w') :
    if Region.wanted o (yielded ops a.tmps) = true then Oper.wp P o a (w.alloc (.cells #[.int .i64 q] 3)) K Q else E := by
  rw [if_pos (show Region.wanted o (yielded ops a.tmps) = true by simp [Region.wanted, hgd])]
  exact wp_append_one w s x T ho ht hinfo lo n v xs q hn hs hx hown hlen hq hlo h
/-- copy into a row of the call's own, as one step of a region that draws its order. -/
theorem step_copy_row {P : Program} {ops : Array Oper} {o : Oper} {a : Act} {w : World} {K : Act → World → Prop} {Q : Exit → Act → World → Prop} {E : Prop} (hgd : o.guard = none) (d s : Operand) (dT sT : TypeId)
    (ho : o.op = .call { callee := .builtin .copy, args := #[d, s], argTypes := #[dT, sT] }) (elem : TypeId) (hu : P.underlying dT = some (.slice elem)) (hsz : (P.info? elem).map (·.size) = some 1)
    (g off : Nat) (dLen dCap : Nat) (ad : Addr) (sLen sCap : Nat) (hd : a.eval d = .slice (some ⟨g, off, none⟩) dLen dCap) (hs : a.eval s = .slice (some ad) sLen sCap)
    (cur : List Value) (t : TypeId) (hg : Blk w g t cur.toArray) (cs : List Value) (hn : cs.length = Nat.min sLen dLen)
    (hsrc : ∀ j v, cs[j]? = some v → w.cell? (ad.add j) = some v) (hfit : off + cs.length ≤ cur.length) (h1 : ∀ v ∈ cs, v.oneCell' = true)
    (h : ∀ w', Blk w' g t (splice cur off cs).toArray → w.grownBy w' (some g) → K (a.put o.dst (goInt cs.length)) w') :
    if Region.wanted o (yielded ops a.tmps) = true then Oper.wp P o a w K Q else E := by
  rw [if_pos (show Region.wanted o (yielded ops a.tmps) = true by simp [Region.wanted, hgd])]
  have hrun := run_copy_row (P := P) w dT sT o.type elem g off dLen dCap ad sLen sCap cur.toArray t cs hu hsz hg hn hsrc (by simpa using hfit) h1
  unfold Oper.wp
  simp [execOp, ho, resolve, invoke, builtin, hd, hs, hrun, Result.andThen]
  exact h _ (show _ = _ by simpa [splice] using setRow_heap w g _ _ t _ hg) ⟨rfl, rfl, rfl, by simp [World.setRow], fun k _ hk => setRow_other w g k _ (fun e => hk (by rw [e]))⟩
end Go.Proofs.Ytpnmnkdnlajfiaa
namespace Go.Proofs.Ytpnmnkdnlajfiaa
open Go.RowKit

theorem splice_at {α : Type} (L cs : List α) (off k : Nat) (h : off + cs.length ≤ L.length) : (splice L off cs)[k]? = if k < off then L[k]? else if k < off + cs.length then cs[k - off]? else L[k]? := by
  unfold splice
  simp only [List.getElem?_append, List.length_take, List.getElem?_take, List.getElem?_drop]
  rw [Nat.min_eq_left (by omega)]
  by_cases c1 : k < off
  · rw [if_pos c1, if_pos c1, if_pos c1]
  · rw [if_neg c1, if_neg c1]
    by_cases c2 : k - off < cs.length
    · rw [if_pos c2, if_pos (by omega)]
    · rw [if_neg c2, if_neg (by omega)]
      congr 1
      omega
theorem splice_take {α : Type} (L cs : List α) (off n : Nat) (h : off + cs.length ≤ n) (hn : n ≤ L.length) : (splice L off cs).take n = splice (L.take n) off cs := by
  apply List.ext_getElem?
  intro k
  rw [List.getElem?_take, splice_at _ _ _ _ (by omega), splice_at _ _ _ _ (by rw [List.length_take]; omega), List.getElem?_take]
  by_cases c1 : k < n
  · rw [if_pos c1, if_pos c1]
  · rw [if_neg c1, if_neg c1, if_neg (by omega), if_neg (by omega)]
theorem splice_map {α β : Type} (f : α → β) (L cs : List α) (off : Nat) : splice (L.map f) off (cs.map f) = (splice L off cs).map f := by
  simp [splice, List.map_take, List.map_drop]
theorem splice_mem {α : Type} {L cs : List α} {off : Nat} {x : α} (h : x ∈ splice L off cs) : x ∈ L ∨ x ∈ cs := by
  unfold splice at h
  rcases List.mem_append.1 h with h | h
  · exact .inl (List.mem_of_mem_take h)
  · rcases List.mem_append.1 h with h | h
    · exact .inr h
    · exact .inl (List.mem_of_mem_drop h)
theorem step_copy_own {P : Program} {ops : Array Oper} {o : Oper} {a : Act} {w : World} {K : Act → World → Prop} {Q : Exit → Act → World → Prop} {E : Prop} (hgd : o.guard = none) (d s : Operand) (dT sT : TypeId)
    (ho : o.op = .call { callee := .builtin .copy, args := #[d, s], argTypes := #[dT, sT] }) (hu : P.underlying dT = some (.slice 3)) (hsz : (P.info? 3).map (·.size) = some 1)
    (lo g off n c : Nat) (dLen dCap : Nat) (ad : Addr) (sLen sCap : Nat) (hd : a.eval d = .slice (some ⟨g, off, none⟩) dLen dCap) (hs : a.eval s = .slice (some ad) sLen sCap)
    (zs row : List Int) (hown : Own w lo (.slice (some ⟨g, 0, none⟩) n c) zs) (hn : row.length = Nat.min sLen dLen)
    (hsrc : ∀ j v, (row.map (Value.int .i64))[j]? = some v → w.cell? (ad.add j) = some v) (hfit : off + row.length ≤ zs.length) (hI : ∀ x ∈ row, I64 x)
    (h : ∀ w', Own w' lo (.slice (some ⟨g, 0, none⟩) n c) (splice zs off row) → w.grownBy w' (some g) → K (a.put o.dst (goInt row.length)) w') :
    if Region.wanted o (yielded ops a.tmps) = true then Oper.wp P o a w K Q else E := by
  have hlen : (splice zs off row).length = zs.length := length_splice _ _ _ hfit
  rcases hown.1.2 with ⟨h', _⟩ | ⟨g', cap, cur, h', hb, hg, hle, hm, hs', ht⟩
  · cases h'
  · simp only [Value.slice.injEq, Option.some.injEq, Addr.mk.injEq, and_true] at h'
    obtain ⟨rfl, hn', rfl⟩ := h'
    have hcl : cur.toList.length = c := by rw [Array.length_toList]; omega
    refine step_copy_row hgd d s dT sT ho 3 hu hsz g off dLen dCap ad sLen sCap hd hs cur.toList 3 (by unfold Blk; simpa using hg) (row.map (Value.int .i64)) (by rw [List.length_map]; exact hn) hsrc (by rw [List.length_map, hcl]; omega) (ints_oneCell _ _) ?_
    intro w' hB hgr
    rw [List.length_map]
    refine h w' ⟨⟨by simp [hlen], .inr ⟨g, c, _, by rw [hn', hlen], hb, hB, by rw [hlen]; exact hle, hm, ?_, ?_⟩⟩, ?_⟩ hgr
    · rw [List.size_toArray, length_splice _ _ _ (by rw [List.length_map, hcl]; omega), hcl]; omega
    · rw [List.toList_toArray, hlen, splice_take _ _ _ _ (by rw [List.length_map]; omega) (by rw [hcl]; omega), ht, splice_map]
    · intro x hx
      rcases splice_mem hx with hx | hx
      · exact hown.2 x hx
      · exact hI x hx
end Go.Proofs.Ytpnmnkdnlajfiaa
namespace Go.Proofs.Ytpnmnkdnlajfiaa
open Go.RowKit

theorem run_copy_rowK {P : Program} (w : World) (dT sT ty elem : TypeId) (k g o dLen dCap : Nat) (a : Addr) (sLen sCap m : Nat) (cur : Array Value) (t : TypeId) (cs : List Value)
    (hu : P.underlying dT = some (.slice elem)) (hs : (P.info? elem).map (·.size) = some k)
    (hg : w.heap[g]? = some (.cells cur t (0, 0))) (hm : Nat.min sLen dLen = m) (hn : cs.length = m * k)
    (hsrc : ∀ j v, cs[j]? = some v → w.cell? (a.add j) = some v) (hfit : o + cs.length ≤ cur.size) (h1 : ∀ v ∈ cs, v.oneCell' = true) :
    (Builtin.copy_ #[dT, sT] ty #[.slice (some ⟨g, o, none⟩) dLen dCap, .slice (some a) sLen sCap]).run P w =
      .ok (goInt m) (w.setRow g (cur.toList.take o ++ cs ++ cur.toList.drop (o + cs.length)).toArray) := by
  have hl := run_loadCells_list (P := P) w a cs hsrc
  have hst := run_storeCells_at P g o t cs 0 cur w hg (by simpa using hfit) h1
  cases hq : P.info? elem with
  | none => simp [hq] at hs
  | some i =>
    have hi : i.size = k := by simpa [hq] using hs
    simp [Builtin.copy_, run_underlying hu, Builtin.lenOf, Builtin.firstCells, sizeOf, typeInfo, hq, hi, hm, ← hn, hl, hst]
section
variable {α : Type} {F : Flat α}
theorem splice_flat {enc : α → List Value} {k : Nat} (h : ∀ a, (enc a).length = k) (zs row : List α) (i : Nat) :
    splice (zs.flatMap enc) (i * k) (row.flatMap enc) = (splice zs i row).flatMap enc := by
  unfold splice
  rw [List.flatMap_append, List.flatMap_append, flat_take h, flat_len h, ← Nat.add_mul, flat_drop h]
/-- What a copy of elements leaves. -/
theorem run_copyF {P : Program} (F : Flat α) (w : World) (dT sT ty : TypeId) (hu : P.underlying dT = some (.slice F.t)) (hsz : (P.info? F.t).map (·.size) = some F.k) (hk : 0 < F.k)
    (lo g c i : Nat) (dLen dCap sLen sCap m b off B : Nat) (zs ys row : List α) (hown : OwnF F w lo (.slice (some ⟨g, 0, none⟩) zs.length c) zs)
    (hy : RdF F w B (some ⟨b, off, none⟩) sLen sCap ys) (hm : Nat.min sLen dLen = m) (hrow : row = ys.take m) (hfit : i + m ≤ zs.length) :
    ∃ w', (Builtin.copy_ #[dT, sT] ty #[.slice (some ⟨g, i * F.k, none⟩) dLen dCap, .slice (some ⟨b, off, none⟩) sLen sCap]).run P w = .ok (goInt m) w' ∧
      OwnF F w' lo (.slice (some ⟨g, 0, none⟩) zs.length c) (splice zs i row) ∧ w.grownBy w' (some g) := by
  subst hrow
  have hms : m ≤ sLen := by rw [← hm]; exact Nat.min_le_left _ _
  have hl := hy.len
  have hrl : (ys.take m).length = m := by rw [List.length_take]; omega
  have hR := hy.head (q := m) hms
  rcases hown.1.2 with ⟨h', _⟩ | ⟨g', cap, cur, h', hb, hg, hle, hmx, hs', ht⟩
  · cases h'
  · simp only [Value.slice.injEq, Option.some.injEq, Addr.mk.injEq, and_true, true_and] at h'
    obtain ⟨rfl, rfl⟩ := h'
    have hcl : cur.toList.length = c * F.k := by rw [Array.length_toList]; omega
    have hcs : ((ys.take m).flatMap F.enc).length = m * F.k := by rw [flat_len F.len, hrl]
    have hf1 : (i + m) * F.k ≤ zs.length * F.k := Nat.mul_le_mul_right _ hfit
    have hf2 : zs.length * F.k ≤ c * F.k := Nat.mul_le_mul_right _ hle
    rw [Nat.add_mul] at hf1
    have hlz : (splice zs i (ys.take m)).length = zs.length := length_splice _ _ _ (by rw [hrl]; exact hfit)
    refine ⟨_, run_copy_rowK w dT sT ty F.t F.k g (i * F.k) dLen dCap ⟨b, off, none⟩ sLen sCap m cur _ ((ys.take m).flatMap F.enc) hu hsz hg hm hcs (fun j v hv => ?_) (by rw [hcs, ← Array.length_toList, hcl]; omega) (flat_one F _), ⟨⟨by rw [flat_len F.len], ?_⟩, ?_⟩, ⟨rfl, rfl, rfl, by simp [World.setRow], fun k _ hk => setRow_other w g k _ (fun e => hk (by rw [e]))⟩⟩
    · exact hR.flat hk j v hv
    · refine .inr ⟨g, c, _, by rw [hlz], hb, setRow_heap w g _ _ _ _ hg, by rw [hlz]; exact hle, hmx, ?_, ?_⟩
      · have e := length_splice cur.toList (i * F.k) ((ys.take m).flatMap F.enc) (by rw [hcs, hcl]; omega)
        unfold splice at e
        rw [List.append_assoc, List.size_toArray, e, hcl]
      · have e := splice_take cur.toList ((ys.take m).flatMap F.enc) (i * F.k) (zs.length * F.k) (by rw [hcs]; omega) (by rw [hcl]; omega)
        unfold splice at e
        rw [List.append_assoc, List.toList_toArray, hlz, e, ht]
        exact splice_flat F.len zs (ys.take m) i
    · intro x hx
      rcases splice_mem hx with hx | hx
      · exact hown.2 x hx
      · exact hy.fits x (List.mem_of_mem_take hx)
theorem wpList_copyF {P : Program} (F : Flat α) {ops : Array Oper} {rest : List Oper} {o : Oper} {a : Act} {Q : Exit → Act → World → Prop} (hgd : o.guard = none) (w : World) (d s : Operand) (dT sT : TypeId)
    (ho : o.op = .call { callee := .builtin .copy, args := #[d, s], argTypes := #[dT, sT] }) (hu : P.underlying dT = some (.slice F.t)) (hsz : (P.info? F.t).map (·.size) = some F.k) (hk : 0 < F.k)
    (lo g n c i at_ : Nat) (dLen dCap sLen sCap m b off B : Nat) (zs ys row : List α) (hd : a.eval d = .slice (some ⟨g, at_, none⟩) dLen dCap) (hs : a.eval s = .slice (some ⟨b, off, none⟩) sLen sCap) (hat : at_ = i * F.k) (hzn : zs.length = n) (hown : OwnF F w lo (.slice (some ⟨g, 0, none⟩) n c) zs)
    (hy : RdF F w B (some ⟨b, off, none⟩) sLen sCap ys) (hm : Nat.min sLen dLen = m) (hrow : row = ys.take m) (hfit : i + m ≤ zs.length)
    (h : ∀ w', OwnF F w' lo (.slice (some ⟨g, 0, none⟩) n c) (splice zs i row) → w.grownBy w' (some g) → wpList P ops Q rest (a.put o.dst (goInt m)) w') :
    wpList P ops Q (o :: rest) a w := by
  subst hat
  subst hzn
  refine wpList_plain hgd fun K hK => ?_
  obtain ⟨w', hrun, h1, h2⟩ := run_copyF (P := P) F w dT sT o.type hu hsz hk lo g c i dLen dCap sLen sCap m b off B zs ys row hown hy hm hrow hfit
  unfold Oper.wp
  simp [execOp, ho, resolve, invoke, builtin, hd, hs, hrun, Result.andThen]
  exact hK _ _ (h w' h1 h2)
theorem step_copyF {P : Program} (F : Flat α) {ops : Array Oper} {o : Oper} {a : Act} {w : World} {K : Act → World → Prop} {Q : Exit → Act → World → Prop} {E : Prop} (hgd : o.guard = none) (d s : Operand) (dT sT : TypeId)
    (ho : o.op = .call { callee := .builtin .copy, args := #[d, s], argTypes := #[dT, sT] }) (hu : P.underlying dT = some (.slice F.t)) (hsz : (P.info? F.t).map (·.size) = some F.k) (hk : 0 < F.k)
    (lo g n c i at_ : Nat) (dLen dCap sLen sCap m b off B : Nat) (zs ys row : List α) (hd : a.eval d = .slice (some ⟨g, at_, none⟩) dLen dCap) (hs : a.eval s = .slice (some ⟨b, off, none⟩) sLen sCap) (hat : at_ = i * F.k) (hzn : zs.length = n) (hown : OwnF F w lo (.slice (some ⟨g, 0, none⟩) n c) zs)
    (hy : RdF F w B (some ⟨b, off, none⟩) sLen sCap ys) (hm : Nat.min sLen dLen = m) (hrow : row = ys.take m) (hfit : i + m ≤ zs.length)
    (h : ∀ w', OwnF F w' lo (.slice (some ⟨g, 0, none⟩) n c) (splice zs i row) → w.grownBy w' (some g) → K (a.put o.dst (goInt m)) w') :
    if Region.wanted o (yielded ops a.tmps) = true then Oper.wp P o a w K Q else E := by
  subst hat
  subst hzn
  rw [if_pos (show Region.wanted o (yielded ops a.tmps) = true by simp [Region.wanted, hgd])]
  obtain ⟨w', hrun, h1, h2⟩ := run_copyF (P := P) F w dT sT o.type hu hsz hk lo g c i dLen dCap sLen sCap m b off B zs ys row hown hy hm hrow hfit
  unfold Oper.wp
  simp [execOp, ho, resolve, invoke, builtin, hd, hs, hrun, Result.andThen]
  exact h w' h1 h2
end
/-- Numbers. -/
def intF : Flat Int := { t := 3, k := 1, enc := fun x => [.int .i64 x], ok := I64, len := fun _ => rfl, one := fun s v h => by simp only [List.mem_cons, List.not_mem_nil, or_false] at h; subst h; rfl }
theorem intF_map (xs : List Int) : xs.flatMap intF.enc = xs.map (Value.int .i64) := by
  induction xs with
  | nil => rfl
  | cons x xs ih => rw [List.flatMap_cons, ih]; rfl
theorem Own.toF {w : World} {lo : Nat} {v : Value} {xs : List Int} (h : Own w lo v xs) : OwnF intF w lo v xs := ⟨by rw [intF_map]; exact h.1, h.2⟩
theorem OwnF.toI {w : World} {lo : Nat} {v : Value} {xs : List Int} (h : OwnF intF w lo v xs) : Own w lo v xs := ⟨by have := h.1; rw [intF_map] at this; exact this, h.2⟩
theorem Rd.toF {w : World} {B n c : Nat} {A : Option Addr} {xs : List Int} (h : Rd w B A n c xs) : RdF intF w B A n c xs := by
  refine ⟨h.len, h.cap, h.max, fun hn => ?_, h.fits, h.nil⟩
  obtain ⟨b, off, e, hb, hc⟩ := h.cells hn
  refine ⟨b, off, e, hb, fun j i a v hj hi => ?_⟩
  obtain ⟨hjl, rfl⟩ := List.getElem?_eq_some_iff.1 hj
  have hi0 : i = 0 := by have := (List.getElem?_eq_some_iff.1 hi).1; simp [intF] at this; exact this
  subst hi0
  simp [intF] at hi
  subst hi
  have := hc j (by rw [← h.len]; exact hjl)
  rw [getD_at hjl] at this
  simpa [intF] using this
end Go.Proofs.Ytpnmnkdnlajfiaa
