/- copy into a slice of the call's own, as one step of a region that draws its order. No condition. -/
import Derived.Test.YtihhlldpdfihfaaStep
namespace Go.Proofs.Ytihhlldpdfihfaa
open Go.RowKit

theorem splice_at {α : Type} (L cs : List α) (off k : Nat) (h : off + cs.length ≤ L.length) : (splice L off cs)[k]? = if k < off then L[k]? else if k < off + cs.length then cs[k - off]? else L[k]? := by
  unfold splice
  simp only [List.getElem?_append, List.length_take, List.getElem?_take, List.getElem?_drop]
  rw [Nat.min_eq_left (by omega)]
  by_cases c1 : k < off
  · rw [if_pos c1, if_pos c1, if_pos c1]
  · rw [if_neg c1, if_neg c1]
    by_cases c2 : k - off < cs.length
    · rw [if_pos c2, if_pos (by omega)]
    · rw [if_neg c2, if_neg (by omega)]
      congr 1
      omega
theorem splice_take {α : Type} (L cs : List α) (off n : Nat) (h : off + cs.length ≤ n) (hn : n ≤ L.length) : (splice L off cs).take n = splice (L.take n) off cs := by
  apply List.ext_getElem?
  intro k
  rw [List.getElem?_take, splice_at _ _ _ _ (by omega), splice_at _ _ _ _ (by rw [List.length_take]; omega), List.getElem?_take]
  by_cases c1 : k < n
  · rw [if_pos c1, if_pos c1]
  · rw [if_neg c1, if_neg c1, if_neg (by omega), if_neg (by omega)]
theorem splice_map {α β : Type} (f : α → β) (L cs : List α) (off : Nat) : splice (L.map f) off (cs.map f) = (splice L off cs).map f := by
  simp [splice, List.map_take, List.map_drop]
theorem splice_mem {α : Type} {L cs : List α} {off : Nat} {x : α} (h : x ∈ splice L off cs) : x ∈ L ∨ x ∈ cs := by
  unfold splice at h
  rcases List.mem_append.1 h with h | h
  · exact .inl (List.mem_of_mem_take h)
  · rcases List.mem_append.1 h with h | h
    · exact .inr h
    · exact .inl (List.mem_of_mem_drop h)
theorem step_copy_own {P : Program} {ops : Array Oper} {o : Oper} {a : Act} {w : World} {K : Act → World → Prop} {Q : Exit → Act → World → Prop} {E : Prop} (hgd : o.guard = none) (d s : Operand) (dT sT : TypeId)
    (ho : o.op = .call { callee := .builtin .copy, args := #[d, s], argTypes := #[dT, sT] }) (hu : P.underlying dT = some (.slice 3)) (hsz : (P.info? 3).map (·.size) = some 1)
    (lo g off n c : Nat) (dLen dCap : Nat) (ad : Addr) (sLen sCap : Nat) (hd : a.eval d = .slice (some ⟨g, off, none⟩) dLen dCap) (hs : a.eval s = .slice (some ad) sLen sCap)
    (zs row : List Int) (hown : Own w lo (.slice (some ⟨g, 0, none⟩) n c) zs) (hn : row.length = Nat.min sLen dLen)
    (hsrc : ∀ j v, (row.map (Value.int .i64))[j]? = some v → w.cell? (ad.add j) = some v) (hfit : off + row.length ≤ zs.length) (hI : ∀ x ∈ row, I64 x)
    (h : ∀ w', Own w' lo (.slice (some ⟨g, 0, none⟩) n c) (splice zs off row) → w.grownBy w' (some g) → K (a.put o.dst (goInt row.length)) w') :
    if Region.wanted o (yielded ops a.tmps) = true then Oper.wp P o a w K Q else E := by
  have hlen : (splice zs off row).length = zs.length := length_splice _ _ _ hfit
  rcases hown.1.2 with ⟨h', _⟩ | ⟨g', cap, cur, h', hb, hg, hle, hm, hs', ht⟩
  · cases h'
  · simp only [Value.slice.injEq, Option.some.injEq, Addr.mk.injEq, and_true] at h'
    obtain ⟨rfl, hn', rfl⟩ := h'
    have hcl : cur.toList.length = c := by rw [Array.length_toList]; omega
    refine step_copy_row hgd d s dT sT ho 3 hu hsz g off dLen dCap ad sLen sCap hd hs cur.toList 3 (by unfold Blk; simpa using hg) (row.map (Value.int .i64)) (by rw [List.length_map]; exact hn) hsrc (by rw [List.length_map, hcl]; omega) (ints_oneCell _ _) ?_
    intro w' hB hgr
    rw [List.length_map]
    refine h w' ⟨⟨by simp [hlen], .inr ⟨g, c, _, by rw [hn', hlen], hb, hB, by rw [hlen]; exact hle, hm, ?_, ?_⟩⟩, ?_⟩ hgr
    · rw [List.size_toArray, length_splice _ _ _ (by rw [List.length_map, hcl]; omega), hcl]; omega
    · rw [List.toList_toArray, hlen, splice_take _ _ _ _ (by rw [List.length_map]; omega) (by rw [hcl]; omega), ht, splice_map]
    · intro x hx
      rcases splice_mem hx with hx | hx
      · exact hown.2 x hx
      · exact hI x hx
end Go.Proofs.Ytihhlldpdfihfaa
