/- The library's sort of a slice of numbers of the call's own, and its compaction. Condition: few numbers. -/
import Derived.Test.YtihhlldpdfihfaaSortMath
import Derived.Test.YtihhlldpdfihfaaShelf
import Derived.Sort.OwnSorted
import Derived.Lib.OwnBridge
namespace Go.Proofs.Ytihhlldpdfihfaa
open Go.RowKit

theorem own_grow {w : World} {base n : Nat} {e : TypeId} {v : Value} {xs : List Value} (os : Array Obj) (h : w.ownsRow base e 1 v n xs) : (Go.Sort.grow w os).ownsRow base e 1 v n xs := by
  refine ⟨h.1, ?_⟩
  rcases h.2 with h0 | ⟨g, cap, cur, rfl, hbb, hg, r⟩
  · exact .inl h0
  · exact .inr ⟨g, cap, cur, rfl, hbb, (Go.Sort.heap_grow_old w os (Array.getElem?_eq_some_iff.1 hg).1).trans hg, r⟩
theorem below_growS {B : Nat} {w0 w : World} (os : Array Obj) (h : Below B w0 w) (hB : B ≤ w0.heap.size) : Below B w0 (Go.Sort.grow w os) :=
  ⟨h.os, h.tape, h.output, Nat.le_trans h.size (by simp [Go.Sort.grow]), fun k hk => (Go.Sort.heap_grow_old w os (Nat.lt_of_lt_of_le (Nat.lt_of_lt_of_le hk hB) h.size)).trans (h.block k hk)⟩
theorem sortInts_any (A : Option Addr) (n cap lo : Nat) (zs : List Int) (w : World) (h : Own w lo (.slice A n cap) zs) (hl : zs.length ≤ 1000000) (hlo : lo ≤ w.heap.size) :
    Calls Try.prog 47 #[.slice A n cap] w fun e w' => e = .returned (.tuple #[]) ∧ Own w' lo (.slice A n cap) (sortI zs) ∧ Below lo w w' := by
  have hn : zs.length = n := h.rd.len
  cases hz : zs with
  | nil =>
    subst hz
    have hn0 : n = 0 := hn.symm
    subst hn0
    refine (Try.slices_Sort_int_none A cap w).mono ?_
    rintro e w' ⟨rfl, rfl⟩
    exact ⟨rfl, by have : sortI [] = [] := by simp [sortI]
                   rw [this]; exact h, Below.refl _ _⟩
  | cons a t =>
    rw [← hz]
    have hne : (Value.slice A n cap) ≠ .slice none 0 0 := by intro e; injection e with _ e2 _; rw [hz] at hn; simp at hn; omega
    have hrow := h.1
    obtain ⟨g, cap', hv, hg1, hg2, hcap, hcm, hln, hH⟩ := Lib.holds_of_ownsRow hrow hne
    cases hv
    refine (Try.slices_Sort_int g 0 cap zs w hH hg2 (by omega)).mono ?_
    rintro e w' ⟨rfl, q, os, rfl⟩
    have hsl : (zs.mergeSort fun x y => decide (x ≤ y)).length = zs.length := List.length_mergeSort zs
    have h1 := Lib.ownsRow_putRow (q := q) (k := zs.length) (ys := zs.mergeSort fun x y => decide (x ≤ y)) hrow hsl (Nat.le_refl _)
    rw [List.take_of_length_le (by omega)] at h1
    refine ⟨rfl, ⟨?_, fun x hx => h.2 x ((sortI_mem zs x).1 hx)⟩, below_growS os (Lib.below_putRow (Below.refl lo w) hg1) hlo⟩
    rw [sortI_len]
    exact own_grow os h1
theorem compactInts_any (A : Option Addr) (n cap lo : Nat) (zs : List Int) (w : World) (h : Own w lo (.slice A n cap) zs) (hl : zs.length ≤ 1000000) :
    Calls Try.prog 48 #[.slice A n cap] w fun e w' => e = .returned (.slice A (Lib.compact zs).length cap) ∧ Own w' lo (.slice A (Lib.compact zs).length cap) (Lib.compact zs) ∧ Below lo w w' := by
  have hn : zs.length = n := h.rd.len
  have hcn : n ≤ cap := h.rd.cap
  cases hz : zs with
  | nil =>
    subst hz
    have hn0 : n = 0 := hn.symm
    subst hn0
    refine (Try.slices_Compact_int_empty A cap w).mono ?_
    rintro e w' ⟨rfl, rfl⟩
    exact ⟨rfl, h, Below.refl _ _⟩
  | cons a t =>
    rw [← hz]
    have hne : (Value.slice A n cap) ≠ .slice none 0 0 := by intro e; injection e with _ e2 _; rw [hz] at hn; simp at hn; omega
    have hrow := h.1
    obtain ⟨g, cap', hv, hg1, hg2, hcap, hcm, hln, hH⟩ := Lib.holds_of_ownsRow hrow hne
    cases hv
    have hc := Try.slices_Compact_int g 0 cap zs w hH (by omega) (by omega)
    rw [hn] at hc
    refine hc.mono ?_
    rintro e w' ⟨rfl, q, rfl⟩
    have hle := Lib.compact_length_le zs
    have h1 := Lib.ownsRow_putRow (q := q) (k := (Lib.compact zs).length) (ys := Lib.compact zs ++ List.replicate (zs.length - (Lib.compact zs).length) 0) hrow (by simp; omega) (by omega)
    rw [List.take_left] at h1
    rw [← hn]
    exact ⟨rfl, ⟨h1, fun x hx => h.2 x ((compactI_mem x).1 hx)⟩, Lib.below_putRow (Below.refl lo w) hg1⟩
end Go.Proofs.Ytihhlldpdfihfaa
