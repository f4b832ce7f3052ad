/- How the laws' inputs are drawn: bytes that a law gets, the cursor over them. Condition: fewer than 4294967296 draws. -/
import Derived.Test.YtihhlldpdfihfaaBase
import Derived.Test.YtihhlldpdfihfaaOpen
namespace Go.Proofs.Ytihhlldpdfihfaa
open Go.RowKit Go.ChangeShapes Go.WideShapes Go.ChangeAt

/-- The slice (A, n, c) reads as bytes and lies below block B. -/
structure RdB (w : World) (B : Nat) (A : Option Addr) (n c : Nat) : Prop where
  cap : n ≤ c
  max : c ≤ maxLen
  cells : 0 < n → ∃ b off, A = some ⟨b, off, none⟩ ∧ b < B ∧ ∀ j, j < n → ∃ x : Int, 0 ≤ x ∧ x ≤ 255 ∧ w.cell? ⟨b, off + j, none⟩ = some (.int .u8 x)
section
variable {w w' : World} {B B' n c : Nat} {A : Option Addr}
theorem RdB.keep (h : RdB w B A n c) (hk : ∀ b o, b < B → w'.cell? ⟨b, o, none⟩ = w.cell? ⟨b, o, none⟩) : RdB w' B A n c :=
  ⟨h.cap, h.max, fun hn => by
    obtain ⟨b, off, e, hb, hc⟩ := h.cells hn
    exact ⟨b, off, e, hb, fun j hj => by
      obtain ⟨x, x0, x1, hx⟩ := hc j hj
      exact ⟨x, x0, x1, (hk _ _ hb).trans hx⟩⟩⟩
theorem RdB.all (h : RdB w B A n c) (hb : Below w.heap.size w w') (hB : B ≤ w.heap.size) : RdB w' B A n c := h.keep fun b o hp => hb.cell (p := ⟨b, o, none⟩) (by show b < _; omega)
theorem RdB.alloc (h : RdB w B A n c) (hB : B ≤ w.heap.size) (o : Obj) : RdB (w.alloc o) B A n c := h.all ((Below.refl _ _).alloc (Nat.le_refl _) o) hB
theorem RdB.mark {row : Option Nat} (h : RdB w B A n c) (hg : w.grownBy w' row) (hr : ∀ k, row = some k → B ≤ k) (hB : B ≤ w.heap.size) : RdB w' B A n c :=
  h.keep fun b o hb => World.cell?_of_block (hg.block b (by omega) (fun e => by have := hr b e.symm; omega))
end
section
variable {H : Type} {enc : TypeId × Value → H} {P : Program} {w : World} {base : Nat} {held : Bool}
theorem open_rdb {t e : TypeId} {fuel : Nat} {cs : List Value} {x : DataW H × List MemPlace} (ht : P.underlying t = some (.slice e)) (he : P.underlying e = some (.int .u8)) (hc : P.cellsOf e = 1)
    (h : DataW.trod enc P w base (fun _ => true) held fuel t cs = some x) : ∃ A n c, cs = [.slice A n c] ∧ RdB w w.heap.size A n c := by
  rcases open_ints ht he hc h with ⟨rfl, _⟩ | ⟨a, len, cap, zs, rfl, _, hl, hm, hz, _, hcell, hwf⟩
  · exact ⟨none, 0, 0, rfl, Nat.le_refl _, Nat.zero_le _, fun h => by omega⟩
  · simp only [if_true] at hz
    refine ⟨some a, len, cap, rfl, hl, hm, fun hn => ?_⟩
    obtain ⟨b, off, spot⟩ := a
    have h0 := hcell 0 (by omega)
    have hspot : spot = none := by simpa [Addr.add] using World.cell?_spot h0
    subst hspot
    refine ⟨b, off, rfl, ?_, fun j hj => ?_⟩
    · have := World.block_lt_of_cell? w _ h0
      simpa [Addr.add] using this
    · have := hcell j (by omega)
      have e : (⟨b, off, none⟩ : Addr).add j = ⟨b, off + j, none⟩ := by unfold Addr.add; split <;> simp_all
      rw [e] at this
      have hw := hwf (zs.getD j 0) (by rw [List.getD_eq_getElem?_getD, List.getElem?_eq_getElem (by omega)]; exact List.getElem_mem _)
      have hb : 0 ≤ zs.getD j 0 ∧ zs.getD j 0 ≤ 255 := by
        have e1 : IntKind.u8.min = 0 := rfl
        have e2 : IntKind.u8.max = 255 := rfl
        simp [Lit.wf, e1, e2] at hw
        exact hw
      exact ⟨_, hb.1, hb.2, this⟩
end
set_option maxRecDepth 100000 in
theorem open_code {H : Type} {enc : TypeId × Value → H} {w : World} {r : Reach} {b0 base : Nat} {held : Bool} {v : Value} {d : DataW H} {p : List MemPlace}
    (hv : Value.okWide Try.prog w r b0 22 v) (h : DataW.Trod enc Try.prog w base (fun _ => true) held 22 v d p) : ∃ A n c, v = .slice A n c ∧ RdB w w.heap.size A n c := by
  obtain ⟨a1, len, cap, rfl⟩ := okWide_slice Try.underlying22 hv
  obtain ⟨fuel, hf⟩ := h
  obtain ⟨A, n, c, e, hr⟩ := open_rdb Try.underlying22 Try.underlying5 (by kernel_rfl) hf
  simp [Value.cells] at e
  obtain ⟨rfl, rfl, rfl⟩ := e
  exact ⟨_, _, _, rfl, hr⟩
/-- The cursor in block p: at most k bytes have been asked for. -/
def Cur (w : World) (p k : Nat) : Prop := ∃ (B : Nat) (A : Option Addr) (n c a : Nat) (sd : Int), Blk w p 52 #[.slice A n c, .int .i64 a, .int .u64 sd] ∧ RdB w B A n c ∧ B ≤ p ∧ n ≤ 65536 ∧ a ≤ k
theorem Cur.more {w : World} {p k k' : Nat} (h : Cur w p k) (hk : k ≤ k') : Cur w p k' := by
  obtain ⟨B, A, n, c, a, sd, h1, h2, h3, h4, h5⟩ := h
  exact ⟨B, A, n, c, a, sd, h1, h2, h3, h4, Nat.le_trans h5 hk⟩
theorem Cur.lt {w : World} {p k : Nat} (h : Cur w p k) : p < w.heap.size := by
  obtain ⟨_, _, _, _, _, _, h1, _⟩ := h
  exact h1.lt
theorem Cur.all {w w' : World} {p k : Nat} (h : Cur w p k) (hb : Below w.heap.size w w') : Cur w' p k := by
  obtain ⟨B, A, n, c, a, sd, h1, h2, h3, h4, h5⟩ := h
  exact ⟨B, A, n, c, a, sd, h1.all hb, h2.all hb (Nat.le_trans h3 (Nat.le_of_lt h1.lt)), h3, h4, h5⟩
theorem Cur.mark {w w' : World} {p k : Nat} {row : Option Nat} (h : Cur w p k) (hg : w.grownBy w' row) (hr : ∀ z, row = some z → p < z) : Cur w' p k := by
  obtain ⟨B, A, n, c, a, sd, h1, h2, h3, h4, h5⟩ := h
  exact ⟨B, A, n, c, a, sd, h1.mark hg (fun z hz => by have := hr z hz; omega), h2.mark hg (fun z hz => by have := hr z hz; omega) (Nat.le_trans h3 (Nat.le_of_lt h1.lt)), h3, h4, h5⟩
theorem grown_below {w w' : World} {p B : Nat} (hg : w.grownBy w' (some p)) (hB : B ≤ p) (hs : B ≤ w.heap.size) : Below B w w' :=
  (Below.refl B w).grown hg hs (fun k hk => by cases hk; exact hB)
theorem below_grown {w w' : World} {row : Option Nat} (hb : Below w.heap.size w w') : w.grownBy w' row := ⟨hb.os, hb.tape, hb.output, hb.size, fun k hk _ => hb.block k hk⟩
end Go.Proofs.Ytihhlldpdfihfaa
