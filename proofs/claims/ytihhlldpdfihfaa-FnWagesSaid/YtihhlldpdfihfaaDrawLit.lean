/- Words for draws out of literals, of any chapter. Condition: few draws. -/
import Derived.Test.YtihhlldpdfihfaaPick
import Derived.Test.YtihhlldpdfihfaaSeq
namespace Go.Proofs.Ytihhlldpdfihfaa
open Go.RowKit

theorem i64_lit {l : List Int} (h : ∀ x ∈ l, -100000 ≤ x ∧ x ≤ 100000) : ∀ x ∈ l, I64 x := fun x hx => by have := h x hx; unfold I64; omega
theorem i64_small5 {x : Int} (h1 : -1000000 ≤ x) (h2 : x ≤ 1000000) : I64 x := ⟨by omega, by omega⟩
theorem among5 (p k q m : Nat) (xs : List Int) (w : World) (hq : q = w.heap.size) (hm : m = xs.length) (h : Cur w p k) (hk : k + 2 ≤ 4294967296) (h1 : 1 ≤ xs.length) (hn : xs.length ≤ 1000) (hx : ∀ x ∈ xs, I64 x) :
    Calls Try.prog 33 #[.pointer (some ⟨p, 0, none⟩), .slice (some ⟨q, 0, none⟩) m m] (w.alloc (.cells (xs.map (Value.int .i64)).toArray 3)) fun e w' => ∃ y : Int, e = .returned (.int .i64 y) ∧ y ∈ xs ∧ Cur w' p (k + 2) ∧ w.grownBy w' (some p) := by
  subst hq
  subst hm
  have hal := (Below.refl w.heap.size w).alloc (Nat.le_refl _) (.cells (xs.map (Value.int .i64)).toArray 3)
  have hp := h.lt
  refine (among_any p k w.heap.size 0 xs.length xs.length _ xs _ (h.all hal) hk (lit_rd w xs hx hn) h1 hn (by omega)).mono ?_
  rintro e w' ⟨y, rfl, hy, hc, hg⟩
  exact ⟨y, rfl, hy, hc, grown_trans (below_grown hal) hg⟩
/-- .. out of the head of such a list. -/
theorem among_head (p k q c n B : Nat) (xs : List Int) (w : World) (h : Cur w p k) (hk : k + 2 ≤ 4294967296) (hR : Rd w B (some ⟨q, 0, none⟩) c c xs) (h1 : 1 ≤ n) (hn : n ≤ c) (hc : c ≤ 1000) (hqp : q ≠ p) :
    Calls Try.prog 33 #[.pointer (some ⟨p, 0, none⟩), .slice (some ⟨q, 0, none⟩) n c] w (Drew w p (k + 2) fun y => y ∈ xs) := by
  have hl := hR.len
  have hH : Rd w B (some ⟨q, 0, none⟩) n c (xs.take n) := by
    refine ⟨by rw [List.length_take]; omega, hn, hR.max, fun _ => ?_, fun x hx => hR.fits x (List.mem_of_mem_take hx), fun e => by cases e⟩
    obtain ⟨b, off, e, hb, hcl⟩ := hR.cells (by omega)
    refine ⟨b, off, e, hb, fun j hj => ?_⟩
    rw [hcl j (by omega)]
    simp [List.getD_eq_getElem?_getD, hj]
  refine (among_any p k q 0 n c B _ w h hk hH h1 (by omega) hqp).mono ?_
  rintro e w' ⟨y, rfl, hy, hc, hg⟩
  exact ⟨y, rfl, List.mem_of_mem_take hy, hc, hg⟩
theorem cur_set {w : World} {p k : Nat} (h : Cur w p k) {a : Addr} (hp : p < a.block) (v : Value) : Cur (w.setCell a v) p k := h.mark (grown_setCell w a v) (fun z hz => by cases hz; exact hp)
theorem grown_set {w w1 : World} {row : Option Nat} (h : w.grownBy w1 row) {a : Addr} (hp : w.heap.size ≤ a.block) (v : Value) : w.grownBy (w1.setCell a v) row :=
  ⟨h.os, h.tape, h.output, Nat.le_trans h.size (by simp [World.setCell]), fun k hk hne => (heap_setCell_other w1 a k v (by omega)).trans (h.block k hk hne)⟩
theorem blk_set {w : World} {p : Nat} {t : TypeId} {cs : Array Value} (h : Blk w p t cs) {a : Addr} (ha : p ≠ a.block) (u : Value) : Blk (w.setCell a u) p t cs := h.far ha u
def lenV : Value → Nat
  | .slice _ n _ => n
  | _ => 0
theorem grown_far {w w1 w2 : World} {row row2 : Option Nat} (h : w.grownBy w1 row) (hg : w1.grownBy w2 row2) (hr : ∀ z, row2 = some z → w.heap.size ≤ z) : w.grownBy w2 row :=
  ⟨hg.os.trans h.os, hg.tape.trans h.tape, hg.output.trans h.output, Nat.le_trans h.size hg.size, fun k hk hne => (hg.block k (Nat.lt_of_lt_of_le hk h.size) (fun e => by have := hr k e.symm; omega)).trans (h.block k hk hne)⟩
theorem cur_new5 {w : World} {B n c : Nat} {A : Option Addr} (h : RdB w B A n c) (hB : B ≤ w.heap.size) (hn : n ≤ 65536) : Cur (w.alloc (.cells #[.slice A n c, .int .i64 0, .int .u64 0] 52)) w.heap.size 0 :=
  ⟨B, A, n, c, 0, 0, Blk.new _ _ _, h.alloc hB _, hB, hn, Nat.le_refl _⟩
theorem rBig_eq (A : Option Addr) (n c : Nat) (w : World) (hn : n ≤ 9223372036854775807) (d : Bool) (hd : decide (65536 < n) = d) : Calls Try.prog 4 #[.slice A n c] w fun e w' => e = .returned (.bool d) ∧ w = w' := by
  subst hd
  go_enter Try.func4, Try.ntmps4
  go_wp2
  go_ret
  exact ⟨ret_bool (by rw [Bool.eq_iff_iff]; simp <;> omega), rfl⟩
theorem rd5 {w : World} {q : Nat} {xs : List Int} (h : Blk w q 3 (xs.map (Value.int .i64)).toArray) (hx : ∀ x ∈ xs, I64 x) (hn : xs.length ≤ 1000) : Rd w (q + 1) (some ⟨q, 0, none⟩) xs.length xs.length xs :=
  ⟨rfl, Nat.le_refl _, by unfold maxLen; omega, fun _ => ⟨q, 0, rfl, by omega, fun j hj => by
    rw [Nat.zero_add, h.cell]
    simp [hj]⟩, hx, fun e => by cases e⟩
end Go.Proofs.Ytihhlldpdfihfaa
