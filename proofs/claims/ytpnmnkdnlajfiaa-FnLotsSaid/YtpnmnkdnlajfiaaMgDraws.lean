/- Several texts of this proof in one: Open, Draw, Next, Pick, PlainDraw, DrawChart, DrawBase. No condition. -/
import Derived.Test.YtpnmnkdnlajfiaaHelpChart
import Derived.Test.YtpnmnkdnlajfiaaKit
import Derived.OpenShut
import Derived.Lib.SmallJoins
import Derived.Test.YtpnmnkdnlajfiaaBase
import Derived.Laws.BitsAllLaws
import Derived.Test.YtpnmnkdnlajfiaaChartMath
import Derived.Deep.DeepCutAuto
import Derived.BigQuiet
namespace Go.Proofs.Ytpnmnkdnlajfiaa
open Go.RowKit Go.ChangeShapes Go.WideShapes Go.ChangeAt

section
variable {H : Type} {enc : TypeId × Value → H} {P : Program} {w : World} {base : Nat} {held : Bool}
theorem open_ints_rd {t e : TypeId} {fuel : Nat} {cs : List Value} {x : DataW H × List MemPlace} (ht : P.underlying t = some (.slice e)) (he : P.underlying e = some (.int .i64)) (hc : P.cellsOf e = 1)
    (h : DataW.trod enc P w base (fun _ => true) held fuel t cs = some x) : ∃ A n c xs, cs = [.slice A n c] ∧ Rd w w.heap.size A n c xs := by
  rcases open_ints ht he hc h with ⟨rfl, _⟩ | ⟨a, len, cap, zs, rfl, _, hl, hm, hz, _, hcell, hwf⟩
  · exact ⟨none, 0, 0, [], rfl, rfl, Nat.le_refl _, Nat.zero_le _, fun h => by omega, fun x hx => by simp at hx, fun _ => ⟨rfl, rfl⟩⟩
  · simp only [if_true] at hz
    refine ⟨some a, len, cap, zs.take len, rfl, by rw [List.length_take]; omega, hl, hm, fun hn => ?_, fun x hx => kit.wf_bd (hwf x (List.mem_of_mem_take hx)), fun h => by cases h⟩
    obtain ⟨b, off, spot⟩ := a
    have h0 := hcell 0 (by omega)
    have hspot : spot = none := by simpa [Addr.add] using World.cell?_spot h0
    subst hspot
    refine ⟨b, off, rfl, ?_, fun j hj => ?_⟩
    · have := World.block_lt_of_cell? w _ h0
      simpa [Addr.add] using this
    · have := hcell j (by omega)
      have e : (⟨b, off, none⟩ : Addr).add j = ⟨b, off + j, none⟩ := by unfold Addr.add; split <;> simp_all
      rw [e] at this
      rw [this, List.getD_eq_getElem?_getD, List.getD_eq_getElem?_getD, List.getElem?_take, if_pos hj]
end

end Go.Proofs.Ytpnmnkdnlajfiaa
namespace Go.Proofs.Ytpnmnkdnlajfiaa
open Go.RowKit Go.ChangeShapes Go.WideShapes Go.ChangeAt

/-- The slice (A, n, c) reads as bytes and lies below block B. -/
structure RdB (w : World) (B : Nat) (A : Option Addr) (n c : Nat) : Prop where
  cap : n ≤ c
  max : c ≤ maxLen
  cells : 0 < n → ∃ b off, A = some ⟨b, off, none⟩ ∧ b < B ∧ ∀ j, j < n → ∃ x : Int, 0 ≤ x ∧ x ≤ 255 ∧ w.cell? ⟨b, off + j, none⟩ = some (.int .u8 x)
section
variable {w w' : World} {B B' n c : Nat} {A : Option Addr}
theorem RdB.keep (h : RdB w B A n c) (hk : ∀ b o, b < B → w'.cell? ⟨b, o, none⟩ = w.cell? ⟨b, o, none⟩) : RdB w' B A n c :=
  ⟨h.cap, h.max, fun hn => by
    obtain ⟨b, off, e, hb, hc⟩ := h.cells hn
    exact ⟨b, off, e, hb, fun j hj => by
      obtain ⟨x, x0, x1, hx⟩ := hc j hj
      exact ⟨x, x0, x1, (hk _ _ hb).trans hx⟩⟩⟩
theorem RdB.all (h : RdB w B A n c) (hb : Below w.heap.size w w') (hB : B ≤ w.heap.size) : RdB w' B A n c := h.keep fun b o hp => hb.cell (p := ⟨b, o, none⟩) (by show b < _; omega)
theorem RdB.alloc (h : RdB w B A n c) (hB : B ≤ w.heap.size) (o : Obj) : RdB (w.alloc o) B A n c := h.all ((Below.refl _ _).alloc (Nat.le_refl _) o) hB
theorem RdB.mark {row : Option Nat} (h : RdB w B A n c) (hg : w.grownBy w' row) (hr : ∀ k, row = some k → B ≤ k) (hB : B ≤ w.heap.size) : RdB w' B A n c :=
  h.keep fun b o hb => World.cell?_of_block (hg.block b (by omega) (fun e => by have := hr b e.symm; omega))
end
section
variable {H : Type} {enc : TypeId × Value → H} {P : Program} {w : World} {base : Nat} {held : Bool}
theorem open_rdb {t e : TypeId} {fuel : Nat} {cs : List Value} {x : DataW H × List MemPlace} (ht : P.underlying t = some (.slice e)) (he : P.underlying e = some (.int .u8)) (hc : P.cellsOf e = 1)
    (h : DataW.trod enc P w base (fun _ => true) held fuel t cs = some x) : ∃ A n c, cs = [.slice A n c] ∧ RdB w w.heap.size A n c := by
  rcases open_ints ht he hc h with ⟨rfl, _⟩ | ⟨a, len, cap, zs, rfl, _, hl, hm, hz, _, hcell, hwf⟩
  · exact ⟨none, 0, 0, rfl, Nat.le_refl _, Nat.zero_le _, fun h => by omega⟩
  · simp only [if_true] at hz
    refine ⟨some a, len, cap, rfl, hl, hm, fun hn => ?_⟩
    obtain ⟨b, off, spot⟩ := a
    have h0 := hcell 0 (by omega)
    have hspot : spot = none := by simpa [Addr.add] using World.cell?_spot h0
    subst hspot
    refine ⟨b, off, rfl, ?_, fun j hj => ?_⟩
    · have := World.block_lt_of_cell? w _ h0
      simpa [Addr.add] using this
    · have := hcell j (by omega)
      have e : (⟨b, off, none⟩ : Addr).add j = ⟨b, off + j, none⟩ := by unfold Addr.add; split <;> simp_all
      rw [e] at this
      have hw := hwf (zs.getD j 0) (by rw [List.getD_eq_getElem?_getD, List.getElem?_eq_getElem (by omega)]; exact List.getElem_mem _)
      have hb : 0 ≤ zs.getD j 0 ∧ zs.getD j 0 ≤ 255 := by
        have e1 : IntKind.u8.min = 0 := rfl
        have e2 : IntKind.u8.max = 255 := rfl
        simp [Lit.wf, e1, e2] at hw
        exact hw
      exact ⟨_, hb.1, hb.2, this⟩
end
set_option maxRecDepth 100000 in
theorem open_code {H : Type} {enc : TypeId × Value → H} {w : World} {r : Reach} {b0 base : Nat} {held : Bool} {v : Value} {d : DataW H} {p : List MemPlace}
    (hv : Value.okWide Try.prog w r b0 22 v) (h : DataW.Trod enc Try.prog w base (fun _ => true) held 22 v d p) : ∃ A n c, v = .slice A n c ∧ RdB w w.heap.size A n c := by
  obtain ⟨a1, len, cap, rfl⟩ := okWide_slice Try.underlying22 hv
  obtain ⟨fuel, hf⟩ := h
  obtain ⟨A, n, c, e, hr⟩ := open_rdb Try.underlying22 Try.underlying5 (by kernel_rfl) hf
  simp [Value.cells] at e
  obtain ⟨rfl, rfl, rfl⟩ := e
  exact ⟨_, _, _, rfl, hr⟩
/-- The cursor in block p: at most k bytes have been asked for. -/
def Cur (w : World) (p k : Nat) : Prop := ∃ (B : Nat) (A : Option Addr) (n c a : Nat) (sd : Int), Blk w p 45 #[.slice A n c, .int .i64 a, .int .u64 sd] ∧ RdB w B A n c ∧ B ≤ p ∧ n ≤ 65536 ∧ a ≤ k
theorem Cur.more {w : World} {p k k' : Nat} (h : Cur w p k) (hk : k ≤ k') : Cur w p k' := by
  obtain ⟨B, A, n, c, a, sd, h1, h2, h3, h4, h5⟩ := h
  exact ⟨B, A, n, c, a, sd, h1, h2, h3, h4, Nat.le_trans h5 hk⟩
theorem Cur.lt {w : World} {p k : Nat} (h : Cur w p k) : p < w.heap.size := by
  obtain ⟨_, _, _, _, _, _, h1, _⟩ := h
  exact h1.lt
theorem Cur.all {w w' : World} {p k : Nat} (h : Cur w p k) (hb : Below w.heap.size w w') : Cur w' p k := by
  obtain ⟨B, A, n, c, a, sd, h1, h2, h3, h4, h5⟩ := h
  exact ⟨B, A, n, c, a, sd, h1.all hb, h2.all hb (Nat.le_trans h3 (Nat.le_of_lt h1.lt)), h3, h4, h5⟩
theorem Cur.mark {w w' : World} {p k : Nat} {row : Option Nat} (h : Cur w p k) (hg : w.grownBy w' row) (hr : ∀ z, row = some z → p < z) : Cur w' p k := by
  obtain ⟨B, A, n, c, a, sd, h1, h2, h3, h4, h5⟩ := h
  exact ⟨B, A, n, c, a, sd, h1.mark hg (fun z hz => by have := hr z hz; omega), h2.mark hg (fun z hz => by have := hr z hz; omega) (Nat.le_trans h3 (Nat.le_of_lt h1.lt)), h3, h4, h5⟩
theorem grown_below {w w' : World} {p B : Nat} (hg : w.grownBy w' (some p)) (hB : B ≤ p) (hs : B ≤ w.heap.size) : Below B w w' :=
  (Below.refl B w).grown hg hs (fun k hk => by cases hk; exact hB)
theorem below_grown {w w' : World} {row : Option Nat} (hb : Below w.heap.size w w') : w.grownBy w' row := ⟨hb.os, hb.tape, hb.output, hb.size, fun k hk _ => hb.block k hk⟩
end Go.Proofs.Ytpnmnkdnlajfiaa
namespace Go.Proofs.Ytpnmnkdnlajfiaa
open Go.RowKit

/-- What a draw of a number leaves: the number, the cursor, nothing else written. -/
def Drew (w : World) (p k : Nat) (P : Int → Prop) (e : Ending) (w' : World) : Prop := ∃ x : Int, e = .returned (.int .i64 x) ∧ P x ∧ Cur w' p k ∧ w.grownBy w' (some p)
theorem drew_grown (w : World) (row : Option Nat) : w.grownBy w.drew row := ⟨rfl, rfl, rfl, Nat.le_refl _, fun _ _ _ => rfl⟩
/-- The cursor behind a draw. -/
theorem cur_next {w : World} {p n c a k B : Nat} {A : Option Addr} {sd sd' : Int} (hC : Blk w p 45 #[.slice A n c, .int .i64 a, .int .u64 sd]) (hR : RdB w B A n c) (hBp : B ≤ p) (hn : n ≤ 65536) (hak : a ≤ k) :
    Cur ((w.setCell ⟨p, 1, none⟩ (.int .i64 ((a : Int) + 1))).setCell ⟨p, 2, none⟩ (.int .u64 sd')) p (k + 1) ∧ w.grownBy ((w.setCell ⟨p, 1, none⟩ (.int .i64 ((a : Int) + 1))).setCell ⟨p, 2, none⟩ (.int .u64 sd')) (some p) := by
  have h1 : w.grownBy (w.setCell ⟨p, 1, none⟩ (.int .i64 ((a : Int) + 1))) (some p) := grown_setCell _ _ _
  have h2 : (w.setCell ⟨p, 1, none⟩ (.int .i64 ((a : Int) + 1))).grownBy ((w.setCell ⟨p, 1, none⟩ (.int .i64 ((a : Int) + 1))).setCell ⟨p, 2, none⟩ (.int .u64 sd')) (some p) := grown_setCell _ _ _
  have hg := grown_trans h1 h2
  refine ⟨⟨B, A, n, c, a + 1, sd', ?_, hR.mark hg (fun z hz => by cases hz; exact hBp) (Nat.le_trans hBp (Nat.le_of_lt hC.lt)), hBp, hn, by omega⟩, hg⟩
  have := (hC.set_ 1 (.int .i64 ((a : Int) + 1))).set_ 2 (.int .u64 sd')
  simpa using this
theorem cur_drew {w : World} {p k : Nat} (h : Cur w p k) : Cur w.drew p k := h.all ⟨rfl, rfl, rfl, Nat.le_refl _, fun _ _ => rfl⟩
theorem and255 (X : Int) (h0 : 0 ≤ X) (h1 : X < 18446744073709551616) : 0 ≤ wrap64 (bits .and .u64 X 255) ∧ wrap64 (bits .and .u64 X 255) ≤ 255 := by
  rw [u64_and X 255 h0 h1 (by omega) (by omega)]
  have h : X.toNat &&& (255 : Int).toNat ≤ 255 := Nat.and_le_right
  rw [IntWalk.wrap64_in _ (by omega)]
  omega
set_option maxRecDepth 100000 in
set_option maxHeartbeats 4000000 in
theorem next_any (p k : Nat) (w : World) (h : Cur w p k) (hk : k ≤ 4294967296) : Calls Try.prog 54 #[.pointer (some ⟨p, 0, none⟩)] w (Drew w p (k + 1) fun x => 0 ≤ x ∧ x ≤ 255) := by
  obtain ⟨B, A, n, c, a, sd, hC, hR, hBp, hn, hak⟩ := h
  have c0 := hC.cell 0
  have c1 := hC.cell 1
  have c2 := hC.cell 2
  have z1 := hC.frozen 1
  have z2 := hC.frozen 2
  have hcap := hR.cap
  have hmax := hR.max
  unfold maxLen at hmax
  by_cases hlt : a < n
  · obtain ⟨b, off, rfl, hbB, hcell⟩ := hR.cells (by omega)
    obtain ⟨x, x0, x1, hx⟩ := hcell a hlt
    have hbp : b ≠ p := by omega
    have hle : a + 1 ≤ n := hlt
    clear hcell
    go_enter Try.func54, Try.ntmps54
    go_wp2
    go_region
    go_wp2
    go_region
    go_wp2
    go_region
    go_wp2
    go_ret
    obtain ⟨h1, h2⟩ := cur_next (sd' := IntKind.u64.wrap (IntKind.u64.wrap (IntKind.u64.wrap (sd * 6364136223846793005) + x) + 102323)) hC hR hBp hn hak
    exact ⟨x, rfl, ⟨x0, x1⟩, cur_drew (cur_drew (cur_drew h1)), grown_trans (grown_trans (grown_trans h2 (drew_grown _ _)) (drew_grown _ _)) (drew_grown _ _)⟩
  · go_enter Try.func54, Try.ntmps54
    go_wp2
    go_region
    go_wp2
    go_region
    go_wp2
    go_ret
    obtain ⟨h1, h2⟩ := cur_next (sd' := IntKind.u64.wrap (IntKind.u64.wrap (IntKind.u64.wrap (sd * 6364136223846793005)) + 102323)) hC hR hBp hn hak
    have hw : 0 ≤ IntKind.u64.wrap (IntKind.u64.wrap (IntKind.u64.wrap (sd * 6364136223846793005)) + 102323) ∧ IntKind.u64.wrap (IntKind.u64.wrap (IntKind.u64.wrap (sd * 6364136223846793005)) + 102323) < 18446744073709551616 := by
      generalize IntKind.u64.wrap (IntKind.u64.wrap (sd * 6364136223846793005)) + 102323 = y
      rw [IntKind.wrap_u64]
      omega
    have ha := and255 (IntKind.u64.wrap (IntKind.u64.wrap (IntKind.u64.wrap (sd * 6364136223846793005)) + 102323) / 1099511627776) (by omega) (by omega)
    exact ⟨_, rfl, ha, cur_drew (cur_drew h1), grown_trans (grown_trans h2 (drew_grown _ _)) (drew_grown _ _)⟩
end Go.Proofs.Ytpnmnkdnlajfiaa
namespace Go.Proofs.Ytpnmnkdnlajfiaa
open Go.RowKit

theorem tmod_bd {x n : Int} (hn : 1 < n) : 0 ≤ x % n ∧ x % n < n := by
  exact ⟨Int.emod_nonneg _ (by omega), Int.emod_lt_of_pos _ (by omega)⟩
theorem grown_same (w : World) (row : Option Nat) : w.grownBy w row := ⟨rfl, rfl, rfl, Nat.le_refl _, fun _ _ _ => rfl⟩
set_option maxRecDepth 100000 in
set_option maxHeartbeats 1000000 in
theorem pick_any (p k : Nat) (n : Int) (w : World) (h : Cur w p k) (hk : k + 2 ≤ 4294967296) (hn : n ≤ 1000000) (hn0 : -1000000 ≤ n) : Calls Try.prog 31 #[.pointer (some ⟨p, 0, none⟩), .int .i64 n] w (Drew w p (k + 2) fun y => 0 ≤ y ∧ (y < n ∨ y = 0)) := by
  by_cases h1 : n ≤ 1
  · go_enter Try.func31, Try.ntmps31
    go_wp2
    go_ret
    exact ⟨0, rfl, ⟨Int.le_refl _, .inr rfl⟩, h.more (by omega), grown_same _ _⟩
  · have hne : ¬ n = 0 := by omega
    by_cases h2 : n ≤ 200
    · go_enter Try.func31, Try.ntmps31
      go_wp2_with fail
      refine (next_any p k _ h (by omega)).mono ?_
      rintro e w1 ⟨x, rfl, ⟨x0, x1⟩, hc, hg⟩
      have hb := tmod_bd (x := x) (show 1 < n by omega)
      clear h
      go_wp2
      go_ret
      exact ⟨_, rfl, ⟨hb.1, .inl hb.2⟩, hc.more (by omega), hg⟩
    · go_enter Try.func31, Try.ntmps31
      go_wp2_with fail
      refine (next_any p k _ h (by omega)).mono ?_
      rintro e w1 ⟨x, rfl, ⟨x0, x1⟩, hc, hg⟩
      clear h
      go_wp2_with fail
      refine (next_any p (k + 1) _ hc (by omega)).mono ?_
      rintro e w2 ⟨y, rfl, ⟨y0, y1⟩, hc2, hg2⟩
      have hb := tmod_bd (x := x * 256 + y) (show 1 < n by omega)
      clear hc
      go_wp2
      go_ret
      exact ⟨_, rfl, ⟨hb.1, .inl hb.2⟩, hc2, grown_trans hg hg2⟩
set_option maxRecDepth 100000 in
set_option maxHeartbeats 400000 in
theorem one_any (p k : Nat) (n : Int) (w : World) (h : Cur w p k) (hk : k + 2 ≤ 4294967296) (hn : n ≤ 1000000) (hn0 : -1000000 ≤ n) : Calls Try.prog 30 #[.pointer (some ⟨p, 0, none⟩), .int .i64 n] w fun e w' => ∃ d : Bool, e = .returned (.bool d) ∧ Cur w' p (k + 2) ∧ w.grownBy w' (some p) := by
  go_enter Try.func30, Try.ntmps30
  go_wp2_with fail
  refine (pick_any p k n _ h hk hn hn0).mono ?_
  rintro e w1 ⟨x, rfl, _, hc, hg⟩
  go_wp2
  go_ret
  exact ⟨_, rfl, hc, hg⟩
set_option maxRecDepth 100000 in
set_option maxHeartbeats 400000 in
theorem among_any (p k b off n c B : Nat) (xs : List Int) (w : World) (h : Cur w p k) (hk : k + 2 ≤ 4294967296) (hR : Rd w B (some ⟨b, off, none⟩) n c xs) (hn1 : 1 ≤ n) (hn : n ≤ 1000) (hpb : b ≠ p) :
    Calls Try.prog 40 #[.pointer (some ⟨p, 0, none⟩), .slice (some ⟨b, off, none⟩) n c] w (Drew w p (k + 2) fun y => y ∈ xs) := by
  obtain rfl := hR.len
  obtain ⟨_, _, e, _, hcell⟩ := hR.cells (by omega)
  cases e
  go_enter Try.func40, Try.ntmps40
  go_wp2_with fail
  refine (pick_any p k xs.length _ h hk (by omega) (by omega)).mono ?_
  rintro e w1 ⟨x, rfl, ⟨x0, x1⟩, hc, hg⟩
  have hxl : x < (xs.length : Int) := by omega
  obtain ⟨q, rfl⟩ := Int.eq_ofNat_of_zero_le x0
  have hq : q < xs.length := by omega
  have hx := hg.cell (a := ⟨b, off + q, none⟩) (hcell q hq) (by simpa using hpb)
  clear h hR hcell x1
  go_wp2
  go_ret
  exact ⟨_, rfl, List.getElem_mem hq, hc, hg⟩
/-- A small list of numbers that the call itself has laid. -/
theorem lit_rd (w : World) (xs : List Int) (h : ∀ x ∈ xs, I64 x) (hn : xs.length ≤ 1000) :
    Rd (w.alloc (.cells (xs.map (Value.int .i64)).toArray 3)) (w.heap.size + 1) (some ⟨w.heap.size, 0, none⟩) xs.length xs.length xs :=
  ⟨rfl, Nat.le_refl _, by unfold maxLen; omega, fun _ => ⟨w.heap.size, 0, rfl, by omega, fun j hj => by
    rw [Nat.zero_add, (Blk.new w _ _).cell]
    simp [hj]⟩, h, fun e => by cases e⟩
set_option maxRecDepth 100000 in
set_option maxHeartbeats 400000 in
theorem color_any (p k : Nat) (w : World) (h : Cur w p k) (hk : k + 2 ≤ 4294967296) : Calls Try.prog 41 #[.pointer (some ⟨p, 0, none⟩)] w (Drew w p (k + 2) fun y => -1 ≤ y ∧ y ≤ 6) := by
  have hpw := h.lt
  have hr := lit_rd w [0, 0, 1, 1, 2, 3, 5, 6, -1] (by intro x hx; simp at hx; unfold I64; omega) (by decide)
  have hc := h.all ((Below.refl _ _).alloc (Nat.le_refl _) (.cells ([0, 0, 1, 1, 2, 3, 5, 6, -1].map (Value.int .i64)).toArray 3))
  go_enter Try.func41, Try.ntmps41
  go_wp2_with fail
  refine (among_any p k w.heap.size 0 9 9 _ [0, 0, 1, 1, 2, 3, 5, 6, -1] _ hc hk hr (by omega) (by omega) (by omega)).mono ?_
  rintro e w1 ⟨y, rfl, hy, hc2, hg⟩
  clear h hr hc
  go_wp2
  go_ret
  refine ⟨y, rfl, ?_, hc2, grown_trans (World.grownBy_alloc _ _ _) hg⟩
  simp at hy
  omega
end Go.Proofs.Ytpnmnkdnlajfiaa
namespace Go.Proofs.Ytpnmnkdnlajfiaa
open Go.RowKit

/-- What a draw of a chart leaves: a chart of the call's own, the cursor, nothing else written. -/
def DrewChart (w : World) (p k : Nat) (P : Int → Int → List Int → Prop) (e : Ending) (w' : World) : Prop :=
  ∃ (W H : Int) (A : Option Addr) (c : Nat) (xs : List Int), e = .returned (chartV W H (.slice A xs.length c)) ∧ P W H xs ∧ Own w' w.heap.size (.slice A xs.length c) xs ∧ Cur w' p k ∧ w.grownBy w' (some p)
theorem Cur.far {w : World} {p k : Nat} (h : Cur w p k) {a : Addr} (ha : p < a.block) (u : Value) : Cur (w.setCell a u) p k := h.mark (grown_setCell w a u) (fun z hz => by cases hz; exact ha)
theorem Cur.below {w w' : World} {p k B : Nat} (h : Cur w p k) (hb : Below B w w') (hB : p < B) : Cur w' p k := by
  obtain ⟨B', A, n, c, a, sd, h1, h2, h3, h4, h5⟩ := h
  exact ⟨B', A, n, c, a, sd, h1.below hb hB, h2.keep (fun b o hbb => hb.cell (p := ⟨b, o, none⟩) (by show b < B; omega)), h3, h4, h5⟩
/-- Stores into blocks of the call's own, behind a draw. -/
theorem grown_own {w w1 w2 : World} {p : Nat} (h : w.grownBy w1 (some p)) (hb : Below w.heap.size w1 w2) : w.grownBy w2 (some p) :=
  ⟨hb.os.trans h.os, hb.tape.trans h.tape, hb.output.trans h.output, Nat.le_trans h.size hb.size, fun k hk hne => (hb.block k hk).trans (h.block k hk hne)⟩
set_option maxRecDepth 100000 in
set_option maxHeartbeats 4000000 in
theorem plain_any (p k W H : Nat) (w : World) (h : Cur w p k) (hk : k + 4 * (W * H) + 4 ≤ 4294967296) (hW : W ≤ 9) (hH : H ≤ 9) :
    Calls Try.prog 39 #[.pointer (some ⟨p, 0, none⟩), .int .i64 W, .int .i64 H] w (DrewChart w p (k + 4 * (W * H)) fun W' H' xs => W' = W ∧ H' = H ∧ xs.length = W * H) := by
  have hpw := h.lt
  have h81 : W * H ≤ 9 * 9 := Nat.mul_le_mul hW hH
  have q0 : (W : Int) * (H : Int) = ((W * H : Nat) : Int) := by rw [← Int.natCast_mul]
  have Q0 := Lib.hid q0
  have q1 : 0 ≤ (W : Int) * (H : Int) := by omega
  have q2 : (W : Int) * (H : Int) ≤ 81 := by omega
  clear q0
  have hb0 := (((Below.refl w.heap.size w).alloc (Nat.le_refl _) (.cells #[.int .i64 0, .int .i64 0, .slice none 0 0] 26)).alloc (by simp) (.cells #[] 3)).alloc (by simp; omega) (.cells #[.int .i64 W, .int .i64 H, .slice (some ⟨w.heap.size + 1, 0, none⟩) 0 0] 26)
  have HG := Lib.hid (below_grown (row := some p) hb0)
  have hc0 := h.below hb0 hpw
  have r0 := ((Blk.new w #[.int .i64 0, .int .i64 0, .slice none 0 0] 26).alloc (.cells #[] 3)).alloc (.cells #[.int .i64 W, .int .i64 H, .slice (some ⟨w.heap.size + 1, 0, none⟩) 0 0] 26)
  have o0 : Own ((w.alloc (.cells #[.int .i64 0, .int .i64 0, .slice none 0 0] 26)).alloc (.cells #[] 3)) w.heap.size (.slice (some ⟨w.heap.size + 1, 0, none⟩) 0 0) [] := by simpa using (Own.empty (w := w.alloc (.cells #[.int .i64 0, .int .i64 0, .slice none 0 0] 26)) (lo := w.heap.size) (by simp))
  have o1 := o0.alloc (.cells #[.int .i64 W, .int .i64 H, .slice (some ⟨w.heap.size + 1, 0, none⟩) 0 0] 26)
  have x1 : Blk (((w.alloc (.cells #[.int .i64 0, .int .i64 0, .slice none 0 0] 26)).alloc (.cells #[] 3)).alloc (.cells #[.int .i64 W, .int .i64 H, .slice (some ⟨w.heap.size + 1, 0, none⟩) 0 0] 26)) (w.heap.size + 1 + 1) 26 #[.int .i64 W, .int .i64 H, .slice (some ⟨w.heap.size + 1, 0, none⟩) 0 0] := (Blk.new _ _ _).at_ (by simp)
  clear h o0 hb0
  go_enter Try.func39, Try.ntmps39
  go_wp2
  go_loopw [8, 9] (fun s8 s9 wr => ∃ (j : Nat) (xs : List Int) (A : Option Addr) (c : Nat), j ≤ W * H ∧ s8 = .int .i64 j ∧ Hid (xs.length = j) ∧ Own wr w.heap.size (.slice A j c) xs ∧
      Blk wr (w.heap.size + 1 + 1) 26 #[.int .i64 W, .int .i64 H, .slice A j c] ∧ Blk wr w.heap.size 26 #[.int .i64 0, .int .i64 0, .slice none 0 0] ∧ Cur wr p (k + 4 * j) ∧ w.grownBy wr (some p))
    (fun s8 _ _ => W * H - (intOf s8).toNat)
  case atStart => exact ⟨0, [], _, 0, Nat.zero_le _, rfl, Lib.hid rfl, o1, x1, r0, hc0, HG.out⟩
  case round =>
    obtain ⟨j, xs, A, c, hj, rfl, HL, ho, x2, r2, hc, hgr⟩ := hrel
    have HG2 := Lib.hid hgr
    have hz2 := hgr.size
    have hpr := hc.lt
    have hol := ho.1.1
    clear hgr o1 x1 r0 hc0 HG hol
    by_cases hlt : j < W * H
    · have hjw : (j : Int) < (W : Int) * (H : Int) := by rw [Q0.out]; omega
      have hW1 : 1 ≤ W := by
        rcases Nat.eq_zero_or_pos W with h0 | h0
        · subst h0; simp at hlt
        · exact h0
      have hr := lit_rd wr [0, 0, 0, 1, 1, 2, 5] (by intro x hx; simp at hx; unfold I64; omega) (by decide)
      have hal := (Below.refl wr.heap.size wr).alloc (Nat.le_refl _) (.cells ([0, 0, 0, 1, 1, 2, 5].map (Value.int .i64)).toArray 3)
      have hc1 := hc.all hal
      go_wp2_with fail
      refine (among_any p (k + 4 * j) wr.heap.size 0 7 7 _ [0, 0, 0, 1, 1, 2, 5] _ hc1 (by omega) hr (by omega) (by omega) (by omega)).mono ?_
      rintro e w3 ⟨y, rfl, hy, hc3, hg3⟩
      have hy64 : I64 y := by simp at hy; unfold I64; omega
      have hg13 := grown_trans (below_grown (row := some p) hal) hg3
      have ho3 := ho.mark hg13 (fun z z' hz hz' => by cases hz; have := (ho.bd z' hz').1; omega)
      have x3 := x2.mark hg13 (fun z hz => by cases hz; omega)
      have r3 := r2.mark hg13 (fun z hz => by cases hz; omega)
      have HG3 := Lib.hid (grown_trans HG2.out hg13)
      have hz3 : w.heap.size ≤ w3.heap.size := HG3.out.size
      have hz4 := r3.lt
      clear hal hc hc1 hr hg3 hg13 ho x2 r2 HG2 hy
      by_cases hjW : W ≤ j
      · have hjWi : (W : Int) ≤ (j : Int) := by omega
        go_wp2_with fail
        refine (one_any p (k + 4 * j + 2) 3 _ hc3 (by omega) (by omega) (by omega)).mono ?_
        rintro e w4 ⟨d, rfl, hc4, hg4⟩
        have ho4 := ho3.mark hg4 (fun z z' hz hz' => by cases hz; have := (ho3.bd z' hz').1; omega)
        have x4 := x3.mark hg4 (fun z hz => by cases hz; omega)
        have r4 := r3.mark hg4 (fun z hz => by cases hz; omega)
        have HG4 := Lib.hid (grown_trans HG3.out hg4)
        have hz5 : w.heap.size ≤ w4.heap.size := HG4.out.size
        clear hc3 hg4 ho3 x3 r3 HG3
        cases d
        · have hz6 := r4.lt
          have f2 := x4.cell 2
          have fz := x4.frozen 2
          have hxl := x4.lt
          go_wp2_with (at_builtin; refine wpList_append_one w4 rfl (.tmp 39) (.tmp 41) 24 rfl Try.underlying24 info_int w.heap.size _ xs y rfl rfl ho4 (by rw [HL.out]; omega) hy64 hz5 ?_)
          intro A9 c9 w9 o9 hg9
          rw [HL.out] at o9 ⊢
          have x9 := x4.mark hg9 (row_ne ho4.1 x4 (by decide))
          have r9 := r4.mark hg9 (row_ne ho4.1 r4 (by decide))
          have c9' := hc4.mark hg9 (fun z hz => by have := (ho4.bd z hz).1; omega)
          have hb9 := (Below.refl w.heap.size w4).grown hg9 hz5 (fun z hz => (ho4.bd z hz).1)
          have f92 := x9.cell 2
          have f9z := x9.frozen 2
          have HL9 := Lib.hid (show (xs ++ [y]).length = j + 1 by rw [List.length_append, HL.out]; rfl)
          have HGA := Lib.hid (grown_own HG4.out (hb9.setCell (p := ⟨w.heap.size + 1 + 1, 2, none⟩) (by show w.heap.size ≤ w.heap.size + 1 + 1; omega) (.slice A9 (j + 1) c9)))
          have x10 := x9.set_ 2 (.slice A9 (j + 1) c9)
          have o10 := o9.far (a := ⟨w.heap.size + 1 + 1, 2, none⟩) (row_ne' o9.1 x9 (by decide)) (.slice A9 (j + 1) c9)
          have r10 := r9.far (a := ⟨w.heap.size + 1 + 1, 2, none⟩) (by simp; omega) (.slice A9 (j + 1) c9)
          have c10 := c9'.far (a := ⟨w.heap.size + 1 + 1, 2, none⟩) (by show p < w.heap.size + 1 + 1; omega) (.slice A9 (j + 1) c9)
          go_wp2
          go_roundw
          case rel => exact ⟨j + 1, _, A9, c9, by omega, by go_num, HL9, o10, by simpa using x10, r10, c10.more (by omega), HGA.out⟩
          case measure => simp [intOf]; omega
        · obtain ⟨g5, rfl, hg51, hg52⟩ := ho4.some_ (by rw [HL.out]; omega)
          have hlt2 : j - W < xs.length := by rw [HL.out]; omega
          obtain ⟨x5, HX5⟩ : ∃ x5, Hid (xs.getD (j - W) 0 = x5) := ⟨_, rfl⟩
          have hx5 := own_at ho4 hlt2 HX5.out
          have h64x : I64 x5 := by rw [← HX5.out, getD_at hlt2]; exact ho4.2 _ (List.getElem_mem hlt2)
          have hw5 : IntKind.i64.wrap ((j : Int) - (W : Int)) = ((j - W : Nat) : Int) := by rw [IntWalk.i64_in _ (by omega)]; omega
          have hij : j - W < j := by omega
          have hij2 : ((j - W : Nat) : Int) < (j : Int) := by omega
          have hij0 : (0 : Int) ≤ ((j - W : Nat) : Int) := by omega
          have hz6 := r4.lt
          have x42 := x4.cell 2
          have f2 := x4.cell 2
          have fz := x4.frozen 2
          have hxl := x4.lt
          go_wp2_with (at_builtin; refine wpList_append_one w4 rfl (.tmp 39) (.tmp 41) 24 rfl Try.underlying24 info_int w.heap.size _ xs x5 rfl rfl ho4 (by rw [HL.out]; omega) h64x hz5 ?_)
          intro A9 c9 w9 o9 hg9
          rw [HL.out] at o9 ⊢
          have x9 := x4.mark hg9 (row_ne ho4.1 x4 (by decide))
          have r9 := r4.mark hg9 (row_ne ho4.1 r4 (by decide))
          have c9' := hc4.mark hg9 (fun z hz => by have := (ho4.bd z hz).1; omega)
          have hb9 := (Below.refl w.heap.size w4).grown hg9 hz5 (fun z hz => (ho4.bd z hz).1)
          have f92 := x9.cell 2
          have f9z := x9.frozen 2
          have HL9 := Lib.hid (show (xs ++ [x5]).length = j + 1 by rw [List.length_append, HL.out]; rfl)
          have HGA := Lib.hid (grown_own HG4.out (hb9.setCell (p := ⟨w.heap.size + 1 + 1, 2, none⟩) (by show w.heap.size ≤ w.heap.size + 1 + 1; omega) (.slice A9 (j + 1) c9)))
          have x10 := x9.set_ 2 (.slice A9 (j + 1) c9)
          have o10 := o9.far (a := ⟨w.heap.size + 1 + 1, 2, none⟩) (row_ne' o9.1 x9 (by decide)) (.slice A9 (j + 1) c9)
          have r10 := r9.far (a := ⟨w.heap.size + 1 + 1, 2, none⟩) (by simp; omega) (.slice A9 (j + 1) c9)
          have c10 := c9'.far (a := ⟨w.heap.size + 1 + 1, 2, none⟩) (by show p < w.heap.size + 1 + 1; omega) (.slice A9 (j + 1) c9)
          go_wp2
          go_roundw
          case rel => exact ⟨j + 1, _, A9, c9, by omega, by go_num, HL9, o10, by simpa using x10, r10, c10.more (by omega), HGA.out⟩
          case measure => simp [intOf]; omega
      · have hjWi : (j : Int) < (W : Int) := by omega
        have f2 := x3.cell 2
        have fz := x3.frozen 2
        have hxl := x3.lt
        go_wp2_with (at_builtin; refine wpList_append_one w3 rfl (.tmp 39) (.tmp 41) 24 rfl Try.underlying24 info_int w.heap.size _ xs y rfl rfl ho3 (by rw [HL.out]; omega) hy64 hz3 ?_)
        intro A9 c9 w9 o9 hg9
        rw [HL.out] at o9 ⊢
        have x9 := x3.mark hg9 (row_ne ho3.1 x3 (by decide))
        have r9 := r3.mark hg9 (row_ne ho3.1 r3 (by decide))
        have c9' := hc3.mark hg9 (fun z hz => by have := (ho3.bd z hz).1; omega)
        have hb9 := (Below.refl w.heap.size w3).grown hg9 hz3 (fun z hz => (ho3.bd z hz).1)
        have f92 := x9.cell 2
        have f9z := x9.frozen 2
        have HL9 := Lib.hid (show (xs ++ [y]).length = j + 1 by rw [List.length_append, HL.out]; rfl)
        have HGA := Lib.hid (grown_own HG3.out (hb9.setCell (p := ⟨w.heap.size + 1 + 1, 2, none⟩) (by show w.heap.size ≤ w.heap.size + 1 + 1; omega) (.slice A9 (j + 1) c9)))
        have x10 := x9.set_ 2 (.slice A9 (j + 1) c9)
        have o10 := o9.far (a := ⟨w.heap.size + 1 + 1, 2, none⟩) (row_ne' o9.1 x9 (by decide)) (.slice A9 (j + 1) c9)
        have r10 := r9.far (a := ⟨w.heap.size + 1 + 1, 2, none⟩) (by simp; omega) (.slice A9 (j + 1) c9)
        have c10 := c9'.far (a := ⟨w.heap.size + 1 + 1, 2, none⟩) (by show p < w.heap.size + 1 + 1; omega) (.slice A9 (j + 1) c9)
        go_wp2
        go_roundw
        case rel => exact ⟨j + 1, _, A9, c9, by omega, by go_num, HL9, o10, by simpa using x10, r10, c10.more (by omega), HGA.out⟩
        case measure => simp [intOf]; omega
    · obtain rfl : j = W * H := by omega
      have hjw : ¬ ((W * H : Nat) : Int) < (W : Int) * (H : Int) := by rw [Q0.out]; omega
      have f0 := x2.cell 0
      have f1 := x2.cell 1
      have f2 := x2.cell 2
      have g0 := r2.cell 0
      have g1 := r2.cell 1
      have g2 := r2.cell 2
      have z0 := r2.frozen 0
      have z1 := r2.frozen 1
      have z2 := r2.frozen 2
      have F := fin3 (p := w.heap.size) (w0 := wr) (B := w.heap.size) (a := .int .i64 W) (b := .int .i64 H) (c := .slice A (W * H) c) ho (row_ne' ho.1 r2 (by decide)) (Below.refl _ _) (Nat.le_refl _)
      have hcF := hc.below F.2 hpw
      have hGF := grown_own HG2.out F.2
      have F1 := F.1
      clear F ho hc HG2 hjw
      go_wp2
      refine bodyPost_ret (v := chartV W H (.slice A (W * H) c)) (by simp [results, Try.results39, go_sem, g0, g1, g2]) rfl ⟨W, H, A, c, xs, ?_, ⟨rfl, rfl, HL.out⟩, ?_, hcF, hGF⟩
      · rw [HL.out]
      · rw [HL.out]; exact F1
end Go.Proofs.Ytpnmnkdnlajfiaa
namespace Go.Proofs.Ytpnmnkdnlajfiaa
open Go.RowKit

theorem I64.lit {l : List Int} (h : ∀ x ∈ l, -1000 ≤ x ∧ x ≤ 1000) : ∀ x ∈ l, I64 x := fun x hx => by have := h x hx; unfold I64; omega
theorem among_lit (p k q m : Nat) (xs : List Int) (w : World) (hq : q = w.heap.size) (hm : m = xs.length) (h : Cur w p k) (hk : k + 2 ≤ 4294967296) (h1 : 1 ≤ xs.length) (hn : xs.length ≤ 1000) (hx : ∀ x ∈ xs, I64 x) :
    Calls Try.prog 40 #[.pointer (some ⟨p, 0, none⟩), .slice (some ⟨q, 0, none⟩) m m] (w.alloc (.cells (xs.map (Value.int .i64)).toArray 3)) fun e w' => ∃ y : Int, e = .returned (.int .i64 y) ∧ y ∈ xs ∧ Cur w' p (k + 2) ∧ w.grownBy w' (some p) := by
  subst hq
  subst hm
  have hal := (Below.refl w.heap.size w).alloc (Nat.le_refl _) (.cells (xs.map (Value.int .i64)).toArray 3)
  have hp := h.lt
  refine (among_any p k w.heap.size 0 xs.length xs.length _ xs _ (h.all hal) hk (lit_rd w xs hx hn) h1 hn (by omega)).mono ?_
  rintro e w' ⟨y, rfl, hy, hc, hg⟩
  exact ⟨y, rfl, hy, hc, grown_trans (below_grown hal) hg⟩
/-- A list that lies in a block known whole. -/
theorem lit_rd2 {w : World} {q : Nat} {xs : List Int} (h : Blk w q 3 (xs.map (Value.int .i64)).toArray) (hx : ∀ x ∈ xs, I64 x) (hn : xs.length ≤ 1000) : Rd w (q + 1) (some ⟨q, 0, none⟩) xs.length xs.length xs :=
  ⟨rfl, Nat.le_refl _, by unfold maxLen; omega, fun _ => ⟨q, 0, rfl, by omega, fun j hj => by
    rw [Nat.zero_add, h.cell]
    simp [hj]⟩, hx, fun e => by cases e⟩
/-- A side, or nearly one. -/
def Side9 (n : Int) : Prop := 0 ≤ n ∧ n ≤ 9
theorem Side9.fit {n : Int} (h : Side9 n) : I64 n := by unfold Side9 at h; unfold I64; omega
set_option maxRecDepth 100000 in
set_option maxHeartbeats 8000000 in
theorem chart_any9 (p k : Nat) (w : World) (h : Cur w p k) (hk : k + 1000 ≤ 4294967296) : Calls Try.prog 38 #[.pointer (some ⟨p, 0, none⟩)] w (DrewChart w p (k + 1000) fun W H xs => xs.length ≤ 1000 ∧ Side9 W ∧ Side9 H) := by
  have hpw := h.lt
  have hb0 := (Below.refl w.heap.size w).alloc (Nat.le_refl _) (.cells #[.int .i64 0, .int .i64 0, .slice none 0 0] 26)
  have HG0 := Lib.hid (below_grown (row := some p) hb0)
  have hc0 := h.all hb0
  have r0 := Blk.new w #[.int .i64 0, .int .i64 0, .slice none 0 0] 26
  clear h hb0
  go_enter Try.func38, Try.ntmps38
  go_wp2_with fail
  refine (among_lit p k (w.heap.size + 1) 9 [1, 2, 3, 3, 4, 4, 5, 6, 8] (w.alloc (.cells #[.int .i64 0, .int .i64 0, .slice none 0 0] 26)) (by simp) rfl hc0 (by omega) (by decide) (by decide) (I64.lit (by decide))).mono ?_
  rintro e w1 ⟨y1, rfl, hy1, hc1, hg1⟩
  have hy1b : 1 ≤ y1 ∧ y1 ≤ 8 := by simp at hy1; omega
  have r1 := r0.mark hg1 (fun z hz => by cases hz; omega)
  have HG1 := Lib.hid (grown_trans HG0.out hg1)
  clear hc0 hg1 r0 HG0 hy1
  go_wp2_with fail
  refine (among_lit p (k + 2) w1.heap.size 7 [1, 2, 3, 3, 4, 5, 8] w1 rfl rfl hc1 (by omega) (by decide) (by decide) (I64.lit (by decide))).mono ?_
  rintro e w2 ⟨y2, rfl, hy2, hc2, hg2⟩
  have hy2b : 1 ≤ y2 ∧ y2 ≤ 8 := by simp at hy2; omega
  have r2 := r1.mark hg2 (fun z hz => by cases hz; omega)
  have HG2 := Lib.hid (grown_trans HG1.out hg2)
  obtain ⟨W, rfl⟩ := Int.eq_ofNat_of_zero_le (show 0 ≤ y1 by omega)
  obtain ⟨H, rfl⟩ := Int.eq_ofNat_of_zero_le (show 0 ≤ y2 by omega)
  have hWH : W * H ≤ 8 * 8 := Nat.mul_le_mul (by omega) (by omega)
  have hWH1 : 1 * 1 ≤ W * H := Nat.mul_le_mul (by omega) (by omega)
  clear hc1 hg2 r1 HG1 hy2
  go_wp2_with fail
  refine (plain_any p (k + 4) W H _ hc2 (by omega) (by omega) (by omega)).mono ?_
  rintro e w3 ⟨W', H', A, c, xs, rfl, ⟨rfl, rfl, hxl⟩, own3, hc3, hg3⟩
  replace hc3 := hc3.more (show _ ≤ k + 500 by omega)
  have r3 := r2.mark hg3 (fun z hz => by cases hz; omega)
  have HG3 := Lib.hid (grown_trans HG2.out hg3)
  have hz2 := HG2.out.size
  replace own3 := own3.mono (show w.heap.size + 1 ≤ w2.heap.size by have := r2.lt; omega)
  have hlen : xs.length ≤ 64 ∧ 1 ≤ xs.length := by omega
  obtain ⟨g, rfl, hgl, hgh⟩ := own3.some_ (by omega)
  clear hc2 hg3 r2 HG2 hxl
  have ob := (Below.refl w3.heap.size w3).alloc (Nat.le_refl _) (.cells #[.int .i64 W, .int .i64 H, .slice (some ⟨g, 0, none⟩) xs.length c] 26)
  have r4 := r3.all ob
  have own4 := own3.all ob
  have hc4 := hc3.all ob
  have q4 := Blk.new w3 #[.int .i64 W, .int .i64 H, .slice (some ⟨g, 0, none⟩) xs.length c] 26
  have HG4 := Lib.hid (grown_trans HG3.out (below_grown (row := some p) ob))
  have hz3 := HG3.out.size
  clear ob r3 own3 hc3 HG3
  go_wp2_with fail
  refine (pick_any p (k + 500) 40 _ hc4 (by omega) (by omega) (by omega)).mono ?_
  rintro e w5 ⟨x, rfl, ⟨x0, x1⟩, hc5, hg5⟩
  replace hc5 := hc5.more (show _ ≤ k + 700 by omega)
  have r5 := r4.mark hg5 (fun z hz => by cases hz; omega)
  have own5 := own4.mark hg5 (fun z z' hz hz' => by cases hz; have := (own4.bd z' hz').1; omega)
  have q5 := q4.mark hg5 (fun z hz => by cases hz; omega)
  have HG5 := Lib.hid (grown_trans HG4.out hg5)
  have hz5 := HG5.out.size
  have q52 := q5.cell 2
  have hqp : some w3.heap.size ≠ some p := by simp; omega
  have hrz := r5.lt
  have hqz := q5.lt
  clear hc4 hg5 r4 own4 q4 HG4
  by_cases hx0 : x = 0
  · subst hx0
    go_wp2
    refine wp_region_noPanic ?_
    refine wp_region_held_drew (S := (fun w' => w'.cell? ⟨w3.heap.size, 2, none⟩ = some (.slice (some ⟨g, 0, none⟩) xs.length c))) (by kernel_rfl) (by go_keep) (fun hHeld => ?_)
    refine wpAnyH_take (i := 0) (v := ?_) rfl (by kernel_rfl) (by kernel_rfl) (by kernel_rfl) (fun _ _ _ h => h) (Or.inl ⟨by rfl, ?_⟩) (by assumption) ?_
    rotate_left
    · intro w hSw; (try dsimp only at hSw); go_simp; (try with_reducible rfl)
    (try simp only [Act.put, List.getElem_toArray, List.getElem_cons_zero, List.setIfInBounds_toArray, List.set_cons_zero, List.set_cons_succ])
    refine wpAnyH_take (i := 1) (v := ?_) rfl (by kernel_rfl) (by kernel_rfl) (by kernel_rfl) (fun _ _ _ h => h) (Or.inl ⟨by rfl, ?_⟩) (by assumption) ?_
    rotate_left
    · intro w hSw; (try dsimp only at hSw); go_simp; (try with_reducible rfl)
    (try simp only [Act.put, List.getElem_toArray, List.getElem_cons_zero, List.getElem_cons_succ, List.setIfInBounds_toArray, List.set_cons_zero, List.set_cons_succ])
    refine wpAnyH_take (i := 2) (v := ?_) rfl (by kernel_rfl) (by kernel_rfl) (by kernel_rfl) (fun _ _ _ h => h) (Or.inl ⟨by rfl, ?_⟩) (by assumption) ?_
    rotate_left
    · intro w hSw; (try dsimp only at hSw); go_simp; (try with_reducible rfl)
    (try simp only [Act.put, List.getElem_toArray, List.getElem_cons_zero, List.getElem_cons_succ, List.setIfInBounds_toArray, List.set_cons_zero, List.set_cons_succ])
    refine wpAnyH_take (i := 3) (v := ?_) rfl (by kernel_rfl) (by kernel_rfl) (by kernel_rfl) (fun _ _ _ h => h) (Or.inl ⟨by rfl, ?_⟩) (by assumption) ?_
    rotate_left
    · intro w hSw; (try dsimp only at hSw); go_simp; (try with_reducible rfl)
    (try simp only [Act.put, List.getElem_toArray, List.getElem_cons_zero, List.getElem_cons_succ, List.setIfInBounds_toArray, List.set_cons_zero, List.set_cons_succ])
    refine wpAnyH_take (i := 4) (v := ?_) rfl (by kernel_rfl) (by kernel_rfl) (by kernel_rfl) (fun _ _ _ h => h) (Or.inl ⟨by rfl, ?_⟩) (by assumption) ?_
    rotate_left
    · intro w hSw; (try dsimp only at hSw); go_simp; (try with_reducible rfl)
    (try simp only [Act.put, List.getElem_toArray, List.getElem_cons_zero, List.getElem_cons_succ, List.setIfInBounds_toArray, List.set_cons_zero, List.set_cons_succ])
    refine wpAnyH_take (i := 5) (v := ?_) rfl (by kernel_rfl) (by kernel_rfl) (by kernel_rfl) (fun _ _ _ h => h) (Or.inl ⟨by rfl, ?_⟩) (by assumption) ?_
    rotate_left
    · intro w hSw; (try dsimp only at hSw); go_simp; (try with_reducible rfl)
    (try simp only [Act.put, List.getElem_toArray, List.getElem_cons_zero, List.getElem_cons_succ, List.setIfInBounds_toArray, List.set_cons_zero, List.set_cons_succ])
    refine wpAnyH_take (i := 7) (v := ?_) rfl (by kernel_rfl) (by kernel_rfl) (by kernel_rfl) (fun _ _ _ h => h) (Or.inl ⟨by rfl, ?_⟩) (by assumption) ?_
    rotate_left
    · intro w hSw; (try dsimp only at hSw); go_simp; (try with_reducible rfl)
    (try simp only [Act.put, List.getElem_toArray, List.getElem_cons_zero, List.getElem_cons_succ, List.setIfInBounds_toArray, List.set_cons_zero, List.set_cons_succ])
    clear hHeld
    have hD : w5.grownBy w5.drew (some p) := drew_grown _ _
    refine wpAnyH_ready (rs := [6, 8]) (by kernel_rfl) (by simp) ?_
    refine AllReadyH.cons rfl (fun K hK => ?_) ?_
    · go_simp
      refine (pick_any p (k + 700) xs.length _ (cur_drew hc5) (by omega) (by omega) (by omega)).mono ?_
      rintro e wa ⟨q, rfl, ⟨q0, q1⟩, hca, hga⟩
      have hGa := grown_trans hD hga
      refine hK.out _ _ (by exact (hGa.cell (a := ⟨w3.heap.size, 2, none⟩) q52 hqp)) (fun hHeld => ?_)
      clear hK K hHeld
      (try simp only [Act.put, List.getElem_toArray, List.getElem_cons_zero, List.getElem_cons_succ, List.setIfInBounds_toArray, List.set_cons_zero, List.set_cons_succ])
      refine wpAnyH_ready (rs := [8]) (by kernel_rfl) (by simp) ?_
      refine AllReadyH.cons rfl (fun K hK => ?_) AllReadyH.nil
      go_simp
      have hal := below_grown (row := some p) ((Below.refl wa.heap.size wa).alloc (Nat.le_refl _) (.cells ([-1, 6].map (Value.int .i64)).toArray 3))
      have hGb := grown_trans hGa hal
      refine hK.out _ _ (by exact (hGb.cell (a := ⟨w3.heap.size, 2, none⟩) q52 hqp)) (fun hHeld => ?_)
      clear hK K hHeld
      (try simp only [Act.put, List.getElem_toArray, List.getElem_cons_zero, List.getElem_cons_succ, List.setIfInBounds_toArray, List.set_cons_zero, List.set_cons_succ])
      refine wpAnyH_ready (rs := [9]) (by kernel_rfl) (by simp) ?_
      refine AllReadyH.cons rfl (fun K hK => ?_) AllReadyH.nil
      go_simp
      refine (among_lit p (k + 702) wa.heap.size 2 [-1, 6] wa rfl rfl hca (by omega) (by decide) (by decide) (I64.lit (by decide))).mono ?_
      rintro e wb ⟨y, rfl, hy, hcb, hgb⟩
      have hGc := grown_trans hGa hgb
      refine hK.out _ _ (by exact (hGc.cell (a := ⟨w3.heap.size, 2, none⟩) q52 hqp)) (fun hHeld => ?_)
      clear hK K hHeld
      (try simp only [Act.put, List.getElem_toArray, List.getElem_cons_zero, List.getElem_cons_succ, List.setIfInBounds_toArray, List.set_cons_zero, List.set_cons_succ])
      obtain ⟨q, rfl⟩ := Int.eq_ofNat_of_zero_le q0
      have hql : q < xs.length := by omega
      have hqi : (q : Int) < (xs.length : Int) := by omega
      have hy64 : I64 y := I64.lit (by decide) y hy
      have owc := own5.mark hGc (fun z z' hz hz' => by cases hz; have := (own5.bd z' hz').1; omega)
      obtain ⟨old, HO⟩ : ∃ v, Hid (xs.getD q 0 = v) := ⟨_, rfl⟩
      have hold := own_at owc hql HO.out
      obtain ⟨hfz, o9, hg9⟩ := own_put owc q y hy64
      refine wpAnyH_ready (rs := [10]) (by kernel_rfl) (by simp) ?_
      refine AllReadyH.cons rfl (fun K hK => ?_) AllReadyH.nil
      go_simp
      refine hK.out _ _ (by exact (hGc.cell (a := ⟨w3.heap.size, 2, none⟩) q52 hqp)) (fun hHeld => ?_)
      clear hK K hHeld
      (try simp only [Act.put, List.getElem_toArray, List.getElem_cons_zero, List.getElem_cons_succ, List.setIfInBounds_toArray, List.set_cons_zero, List.set_cons_succ])
      refine wpAnyH_ready (rs := [11]) (by kernel_rfl) (by simp) ?_
      refine AllReadyH.cons rfl (fun K hK => ?_) AllReadyH.nil
      go_simp
      have hq9 := (q5.mark hGc (fun z hz => by cases hz; omega)).mark hg9 (row_ne owc.1 (q5.mark hGc (fun z hz => by cases hz; omega)) (by decide))
      have hr9 := (r5.mark hGc (fun z hz => by cases hz; omega)).mark hg9 (row_ne owc.1 (r5.mark hGc (fun z hz => by cases hz; omega)) (by decide))
      have hc9 := hcb.far (a := ⟨g, q, none⟩) (by show p < g; omega) (.int .i64 y)
      have hG9 := grown_own (grown_trans HG5.out hGc) ((Below.refl w.heap.size wb).setCell (p := ⟨g, q, none⟩) (by show w.heap.size ≤ g; omega) (.int .i64 y))
      refine hK.out _ _ (by exact hq9.cell 2) (fun hHeld => ?_)
      clear hK K hHeld
      (try simp only [Act.put, List.getElem_toArray, List.getElem_cons_zero, List.getElem_cons_succ, List.setIfInBounds_toArray, List.set_cons_zero, List.set_cons_succ])
      refine wpAnyH_done (by kernel_rfl) ?_ _
      refine NoPanic.normal ?_
      have HYL := Lib.hid (show (xs.set q y).length = xs.length by rw [List.length_set])
      replace o9 := o9.mono (show w.heap.size ≤ _ by omega)
      generalize xs.set q y = ys at *
      generalize wb.setCell ⟨g, q, none⟩ (.int .i64 y) = wv at *
      clear hold hfz hg9
      have f0 := hq9.cell 0
      have f1 := hq9.cell 1
      have f2 := hq9.cell 2
      have g0 := hr9.cell 0
      have g1 := hr9.cell 1
      have g2 := hr9.cell 2
      have z0 := hr9.frozen 0
      have z1 := hr9.frozen 1
      have z2 := hr9.frozen 2
      have F := fin3 (p := w.heap.size) (w0 := wv) (B := w.heap.size) (a := .int .i64 (W : Int)) (b := .int .i64 (H : Int)) (c := .slice (some ⟨g, 0, none⟩) xs.length c) o9 (row_ne' o9.1 hr9 (by decide)) (Below.refl _ _) (Nat.le_refl _)
      have hcF := (hc9.below F.2 hpw).more (show _ ≤ k + 1000 by omega)
      have hGF := grown_own hG9 F.2
      have F1 := F.1
      clear F
      go_wp2
      refine bodyPost_ret (v := chartV (W : Int) (H : Int) (.slice (some ⟨g, 0, none⟩) xs.length c)) (by simp [results, Try.results38, go_sem, g0, g1, g2]) rfl ⟨(W : Int), (H : Int), (some ⟨g, 0, none⟩), c, ys, by rw [HYL.out], ⟨by rw [HYL.out]; omega, by unfold Side9; omega, by unfold Side9; omega⟩, by rw [HYL.out]; exact F1, hcF, hGF⟩
    · refine AllReadyH.cons rfl (fun K hK => ?_) AllReadyH.nil
      go_simp
      have hal := below_grown (row := some p) ((Below.refl w5.drew.heap.size w5.drew).alloc (Nat.le_refl _) (.cells ([-1, 6].map (Value.int .i64)).toArray 3))
      have hGz := grown_trans hD hal
      have hcz := (cur_drew hc5).all ((Below.refl w5.drew.heap.size w5.drew).alloc (Nat.le_refl _) (.cells ([-1, 6].map (Value.int .i64)).toArray 3))
      have hlz : Blk _ w5.heap.size _ _ := Blk.new w5.drew ([-1, 6].map (Value.int .i64)).toArray 3
      refine hK.out _ _ (by exact (hGz.cell (a := ⟨w3.heap.size, 2, none⟩) q52 hqp)) (fun hHeld => ?_)
      clear hK K hHeld
      (try simp only [Act.put, List.getElem_toArray, List.getElem_cons_zero, List.getElem_cons_succ, List.setIfInBounds_toArray, List.set_cons_zero, List.set_cons_succ])
      refine wpAnyH_ready (rs := [6]) (by kernel_rfl) (by simp) ?_
      refine AllReadyH.cons rfl (fun K hK => ?_) AllReadyH.nil
      go_simp
      refine (pick_any p (k + 700) xs.length _ hcz (by omega) (by omega) (by omega)).mono ?_
      rintro e wa ⟨q, rfl, ⟨q0, q1⟩, hca, hga⟩
      have hGa := grown_trans hGz hga
      have hla := hlz.mark hga (fun z hz => by cases hz; omega)
      refine hK.out _ _ (by exact (hGa.cell (a := ⟨w3.heap.size, 2, none⟩) q52 hqp)) (fun hHeld => ?_)
      clear hK K hHeld
      (try simp only [Act.put, List.getElem_toArray, List.getElem_cons_zero, List.getElem_cons_succ, List.setIfInBounds_toArray, List.set_cons_zero, List.set_cons_succ])
      refine wpAnyH_ready (rs := [9]) (by kernel_rfl) (by simp) ?_
      refine AllReadyH.cons rfl (fun K hK => ?_) AllReadyH.nil
      go_simp
      refine (among_any p (k + 702) w5.heap.size 0 2 2 _ [-1, 6] _ hca (by omega) (lit_rd2 hla (I64.lit (by decide)) (by decide)) (by omega) (by omega) (by omega)).mono ?_
      rintro e wb ⟨y, rfl, hy, hcb, hgb⟩
      have hGc := grown_trans hGa hgb
      refine hK.out _ _ (by exact (hGc.cell (a := ⟨w3.heap.size, 2, none⟩) q52 hqp)) (fun hHeld => ?_)
      clear hK K hHeld
      (try simp only [Act.put, List.getElem_toArray, List.getElem_cons_zero, List.getElem_cons_succ, List.setIfInBounds_toArray, List.set_cons_zero, List.set_cons_succ])
      obtain ⟨q, rfl⟩ := Int.eq_ofNat_of_zero_le q0
      have hql : q < xs.length := by omega
      have hqi : (q : Int) < (xs.length : Int) := by omega
      have hy64 : I64 y := I64.lit (by decide) y hy
      have owc := own5.mark hGc (fun z z' hz hz' => by cases hz; have := (own5.bd z' hz').1; omega)
      obtain ⟨old, HO⟩ : ∃ v, Hid (xs.getD q 0 = v) := ⟨_, rfl⟩
      have hold := own_at owc hql HO.out
      obtain ⟨hfz, o9, hg9⟩ := own_put owc q y hy64
      refine wpAnyH_ready (rs := [10]) (by kernel_rfl) (by simp) ?_
      refine AllReadyH.cons rfl (fun K hK => ?_) AllReadyH.nil
      go_simp
      refine hK.out _ _ (by exact (hGc.cell (a := ⟨w3.heap.size, 2, none⟩) q52 hqp)) (fun hHeld => ?_)
      clear hK K hHeld
      (try simp only [Act.put, List.getElem_toArray, List.getElem_cons_zero, List.getElem_cons_succ, List.setIfInBounds_toArray, List.set_cons_zero, List.set_cons_succ])
      refine wpAnyH_ready (rs := [11]) (by kernel_rfl) (by simp) ?_
      refine AllReadyH.cons rfl (fun K hK => ?_) AllReadyH.nil
      go_simp
      have hq9 := (q5.mark hGc (fun z hz => by cases hz; omega)).mark hg9 (row_ne owc.1 (q5.mark hGc (fun z hz => by cases hz; omega)) (by decide))
      have hr9 := (r5.mark hGc (fun z hz => by cases hz; omega)).mark hg9 (row_ne owc.1 (r5.mark hGc (fun z hz => by cases hz; omega)) (by decide))
      have hc9 := hcb.far (a := ⟨g, q, none⟩) (by show p < g; omega) (.int .i64 y)
      have hG9 := grown_own (grown_trans HG5.out hGc) ((Below.refl w.heap.size wb).setCell (p := ⟨g, q, none⟩) (by show w.heap.size ≤ g; omega) (.int .i64 y))
      refine hK.out _ _ (by exact hq9.cell 2) (fun hHeld => ?_)
      clear hK K hHeld
      (try simp only [Act.put, List.getElem_toArray, List.getElem_cons_zero, List.getElem_cons_succ, List.setIfInBounds_toArray, List.set_cons_zero, List.set_cons_succ])
      refine wpAnyH_done (by kernel_rfl) ?_ _
      refine NoPanic.normal ?_
      have HYL := Lib.hid (show (xs.set q y).length = xs.length by rw [List.length_set])
      replace o9 := o9.mono (show w.heap.size ≤ _ by omega)
      generalize xs.set q y = ys at *
      generalize wb.setCell ⟨g, q, none⟩ (.int .i64 y) = wv at *
      clear hold hfz hg9
      have f0 := hq9.cell 0
      have f1 := hq9.cell 1
      have f2 := hq9.cell 2
      have g0 := hr9.cell 0
      have g1 := hr9.cell 1
      have g2 := hr9.cell 2
      have z0 := hr9.frozen 0
      have z1 := hr9.frozen 1
      have z2 := hr9.frozen 2
      have F := fin3 (p := w.heap.size) (w0 := wv) (B := w.heap.size) (a := .int .i64 (W : Int)) (b := .int .i64 (H : Int)) (c := .slice (some ⟨g, 0, none⟩) xs.length c) o9 (row_ne' o9.1 hr9 (by decide)) (Below.refl _ _) (Nat.le_refl _)
      have hcF := (hc9.below F.2 hpw).more (show _ ≤ k + 1000 by omega)
      have hGF := grown_own hG9 F.2
      have F1 := F.1
      clear F
      go_wp2
      refine bodyPost_ret (v := chartV (W : Int) (H : Int) (.slice (some ⟨g, 0, none⟩) xs.length c)) (by simp [results, Try.results38, go_sem, g0, g1, g2]) rfl ⟨(W : Int), (H : Int), (some ⟨g, 0, none⟩), c, ys, by rw [HYL.out], ⟨by rw [HYL.out]; omega, by unfold Side9; omega, by unfold Side9; omega⟩, by rw [HYL.out]; exact F1, hcF, hGF⟩
  · have hx0' : (x == 0) = false := by simpa using hx0
    by_cases hx1 : x = 1
    · subst hx1
      have hqx := q5.frozen 2
      go_wp2_with (at_builtin; refine wpList_append_one w5 rfl (.tmp 30) (.tmp 31) 24 rfl Try.underlying24 info_int (w.heap.size + 1) _ xs 0 rfl rfl own5 (by omega) ⟨by omega, by omega⟩ (by omega) ?_)
      intro A9 c9 w9 o9 hg9
      have x9 := q5.mark hg9 (row_ne own5.1 q5 (by decide))
      have r9 := r5.mark hg9 (row_ne own5.1 r5 (by decide))
      have c9' := hc5.mark hg9 (fun z hz => by have := (own5.bd z hz).1; omega)
      have hb9 := (Below.refl w.heap.size w5).grown hg9 hz5 (fun z hz => by have := (own5.bd z hz).1; omega)
      have HL9 := Lib.hid (show (xs ++ [0]).length = xs.length + 1 by simp)
      have f9z := x9.frozen 2
      have f9c := x9.cell 2
      have x10 : Blk (w9.setCell ⟨w3.heap.size, 2, none⟩ (.slice A9 (xs.length + 1) c9)) w3.heap.size 26 #[.int .i64 W, .int .i64 H, .slice A9 (xs.length + 1) c9] := by simpa using x9.set_ 2 (.slice A9 (xs.length + 1) c9)
      have o10 := (o9.far (a := ⟨w3.heap.size, 2, none⟩) (row_ne' o9.1 x9 (by decide)) (.slice A9 (xs.length + 1) c9)).mono (show w.heap.size ≤ _ by omega)
      have r10 := r9.far (a := ⟨w3.heap.size, 2, none⟩) (by show w.heap.size ≠ w3.heap.size; omega) (.slice A9 (xs.length + 1) c9)
      have c10 := c9'.far (a := ⟨w3.heap.size, 2, none⟩) (by show p < w3.heap.size; omega) (.slice A9 (xs.length + 1) c9)
      have HGA := Lib.hid (grown_own HG5.out (hb9.setCell (p := ⟨w3.heap.size, 2, none⟩) (by show w.heap.size ≤ w3.heap.size; omega) (.slice A9 (xs.length + 1) c9)))
      have f0 := x10.cell 0
      have f1 := x10.cell 1
      have f2 := x10.cell 2
      have g0 := r10.cell 0
      have g1 := r10.cell 1
      have g2 := r10.cell 2
      have z0 := r10.frozen 0
      have z1 := r10.frozen 1
      have z2 := r10.frozen 2
      have F := fin3 (p := w.heap.size) (w0 := (w9.setCell ⟨w3.heap.size, 2, none⟩ (.slice A9 (xs.length + 1) c9))) (B := w.heap.size) (a := .int .i64 (W : Int)) (b := .int .i64 (H : Int)) (c := .slice A9 (xs.length + 1) c9) o10 (row_ne' o10.1 r10 (by decide)) (Below.refl _ _) (Nat.le_refl _)
      have hcF := (c10.below F.2 hpw).more (show _ ≤ k + 1000 by omega)
      have hGF := grown_own HGA.out F.2
      have F1 := F.1
      clear F
      go_wp2
      refine bodyPost_ret (v := chartV (W : Int) (H : Int) (.slice A9 (xs.length + 1) c9)) (by simp [results, Try.results38, go_sem, g0, g1, g2]) rfl ⟨(W : Int), (H : Int), A9, c9, (xs ++ [0]), by rw [HL9.out], ⟨by rw [HL9.out]; omega, by unfold Side9; omega, by unfold Side9; omega⟩, by rw [HL9.out]; exact F1, hcF, hGF⟩
    · have hx1' : (x == 1) = false := by simpa using hx1
      by_cases hx2 : x = 2
      · subst hx2
        go_wp2_with fail
        refine (among_lit p (k + 700) w5.heap.size 2 [0, 9] w5 rfl rfl hc5 (by omega) (by decide) (by decide) (I64.lit (by decide))).mono ?_
        rintro e w6 ⟨y6, rfl, hy6, hc6, hg6⟩
        have hy6b : 0 ≤ y6 ∧ y6 ≤ 9 := by simp at hy6; omega
        obtain ⟨V, rfl⟩ := Int.eq_ofNat_of_zero_le hy6b.1
        have r6 := r5.mark hg6 (fun z hz => by cases hz; omega)
        have q6 := q5.mark hg6 (fun z hz => by cases hz; omega)
        have HG6 := Lib.hid (grown_trans HG5.out hg6)
        clear hc5 r5 q5 HG5 q52 own5 hy6
        go_wp2_with fail
        refine (plain_any p (k + 702) V 1 _ hc6 (by omega) (by omega) (by omega)).mono ?_
        rintro e w7 ⟨V', H', A7, c7, ys, rfl, ⟨rfl, rfl, hyl⟩, own7, hc7, hg7⟩
        have r7 := r6.mark hg7 (fun z hz => by cases hz; omega)
        have q7 := q6.mark hg7 (fun z hz => by cases hz; omega)
        have HG7 := Lib.hid (grown_trans HG6.out hg7)
        replace own7 := own7.mono (show w.heap.size ≤ w6.heap.size from HG6.out.size)
        replace hc7 := hc7.more (show _ ≤ k + 800 by omega)
        have hyl9 : ys.length ≤ 9 := by omega
        have hpq := q7.lt
        clear hc6 hg6 hg7 r6 q6 HG6 hyl
        have y70 := q7.cell 0
        have y71 := q7.cell 1
        have y72 := q7.cell 2
        have v70 := q7.frozen 0
        have v71 := q7.frozen 1
        have v72 := q7.frozen 2
        have q8 : Blk (((w7.setCell ⟨w3.heap.size, 0, none⟩ (.int .i64 V)).setCell ⟨w3.heap.size, 1, none⟩ (.int .i64 1)).setCell ⟨w3.heap.size, 2, none⟩ (.slice A7 ys.length c7)) w3.heap.size 26 #[.int .i64 V, .int .i64 1, .slice A7 ys.length c7] := by simpa using ((q7.set_ 0 (.int .i64 V)).set_ 1 (.int .i64 1)).set_ 2 (.slice A7 ys.length c7)
        have F8 := fin3 (p := w3.heap.size) (w0 := w7) (B := w.heap.size) (a := .int .i64 V) (b := .int .i64 1) (c := .slice A7 ys.length c7) own7 (row_ne' own7.1 q7 (by decide)) (Below.refl _ _) (by omega)
        have r8 := ((r7.far (a := ⟨w3.heap.size, 0, none⟩) (by show w.heap.size ≠ w3.heap.size; omega) (.int .i64 V)).far (a := ⟨w3.heap.size, 1, none⟩) (by show w.heap.size ≠ w3.heap.size; omega) (.int .i64 1)).far (a := ⟨w3.heap.size, 2, none⟩) (by show w.heap.size ≠ w3.heap.size; omega) (.slice A7 ys.length c7)
        have hc8 := hc7.below F8.2 hpw
        have HG8 := Lib.hid (grown_own HG7.out F8.2)
        have own8 := F8.1
        clear F8
        have f0 := q8.cell 0
        have f1 := q8.cell 1
        have f2 := q8.cell 2
        have g0 := r8.cell 0
        have g1 := r8.cell 1
        have g2 := r8.cell 2
        have z0 := r8.frozen 0
        have z1 := r8.frozen 1
        have z2 := r8.frozen 2
        have F := fin3 (p := w.heap.size) (w0 := (((w7.setCell ⟨w3.heap.size, 0, none⟩ (.int .i64 V)).setCell ⟨w3.heap.size, 1, none⟩ (.int .i64 1)).setCell ⟨w3.heap.size, 2, none⟩ (.slice A7 ys.length c7))) (B := w.heap.size) (a := .int .i64 (V : Int)) (b := .int .i64 1) (c := .slice A7 ys.length c7) own8 (row_ne' own8.1 r8 (by decide)) (Below.refl _ _) (Nat.le_refl _)
        have hcF := (hc8.below F.2 hpw).more (show _ ≤ k + 1000 by omega)
        have hGF := grown_own HG8.out F.2
        have F1 := F.1
        clear F
        go_wp2
        refine bodyPost_ret (v := chartV (V : Int) 1 (.slice A7 ys.length c7)) (by simp [results, Try.results38, go_sem, g0, g1, g2]) rfl ⟨(V : Int), 1, A7, c7, ys, rfl, ⟨by omega, by unfold Side9; omega, by unfold Side9; omega⟩, F1, hcF, hGF⟩
      · have hx2' : (x == 2) = false := by simpa using hx2
        replace own5 := own5.mono (show w.heap.size ≤ _ by omega)
        have f0 := q5.cell 0
        have f1 := q5.cell 1
        have f2 := q5.cell 2
        have g0 := r5.cell 0
        have g1 := r5.cell 1
        have g2 := r5.cell 2
        have z0 := r5.frozen 0
        have z1 := r5.frozen 1
        have z2 := r5.frozen 2
        have F := fin3 (p := w.heap.size) (w0 := w5) (B := w.heap.size) (a := .int .i64 (W : Int)) (b := .int .i64 (H : Int)) (c := .slice (some ⟨g, 0, none⟩) xs.length c) own5 (row_ne' own5.1 r5 (by decide)) (Below.refl _ _) (Nat.le_refl _)
        have hcF := (hc5.below F.2 hpw).more (show _ ≤ k + 1000 by omega)
        have hGF := grown_own HG5.out F.2
        have F1 := F.1
        clear F
        go_wp2
        refine bodyPost_ret (v := chartV (W : Int) (H : Int) (.slice (some ⟨g, 0, none⟩) xs.length c)) (by simp [results, Try.results38, go_sem, g0, g1, g2]) rfl ⟨(W : Int), (H : Int), (some ⟨g, 0, none⟩), c, xs, rfl, ⟨by omega, by unfold Side9; omega, by unfold Side9; omega⟩, F1, hcF, hGF⟩
theorem chart_any (p k : Nat) (w : World) (h : Cur w p k) (hk : k + 1000 ≤ 4294967296) : Calls Try.prog 38 #[.pointer (some ⟨p, 0, none⟩)] w (DrewChart w p (k + 1000) fun W H xs => xs.length ≤ 1000 ∧ I64 W ∧ I64 H) := by
  refine (chart_any9 p k w h hk).mono ?_
  rintro e w' ⟨W, H, A, c, xs, he, ⟨h1, h2, h3⟩, ho, hc, hg⟩
  exact ⟨W, H, A, c, xs, he, ⟨h1, h2.fit, h3.fit⟩, ho, hc, hg⟩
end Go.Proofs.Ytpnmnkdnlajfiaa
namespace Go.Proofs.Ytpnmnkdnlajfiaa
open Go.RowKit

/-- A chart small enough to be drawn. -/
def Small (W H : Int) (xs : List Int) : Prop := xs.length ≤ 1000 ∧ I64 W ∧ I64 H
/-- What a draw of a chart out of a code leaves. -/
def GaveChart (w : World) (e : Ending) (w' : World) : Prop := ∃ (W H : Int) (A : Option Addr) (c : Nat) (xs : List Int), e = .returned (chartV W H (.slice A xs.length c)) ∧ Small W H xs ∧ Own w' w.heap.size (.slice A xs.length c) xs ∧ Below w.heap.size w w'
/-- The same with two numbers. -/
def GaveChartTwo (w : World) (e : Ending) (w' : World) : Prop := ∃ (W H : Int) (A : Option Addr) (c : Nat) (xs : List Int) (f t : Int), e = .returned (.tuple #[chartV W H (.slice A xs.length c), .int .i64 f, .int .i64 t]) ∧ Small W H xs ∧ I64 f ∧ I64 t ∧ Own w' w.heap.size (.slice A xs.length c) xs ∧ Below w.heap.size w w'
theorem cur_new {w : World} {B n c : Nat} {A : Option Addr} (h : RdB w B A n c) (hB : B ≤ w.heap.size) (hn : n ≤ 65536) : Cur (w.alloc (.cells #[.slice A n c, .int .i64 0, .int .u64 0] 45)) w.heap.size 0 :=
  ⟨B, A, n, c, 0, 0, Blk.new _ _ _, h.alloc hB _, hB, hn, Nat.le_refl _⟩
theorem vBig_eq (A : Option Addr) (n c : Nat) (w : World) (hn : n ≤ 9223372036854775807) (d : Bool) (hd : decide (65536 < n) = d) : Calls Try.prog 4 #[.slice A n c] w fun e w' => e = .returned (.bool d) ∧ w = w' := by
  subst hd
  go_enter Try.func4, Try.ntmps4
  go_wp2
  go_ret
  exact ⟨ret_bool (by rw [Bool.eq_iff_iff]; simp <;> omega), rfl⟩
set_option maxRecDepth 100000 in
set_option maxHeartbeats 400000 in
theorem vInts_same (A A' : Option Addr) (n c n' c' B B' : Nat) (xs : List Int) (w : World) (h : Rd w B A n c xs) (h' : Rd w B' A' n' c' xs) :
    Calls Try.prog 8 #[.slice A n c, .slice A' n' c'] w fun e w' => e = .returned (.bool true) ∧ ∃ q, w' = w.drewN q := by
  have hn := h.len_lt
  obtain rfl : n' = n := by rw [← h.len, ← h'.len]
  go_enter Try.func8, Try.ntmps8
  go_wp2
  go_loopw [5] (fun i wr => ∃ k q : Nat, k ≤ n' ∧ i = .int .i64 k ∧ wr = w.drewN q) (fun i _ => n' - (intOf i).toNat)
  case atStart => exact ⟨0, 0, Nat.zero_le _, rfl, rfl⟩
  case round =>
    obtain ⟨k, q, hk, rfl, rfl⟩ := hrel
    by_cases hlt : k < n'
    · obtain ⟨b, off, x, rfl, _, hc, _, _, HX⟩ := h.at hlt
      obtain ⟨b', off', x', rfl, _, hc', _, _, HX'⟩ := h'.at hlt
      obtain rfl : x' = x := HX'.out.symm.trans HX.out
      go_wp2
      go_quiet (fail)
      go_wp2
      go_roundw
      case rel => exact ⟨k + 1, _, by omega, by go_num, rfl⟩
      case measure => simp [intOf]; omega
    · go_wp2
      go_ret
      exact ⟨rfl, _, rfl⟩
end Go.Proofs.Ytpnmnkdnlajfiaa
