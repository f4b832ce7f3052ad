/- The walks of the laws' own helpers over baths, and how a bath comes in. Condition: at most 1048576 stuffs. -/
import Derived.Test.YtadlgiecceohbaaHelp
import Derived.Test.YtadlgiecceohbaaKit
import Derived.Test.YtadlgiecceohbaaOpen
import Derived.OpenShut
import Derived.Lib.SmallJoins
namespace Go.Proofs.Ytadlgiecceohbaa
open Go.RowKit Go.ChangeShapes Go.WideShapes Go.ChangeAt

/-- A bath's value. -/
abbrev bathV (L T Y : Int) (v : Value) : Value := .agg #[.int .i64 L, .int .i64 T, .int .i64 Y, v]
/-- What a copy of a bath leaves. -/
def ToBath (w : World) (L T Y : Int) (xs : List Int) (e : Ending) (w' : World) : Prop :=
  ∃ g, e = .returned (bathV L T Y (.slice (some ⟨g, 0, none⟩) xs.length xs.length)) ∧ Own w' w.heap.size (.slice (some ⟨g, 0, none⟩) xs.length xs.length) xs ∧ Below w.heap.size w w'
/-- What a function leaves that answers a bath of its own and a yes or no. -/
def OutBath (w : World) (L T Y : Int) (ys : List Int) (b : Bool) (e : Ending) (w' : World) : Prop :=
  ∃ A c, e = .returned (.tuple #[bathV L T Y (.slice A ys.length c), .bool b]) ∧ Own w' w.heap.size (.slice A ys.length c) ys ∧ Below w.heap.size w w'
theorem Blk.put4t {w : World} {p : Nat} {t : TypeId} {a b c d a' b' c' d' : Value} (h : Blk w p t #[a, b, c, d]) : Blk ((((w.setCell ⟨p, 0, none⟩ a').setCell ⟨p, 1, none⟩ b').setCell ⟨p, 2, none⟩ c').setCell ⟨p, 3, none⟩ d') p t #[a', b', c', d'] := by
  have := (((h.set_ 0 a').set_ 1 b').set_ 2 c').set_ 3 d'
  simpa using this
/-- A bath is stored to its place in the result. -/
theorem fin4 {w0 w : World} {p lo B : Nat} {v a b c d : Value} {ys : List Int} (h : Own w lo v ys) (hp : v.ownBlock ≠ some p) (hb : Below B w0 w) (hB : B ≤ p) :
    Own ((((w.setCell ⟨p, 0, none⟩ a).setCell ⟨p, 1, none⟩ b).setCell ⟨p, 2, none⟩ c).setCell ⟨p, 3, none⟩ d) lo v ys ∧ Below B w0 ((((w.setCell ⟨p, 0, none⟩ a).setCell ⟨p, 1, none⟩ b).setCell ⟨p, 2, none⟩ c).setCell ⟨p, 3, none⟩ d) :=
  ⟨(((h.far (a := ⟨p, 0, none⟩) hp a).far (a := ⟨p, 1, none⟩) hp b).far (a := ⟨p, 2, none⟩) hp c).far (a := ⟨p, 3, none⟩) hp d, (((hb.setCell (p := ⟨p, 0, none⟩) hB a).setCell (p := ⟨p, 1, none⟩) hB b).setCell (p := ⟨p, 2, none⟩) hB c).setCell (p := ⟨p, 3, none⟩) hB d⟩

set_option maxRecDepth 100000 in
set_option maxHeartbeats 400000 in
theorem toBath_any (L T Y : Int) (A : Option Addr) (n c B : Nat) (xs : List Int) (w : World) (h : Rd w B A n c xs) (hB : B ≤ w.heap.size) (hn : n ≤ 1048576) :
    Calls Try.prog 18 #[bathV L T Y (.slice A n c)] w (ToBath w L T Y xs) := by
  go_enter Try.func18, Try.ntmps18
  go_wp2_with (go_at_call 48; refine (toIntS_any A n c B xs _ (((h.alloc hB _).alloc (by simp; omega) _).alloc (by simp; omega) _) (by simp; omega) hn).mono ?_; rintro e w1 ⟨g, rfl, hown, hb⟩; obtain ⟨hc, hf⟩ := bcell hb; have hz : w.heap.size + 3 ≤ w1.heap.size := by have := hb.size; simp at this; omega)
  have HB : Below w.heap.size w w1 := ((((Below.refl _ _).alloc (Nat.le_refl _) _).alloc (by simp) _).alloc (by simp; omega) _).trans (hb.mono (by simp; omega))
  refine bodyPost_ret (v := bathV L T Y (.slice (some ⟨g, 0, none⟩) xs.length xs.length)) (by simp [results, Try.results18, go_sem, hc]) rfl ⟨g, rfl, ?_, ?_⟩
  · exact (((((hown.setLow (by simp) _).setLow (by simp) _).setLow (by simp) _).setLow (by simp) _).setLow (by simp) _).mono (by simp; omega)
  · exact (((((HB.setCell (by simp; omega) _).setCell (by simp) _).setCell (by simp) _).setCell (by simp) _).setCell (by simp) _)
set_option maxRecDepth 100000 in
set_option maxHeartbeats 400000 in
theorem szBath_any (L T Y : Int) (A : Option Addr) (n c : Nat) (k : Int) (w : World) (hn : n ≤ 9223372036854775807) (h0 : 0 ≤ k) (h1 : k ≤ 9223372036854775807) :
    Calls Try.prog 16 #[bathV L T Y (.slice A n c), .int .i64 k] w fun e w' => e = .returned (.int .i64 (if (n : Int) ≤ k then k - n else -1)) ∧ Below w.heap.size w w' := by
  by_cases hk : (n : Int) ≤ k
  · go_enter Try.func16, Try.ntmps16
    go_wp2_with (go_at_call 46; refine (szIntS_any A n c k _ hn h0 h1).mono ?_; rintro e w1 ⟨rfl, rfl⟩)
    go_ret
    exact ⟨rfl, (Below.refl _ _).alloc (Nat.le_refl _) _⟩
  · go_enter Try.func16, Try.ntmps16
    go_wp2_with (go_at_call 46; refine (szIntS_any A n c k _ hn h0 h1).mono ?_; rintro e w1 ⟨rfl, rfl⟩)
    go_ret
    exact ⟨rfl, (Below.refl _ _).alloc (Nat.le_refl _) _⟩
theorem szBath_rest (L T Y : Int) (A : Option Addr) (n c : Nat) (k : Int) (w : World) (hn : (n : Int) ≤ k) (hk : k ≤ 9223372036854775807) :
    Calls Try.prog 16 #[bathV L T Y (.slice A n c), .int .i64 k] w fun e w' => e = .returned (.int .i64 (k - n)) ∧ Below w.heap.size w w' :=
  (szBath_any L T Y A n c k w (by omega) (by omega) hk).mono fun e w' ⟨he, hb⟩ => ⟨by rw [he, if_pos hn], hb⟩
theorem szBath_over (L T Y : Int) (A : Option Addr) (n c : Nat) (k : Int) (w : World) (hn : ¬ (n : Int) ≤ k) (h0 : 0 ≤ k) (hk : k ≤ 9223372036854775807) (hlt : n ≤ 9223372036854775807) :
    Calls Try.prog 16 #[bathV L T Y (.slice A n c), .int .i64 k] w fun e w' => e = .returned (.int .i64 (-1)) ∧ Below w.heap.size w w' :=
  (szBath_any L T Y A n c k w hlt h0 hk).mono fun e w' ⟨he, hb⟩ => ⟨by rw [he, if_neg hn], hb⟩
set_option maxRecDepth 100000 in
set_option maxHeartbeats 400000 in
theorem eqBath_same (L T Y : Int) (A A' : Option Addr) (n c n' c' B B' : Nat) (xs : List Int) (w : World) (h : Rd w B A n c xs) (h' : Rd w B' A' n' c' xs) (hB : B ≤ w.heap.size) (hB' : B' ≤ w.heap.size) :
    Calls Try.prog 20 #[bathV L T Y (.slice A n c), bathV L T Y (.slice A' n' c')] w fun e w' => e = .returned (.bool true) ∧ Below w.heap.size w w' := by
  go_enter Try.func20, Try.ntmps20
  go_wp2_with (go_at_call 23; refine (eqIntS_same A A' n c n' c' B B' xs _ ((h.alloc hB _).alloc (by simp; omega) _) ((h'.alloc hB' _).alloc (by simp; omega) _)).mono ?_; rintro e w1 ⟨rfl, q, rfl⟩)
  go_ret
  exact ⟨rfl, (((Below.refl _ _).alloc (Nat.le_refl _) _).alloc (by simp) _).trans ((low_drewN _ q).mono (by simp; omega))⟩
/-- What marking a bath leaves. -/
def MarkedBath (w : World) (lo : Nat) (v : Value) (k : Int) (n : Nat) (e : Ending) (w' : World) : Prop :=
  e = .returned (.int .i64 (k + n)) ∧ Own w' lo v (iota k n) ∧ w.grownBy w' v.ownBlock
set_option maxRecDepth 100000 in
set_option maxHeartbeats 400000 in
theorem markBath_any (L T Y : Int) (v : Value) (k : Int) (w : World) (lo : Nat) (xs : List Int) (h : Own w lo v xs) (hn : xs.length ≤ 1048576) (h0 : 0 ≤ k) (h1 : k ≤ 4294967296) :
    Calls Try.prog 33 #[bathV L T Y v, .int .i64 k] w (MarkedBath w lo v k xs.length) := by
  have h' := Lib.hid (h.all ((Below.refl _ _).alloc (Nat.le_refl _) (.cells #[.int .i64 L, .int .i64 T, .int .i64 Y, v] 34)))
  clear h
  go_enter Try.func33, Try.ntmps33
  go_wp2_with (go_at_call 25; refine (markIntS_any v k _ lo xs h'.out hn h0 h1).mono ?_; rintro e w1 ⟨rfl, hown, hg⟩)
  go_ret
  exact ⟨rfl, hown, grown_trans (World.grownBy_alloc _ _ _) hg⟩
set_option maxRecDepth 100000 in
set_option maxHeartbeats 400000 in
theorem heldBath_any (L T Y : Int) (A : Option Addr) (n c B : Nat) (k : Int) (w : World) (h : Rd w B A n c (iota k n)) (hB : B ≤ w.heap.size) (hn : n ≤ 1048576) (h0 : 0 ≤ k) (h1 : k ≤ 4294967296) :
    Calls Try.prog 34 #[bathV L T Y (.slice A n c), .int .i64 k] w fun e w' => e = .returned (.int .i64 (k + n)) ∧ Below w.heap.size w w' := by
  go_enter Try.func34, Try.ntmps34
  go_wp2_with (go_at_call 26; refine (heldIntS_any A n c B k _ (h.alloc hB _) hn h0 h1).mono ?_; rintro e w1 ⟨rfl, rfl⟩)
  go_ret
  exact ⟨rfl, (Below.refl _ _).alloc (Nat.le_refl _) _⟩

set_option maxRecDepth 100000 in
theorem open_bath {H : Type} {enc : TypeId × Value → H} {w : World} {r : Reach} {b0 base : Nat} {held : Bool} {v : Value} {d : DataW H} {p : List MemPlace}
    (hv : Value.okWide Try.prog w r b0 31 v) (h : DataW.Trod enc Try.prog w base (fun _ => true) held 31 v d p) :
    ∃ L T Y A n c xs, v = bathV L T Y (.slice A n c) ∧ Rd w w.heap.size A n c xs ∧ I64 L ∧ I64 T ∧ I64 Y := by
  obtain ⟨c0, c1, c2, c3, y0, y1, y2, y3, m, rfl, _, _, t0, t1, t2, t3⟩ := Joins.open_agg4 Try.underlying31 (by kernel_rfl) (by kernel_rfl) hv h
  obtain ⟨x0, e0, _, w0⟩ := DataW.trod_int Try.underlying3 t0
  obtain ⟨x1, e1, _, w1⟩ := DataW.trod_int Try.underlying3 t1
  obtain ⟨x2, e2, _, w2⟩ := DataW.trod_int Try.underlying3 t2
  obtain ⟨A, n, c, xs, e3, hr⟩ := open_ints_rd Try.underlying29 Try.underlying3 (by kernel_rfl) t3
  cases e0; cases e1; cases e2; cases e3
  exact ⟨_, _, _, _, _, _, xs, rfl, hr, kit.wf_bd w0, kit.wf_bd w1, kit.wf_bd w2⟩
end Go.Proofs.Ytadlgiecceohbaa
