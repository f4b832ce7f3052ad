/- The draws of chapter 3's laws over a code, and the words in which they compare. Condition: a code of at most 65536 bytes. -/
import Derived.Test.YtmdgclbcjjmpiaaDraws3b
import Derived.Test.YtmdgclbcjjmpiaaOwn2
import Derived.BigQuiet
namespace Go.Proofs.Ytmdgclbcjjmpiaa
open Go.RowKit

theorem put5c {w : World} {p : Nat} {t : TypeId} {c0 c1 c2 c3 c4 : Value} (h : Blk w p t #[c0, c1, c2, c3, c4]) (a b c d e : Value) : Blk (((((w.setCell ⟨p, 0, none⟩ a).setCell ⟨p, 1, none⟩ b).setCell ⟨p, 2, none⟩ c).setCell ⟨p, 3, none⟩ d).setCell ⟨p, 4, none⟩ e) p t #[a, b, c, d, e] := by
  have := ((((h.set_ 0 a).set_ 1 b).set_ 2 c).set_ 3 d).set_ 4 e
  simpa using this
theorem far5c {w : World} {p q : Nat} {t : TypeId} {cs : Array Value} (h : Blk w q t cs) (hp : q ≠ p) (a b c d e : Value) : Blk (((((w.setCell ⟨p, 0, none⟩ a).setCell ⟨p, 1, none⟩ b).setCell ⟨p, 2, none⟩ c).setCell ⟨p, 3, none⟩ d).setCell ⟨p, 4, none⟩ e) q t cs :=
  ((((h.far (a := ⟨p, 0, none⟩) hp a).far (a := ⟨p, 1, none⟩) hp b).far (a := ⟨p, 2, none⟩) hp c).far (a := ⟨p, 3, none⟩) hp d).far (a := ⟨p, 4, none⟩) hp e
theorem below5c {w0 w : World} {B p : Nat} (h : Below B w0 w) (hp : B ≤ p) (a b c d e : Value) : Below B w0 (((((w.setCell ⟨p, 0, none⟩ a).setCell ⟨p, 1, none⟩ b).setCell ⟨p, 2, none⟩ c).setCell ⟨p, 3, none⟩ d).setCell ⟨p, 4, none⟩ e) :=
  ((((h.setCell (p := ⟨p, 0, none⟩) hp a).setCell (p := ⟨p, 1, none⟩) hp b).setCell (p := ⟨p, 2, none⟩) hp c).setCell (p := ⟨p, 3, none⟩) hp d).setCell (p := ⟨p, 4, none⟩) hp e
set_option maxRecDepth 100000 in
set_option maxHeartbeats 2000000 in
theorem wheel3_any (p k : Nat) (w : World) (h : Cur w p k) (hk : k + 4 ≤ 4294967296) : Calls Try.prog 19 #[.pointer (some ⟨p, 0, none⟩)] w (Drew w p (k + 4) I64) := by
  have hpw := h.lt
  have hal := (Below.refl w.heap.size w).alloc (Nat.le_refl _) (.cells #[.int .i64 0, .int .i64 1, .int .i64 5, .int .i64 8, .int .i64 12, .int .i64 20, .int .i64 23, .int .i64 (-1), .int .i64 24] 3)
  have hL := Blk.new w #[.int .i64 0, .int .i64 1, .int .i64 5, .int .i64 8, .int .i64 12, .int .i64 20, .int .i64 23, .int .i64 (-1), .int .i64 24] 3
  have hc0 := h.all hal
  have HG := below_grown (row := some p) hal
  clear h hal
  go_enter Try.func19, Try.ntmps19
  go_wp2_with fail
  refine (pick_any p k 24 _ hc0 (by omega) (by omega) (by omega)).mono ?_
  rintro e w1 ⟨x, rfl, ⟨x0, x1⟩, hc1, hg1⟩
  replace hL := hL.mark hg1 (fun z hz => by cases hz; omega)
  replace HG := grown_trans HG hg1
  obtain ⟨m, hm⟩ : ∃ m : Nat, x / 11 = (m : Int) := ⟨(x / 11).toNat, by omega⟩
  have ht : Int.tdiv x 11 = (m : Int) := by rw [Int.tdiv_eq_ediv_of_nonneg x0, hm]
  have hmb : m ≤ 2 := by omega
  have he : IntKind.i64.wrap (7 + (m : Int)) = ((7 + m : Nat) : Int) := by rw [IntWalk.i64_in _ (by omega)]; omega
  clear hm hc0 hg1
  go_wp2_with fail
  refine (among_head p (k + 2) w.heap.size 9 _ _ [0, 1, 5, 8, 12, 20, 23, -1, 24] _ hc1 (by omega) (rd5 (xs := [0, 1, 5, 8, 12, 20, 23, -1, 24]) hL (i64_lit (by decide)) (by decide)) (by omega) (by omega) (by omega) (by omega)).mono ?_
  rintro e w2 ⟨y, rfl, hy, hc2, hg2⟩
  replace hy := i64_lit (l := [0, 1, 5, 8, 12, 20, 23, -1, 24]) (by decide) y hy
  replace HG := grown_trans HG hg2
  clear hc1 hg2 hL ht he
  go_wp2
  go_ret
  exact ⟨y, rfl, hy, hc2, HG⟩
set_option maxRecDepth 100000 in
set_option maxHeartbeats 2000000 in
theorem years3_any (p k : Nat) (w : World) (h : Cur w p k) (hk : k + 4 ≤ 4294967296) : Calls Try.prog 31 #[.pointer (some ⟨p, 0, none⟩)] w (Drew w p (k + 4) I64) := by
  have hpw := h.lt
  have hal := (Below.refl w.heap.size w).alloc (Nat.le_refl _) (.cells #[.int .i64 0, .int .i64 5, .int .i64 24, .int .i64 25, .int .i64 80, .int .i64 200, .int .i64 (-1), .int .i64 201] 3)
  have hL := Blk.new w #[.int .i64 0, .int .i64 5, .int .i64 24, .int .i64 25, .int .i64 80, .int .i64 200, .int .i64 (-1), .int .i64 201] 3
  have hc0 := h.all hal
  have HG := below_grown (row := some p) hal
  clear h hal
  go_enter Try.func31, Try.ntmps31
  go_wp2_with fail
  refine (pick_any p k 24 _ hc0 (by omega) (by omega) (by omega)).mono ?_
  rintro e w1 ⟨x, rfl, ⟨x0, x1⟩, hc1, hg1⟩
  replace hL := hL.mark hg1 (fun z hz => by cases hz; omega)
  replace HG := grown_trans HG hg1
  obtain ⟨m, hm⟩ : ∃ m : Nat, x / 11 = (m : Int) := ⟨(x / 11).toNat, by omega⟩
  have ht : Int.tdiv x 11 = (m : Int) := by rw [Int.tdiv_eq_ediv_of_nonneg x0, hm]
  have hmb : m ≤ 2 := by omega
  have he : IntKind.i64.wrap (6 + (m : Int)) = ((6 + m : Nat) : Int) := by rw [IntWalk.i64_in _ (by omega)]; omega
  clear hm hc0 hg1
  go_wp2_with fail
  refine (among_head p (k + 2) w.heap.size 8 _ _ [0, 5, 24, 25, 80, 200, -1, 201] _ hc1 (by omega) (rd5 (xs := [0, 5, 24, 25, 80, 200, -1, 201]) hL (i64_lit (by decide)) (by decide)) (by omega) (by omega) (by omega) (by omega)).mono ?_
  rintro e w2 ⟨y, rfl, hy, hc2, hg2⟩
  replace hy := i64_lit (l := [0, 5, 24, 25, 80, 200, -1, 201]) (by decide) y hy
  replace HG := grown_trans HG hg2
  clear hc1 hg2 hL ht he
  go_wp2
  go_ret
  exact ⟨y, rfl, hy, hc2, HG⟩
/-- What a draw of a card and 1 numbers leaves. -/
def GaveCard1 (w : World) (e : Ending) (w' : World) : Prop := ∃ (A : Option Addr) (c : Nat) (xs : List ShadeR) (i0 : Int), e = .returned (.tuple #[.slice A xs.length c, .int .i64 i0]) ∧ xs.length ≤ 11 ∧ I64 i0 ∧ OwnF shadeF w' w.heap.size (.slice A xs.length c) xs ∧ Below w.heap.size w w'
/-- What a draw of a card and 2 numbers leaves. -/
def GaveCard2 (w : World) (e : Ending) (w' : World) : Prop := ∃ (A : Option Addr) (c : Nat) (xs : List ShadeR) (i0 i1 : Int), e = .returned (.tuple #[.slice A xs.length c, .int .i64 i0, .int .i64 i1]) ∧ xs.length ≤ 11 ∧ I64 i0 ∧ I64 i1 ∧ OwnF shadeF w' w.heap.size (.slice A xs.length c) xs ∧ Below w.heap.size w w'
set_option maxRecDepth 100000 in
set_option maxHeartbeats 4000000 in
theorem drawNearestShade_any (A : Option Addr) (n c B : Nat) (w : World) (h : RdB w B A n c) (hB : B ≤ w.heap.size) (hn : n ≤ 65536) : Calls Try.prog 5 #[.slice A n c] w (GaveCard2 w) := by
  go_enter Try.func5, Try.ntmps5
  have hc0 := cur_new5 h hB hn
  have HB : Below w.heap.size w (w.alloc (.cells #[.slice A n c, .int .i64 0, .int .u64 0] 44)) := (Below.refl _ _).alloc (Nat.le_refl _) _
  clear h
  go_wp2_with fail
  refine (shadeCard_any w.heap.size 0 _ hc0 (by omega)).mono ?_
  rintro e w1 ⟨A1, c1, xs, rfl, hxl, ho, hc1, hg1⟩
  have hlo : w.heap.size < (w.alloc (.cells #[.slice A n c, .int .i64 0, .int .u64 0] 44)).heap.size := by simp
  have hbd := fun z hz => (ho.bd z hz).1
  replace HB := HB.trans (grown_below hg1 (Nat.le_refl _) HB.size)
  have hz1 := HB.size
  clear hg1 hc0
  go_wp2_with fail
  refine (wheel3_any w.heap.size 10000 _ hc1 (by omega)).mono ?_
  rintro e w2 ⟨i0, rfl, hi0, hc2, hg2⟩
  replace ho := ho.mark hg2 (fun z z' hz hz' => by cases hz; have := hbd z' hz'; omega)
  replace HB := HB.trans (grown_below hg2 (Nat.le_refl _) HB.size)
  have hz2 := HB.size
  clear hg2 hc1
  have qL : w.heap.size < w2.heap.size := hc2.lt
  have ob := (Below.refl w2.heap.size w2).alloc (Nat.le_refl _) (.cells #[.int .i64 0, .int .i64 3, .int .i64 9, .int .i64 (-1), .int .i64 10] 3)
  replace ho := ho.all ob
  replace hc2 := hc2.all ob
  have L0 := Blk.new w2 #[.int .i64 0, .int .i64 3, .int .i64 9, .int .i64 (-1), .int .i64 10] 3
  replace HB := HB.trans (ob.mono HB.size)
  clear ob
  go_wp2_with fail
  refine (pick_any w.heap.size 10004 24 _ hc2 (by omega) (by omega) (by omega)).mono ?_
  rintro e w3 ⟨x, rfl, ⟨x0, x1⟩, hc3, hg3⟩
  replace ho := ho.mark hg3 (fun z z' hz hz' => by cases hz; have := hbd z' hz'; omega)
  replace L0 := L0.mark hg3 (fun z hz => by cases hz; omega)
  replace HB := HB.trans (grown_below hg3 (Nat.le_refl _) HB.size)
  have hz3 := HB.size
  clear hg3 hc2
  obtain ⟨m, hm⟩ : ∃ m : Nat, x / 11 = (m : Int) := ⟨(x / 11).toNat, by omega⟩
  have ht : Int.tdiv x 11 = (m : Int) := by rw [Int.tdiv_eq_ediv_of_nonneg x0, hm]
  have hmb : m ≤ 2 := by omega
  have he : IntKind.i64.wrap (3 + (m : Int)) = ((3 + m : Nat) : Int) := by rw [IntWalk.i64_in _ (by omega)]; omega
  clear hm
  go_wp2_with fail
  refine (among_head w.heap.size 10006 w2.heap.size 5 _ _ [0, 3, 9, -1, 10] _ hc3 (by omega) (rd5 (xs := [0, 3, 9, -1, 10]) L0 (i64_lit (by decide)) (by decide)) (by omega) (by omega) (by omega) (by omega)).mono ?_
  rintro e w4 ⟨i1, rfl, hi1, hc4, hg4⟩
  replace hi1 := i64_lit (l := [0, 3, 9, -1, 10]) (by decide) i1 hi1
  clear L0 ht he
  replace ho := ho.mark hg4 (fun z z' hz hz' => by cases hz; have := hbd z' hz'; omega)
  replace HB := HB.trans (grown_below hg4 (Nat.le_refl _) HB.size)
  have hz4 := HB.size
  clear hg4 hc3
  go_wp2
  go_ret3
  exact ⟨A1, c1, xs, i0, i1, rfl, hxl, hi0, hi1, ho.mono (Nat.le_of_lt hlo), HB⟩
set_option maxRecDepth 100000 in
set_option maxHeartbeats 4000000 in
theorem drawFadedApart_any (A : Option Addr) (n c B : Nat) (w : World) (h : RdB w B A n c) (hB : B ≤ w.heap.size) (hn : n ≤ 65536) : Calls Try.prog 9 #[.slice A n c] w (GaveCard2 w) := by
  go_enter Try.func9, Try.ntmps9
  have hc0 := cur_new5 h hB hn
  have HB : Below w.heap.size w (w.alloc (.cells #[.slice A n c, .int .i64 0, .int .u64 0] 44)) := (Below.refl _ _).alloc (Nat.le_refl _) _
  clear h
  go_wp2_with fail
  refine (shadeCard_any w.heap.size 0 _ hc0 (by omega)).mono ?_
  rintro e w1 ⟨A1, c1, xs, rfl, hxl, ho, hc1, hg1⟩
  have hlo : w.heap.size < (w.alloc (.cells #[.slice A n c, .int .i64 0, .int .u64 0] 44)).heap.size := by simp
  have hbd := fun z hz => (ho.bd z hz).1
  replace HB := HB.trans (grown_below hg1 (Nat.le_refl _) HB.size)
  have hz1 := HB.size
  clear hg1 hc0
  go_wp2_with fail
  refine (years3_any w.heap.size 10000 _ hc1 (by omega)).mono ?_
  rintro e w2 ⟨i0, rfl, hi0, hc2, hg2⟩
  replace ho := ho.mark hg2 (fun z z' hz hz' => by cases hz; have := hbd z' hz'; omega)
  replace HB := HB.trans (grown_below hg2 (Nat.le_refl _) HB.size)
  have hz2 := HB.size
  clear hg2 hc1
  have qL : w.heap.size < w2.heap.size := hc2.lt
  have ob := (Below.refl w2.heap.size w2).alloc (Nat.le_refl _) (.cells #[.int .i64 0, .int .i64 2, .int .i64 5, .int .i64 9, .int .i64 33, .int .i64 (-1), .int .i64 34] 3)
  replace ho := ho.all ob
  replace hc2 := hc2.all ob
  have L0 := Blk.new w2 #[.int .i64 0, .int .i64 2, .int .i64 5, .int .i64 9, .int .i64 33, .int .i64 (-1), .int .i64 34] 3
  replace HB := HB.trans (ob.mono HB.size)
  clear ob
  go_wp2_with fail
  refine (pick_any w.heap.size 10004 24 _ hc2 (by omega) (by omega) (by omega)).mono ?_
  rintro e w3 ⟨x, rfl, ⟨x0, x1⟩, hc3, hg3⟩
  replace ho := ho.mark hg3 (fun z z' hz hz' => by cases hz; have := hbd z' hz'; omega)
  replace L0 := L0.mark hg3 (fun z hz => by cases hz; omega)
  replace HB := HB.trans (grown_below hg3 (Nat.le_refl _) HB.size)
  have hz3 := HB.size
  clear hg3 hc2
  obtain ⟨m, hm⟩ : ∃ m : Nat, x / 11 = (m : Int) := ⟨(x / 11).toNat, by omega⟩
  have ht : Int.tdiv x 11 = (m : Int) := by rw [Int.tdiv_eq_ediv_of_nonneg x0, hm]
  have hmb : m ≤ 2 := by omega
  have he : IntKind.i64.wrap (5 + (m : Int)) = ((5 + m : Nat) : Int) := by rw [IntWalk.i64_in _ (by omega)]; omega
  clear hm
  go_wp2_with fail
  refine (among_head w.heap.size 10006 w2.heap.size 7 _ _ [0, 2, 5, 9, 33, -1, 34] _ hc3 (by omega) (rd5 (xs := [0, 2, 5, 9, 33, -1, 34]) L0 (i64_lit (by decide)) (by decide)) (by omega) (by omega) (by omega) (by omega)).mono ?_
  rintro e w4 ⟨i1, rfl, hi1, hc4, hg4⟩
  replace hi1 := i64_lit (l := [0, 2, 5, 9, 33, -1, 34]) (by decide) i1 hi1
  clear L0 ht he
  replace ho := ho.mark hg4 (fun z z' hz hz' => by cases hz; have := hbd z' hz'; omega)
  replace HB := HB.trans (grown_below hg4 (Nat.le_refl _) HB.size)
  have hz4 := HB.size
  clear hg4 hc3
  go_wp2
  go_ret3
  exact ⟨A1, c1, xs, i0, i1, rfl, hxl, hi0, hi1, ho.mono (Nat.le_of_lt hlo), HB⟩
set_option maxRecDepth 100000 in
set_option maxHeartbeats 4000000 in
theorem drawTriadsOf_any (A : Option Addr) (n c B : Nat) (w : World) (h : RdB w B A n c) (hB : B ≤ w.heap.size) (hn : n ≤ 65536) : Calls Try.prog 13 #[.slice A n c] w (GaveCard1 w) := by
  go_enter Try.func13, Try.ntmps13
  have hc0 := cur_new5 h hB hn
  have HB : Below w.heap.size w (w.alloc (.cells #[.slice A n c, .int .i64 0, .int .u64 0] 44)) := (Below.refl _ _).alloc (Nat.le_refl _) _
  clear h
  go_wp2_with fail
  refine (shadeCard_any w.heap.size 0 _ hc0 (by omega)).mono ?_
  rintro e w1 ⟨A1, c1, xs, rfl, hxl, ho, hc1, hg1⟩
  have hlo : w.heap.size < (w.alloc (.cells #[.slice A n c, .int .i64 0, .int .u64 0] 44)).heap.size := by simp
  have hbd := fun z hz => (ho.bd z hz).1
  replace HB := HB.trans (grown_below hg1 (Nat.le_refl _) HB.size)
  have hz1 := HB.size
  clear hg1 hc0
  have qL : w.heap.size < w1.heap.size := hc1.lt
  have ob := (Below.refl w1.heap.size w1).alloc (Nat.le_refl _) (.cells #[.int .i64 0, .int .i64 1, .int .i64 2, .int .i64 4, .int .i64 (-1), .int .i64 5] 3)
  replace ho := ho.all ob
  replace hc1 := hc1.all ob
  have L0 := Blk.new w1 #[.int .i64 0, .int .i64 1, .int .i64 2, .int .i64 4, .int .i64 (-1), .int .i64 5] 3
  replace HB := HB.trans (ob.mono HB.size)
  clear ob
  go_wp2_with fail
  refine (pick_any w.heap.size 10000 24 _ hc1 (by omega) (by omega) (by omega)).mono ?_
  rintro e w2 ⟨x, rfl, ⟨x0, x1⟩, hc2, hg2⟩
  replace ho := ho.mark hg2 (fun z z' hz hz' => by cases hz; have := hbd z' hz'; omega)
  replace L0 := L0.mark hg2 (fun z hz => by cases hz; omega)
  replace HB := HB.trans (grown_below hg2 (Nat.le_refl _) HB.size)
  have hz2 := HB.size
  clear hg2 hc1
  obtain ⟨m, hm⟩ : ∃ m : Nat, x / 11 = (m : Int) := ⟨(x / 11).toNat, by omega⟩
  have ht : Int.tdiv x 11 = (m : Int) := by rw [Int.tdiv_eq_ediv_of_nonneg x0, hm]
  have hmb : m ≤ 2 := by omega
  have he : IntKind.i64.wrap (4 + (m : Int)) = ((4 + m : Nat) : Int) := by rw [IntWalk.i64_in _ (by omega)]; omega
  clear hm
  go_wp2_with fail
  refine (among_head w.heap.size 10002 w1.heap.size 6 _ _ [0, 1, 2, 4, -1, 5] _ hc2 (by omega) (rd5 (xs := [0, 1, 2, 4, -1, 5]) L0 (i64_lit (by decide)) (by decide)) (by omega) (by omega) (by omega) (by omega)).mono ?_
  rintro e w3 ⟨i0, rfl, hi0, hc3, hg3⟩
  replace hi0 := i64_lit (l := [0, 1, 2, 4, -1, 5]) (by decide) i0 hi0
  clear L0 ht he
  replace ho := ho.mark hg3 (fun z z' hz hz' => by cases hz; have := hbd z' hz'; omega)
  replace HB := HB.trans (grown_below hg3 (Nat.le_refl _) HB.size)
  have hz3 := HB.size
  clear hg3 hc2
  go_wp2
  go_ret2
  exact ⟨A1, c1, xs, i0, rfl, hxl, hi0, ho.mono (Nat.le_of_lt hlo), HB⟩
/-- What a draw of two shades leaves. -/
def GaveShades2 (w : World) (e : Ending) (w' : World) : Prop := ∃ a b : ShadeR, e = .returned (.tuple #[.agg #[.int .i64 a.f0, .string a.f1, .int .i64 a.f2, .int .i64 a.f3, .int .i64 a.f4], .agg #[.int .i64 b.f0, .string b.f1, .int .i64 b.f2, .int .i64 b.f3, .int .i64 b.f4]]) ∧ a.ok ∧ b.ok ∧ Below w.heap.size w w'
set_option maxRecDepth 100000 in
set_option maxHeartbeats 4000000 in
theorem drawShadeDistance_any (A : Option Addr) (n c B : Nat) (w : World) (h : RdB w B A n c) (hB : B ≤ w.heap.size) (hn : n ≤ 65536) : Calls Try.prog 16 #[.slice A n c] w (GaveShades2 w) := by
  have r0 := ((Blk.new w #[.int .i64 0, .string ⟨#[]⟩, .int .i64 0, .int .i64 0, .int .i64 0] 30).alloc (.cells #[.int .i64 0, .string ⟨#[]⟩, .int .i64 0, .int .i64 0, .int .i64 0] 30)).alloc (.cells #[.slice A n c, .int .i64 0, .int .u64 0] 44)
  have s0 := ((Blk.new (w.alloc (.cells #[.int .i64 0, .string ⟨#[]⟩, .int .i64 0, .int .i64 0, .int .i64 0] 30)) #[.int .i64 0, .string ⟨#[]⟩, .int .i64 0, .int .i64 0, .int .i64 0] 30).alloc (.cells #[.slice A n c, .int .i64 0, .int .u64 0] 44)).at_ (q := w.heap.size + 1) (by simp)
  have hc0 : Cur (((w.alloc (.cells #[.int .i64 0, .string ⟨#[]⟩, .int .i64 0, .int .i64 0, .int .i64 0] 30)).alloc (.cells #[.int .i64 0, .string ⟨#[]⟩, .int .i64 0, .int .i64 0, .int .i64 0] 30)).alloc (.cells #[.slice A n c, .int .i64 0, .int .u64 0] 44)) (w.heap.size + 2) 0 := by
    have := cur_new5 ((h.alloc hB (.cells #[.int .i64 0, .string ⟨#[]⟩, .int .i64 0, .int .i64 0, .int .i64 0] 30)).alloc (by simp; omega) (.cells #[.int .i64 0, .string ⟨#[]⟩, .int .i64 0, .int .i64 0, .int .i64 0] 30)) (by simp; omega) hn
    simpa using this
  have HB : Below w.heap.size w (((w.alloc (.cells #[.int .i64 0, .string ⟨#[]⟩, .int .i64 0, .int .i64 0, .int .i64 0] 30)).alloc (.cells #[.int .i64 0, .string ⟨#[]⟩, .int .i64 0, .int .i64 0, .int .i64 0] 30)).alloc (.cells #[.slice A n c, .int .i64 0, .int .u64 0] 44)) := (((Below.refl _ _).alloc (Nat.le_refl _) _).alloc (by simp) _).alloc (by simp; omega) _
  clear h
  go_enter Try.func16, Try.ntmps16
  go_wp2_with fail
  refine (shade_any (w.heap.size + 2) 0 5 _ hc0 (by omega) (i64_small5 (by decide) (by decide))).mono ?_
  rintro e w1 ⟨a, rfl, ⟨ha, _⟩, hc1, hg1⟩
  replace r0 := r0.mark hg1 (fun z hz => by cases hz; omega)
  replace s0 := s0.mark hg1 (fun z hz => by cases hz; omega)
  replace HB := HB.trans (grown_below hg1 (by omega) HB.size)
  clear hc0 hg1
  go_wp2_with fail
  refine (shade_any (w.heap.size + 2) (0 + 100) 7 _ hc1 (by omega) (i64_small5 (by decide) (by decide))).mono ?_
  rintro e w2 ⟨b, rfl, ⟨hb, _⟩, hc2, hg2⟩
  replace r0 := r0.mark hg2 (fun z hz => by cases hz; omega)
  replace s0 := s0.mark hg2 (fun z hz => by cases hz; omega)
  replace HB := HB.trans (grown_below hg2 (by omega) HB.size)
  clear hc1 hg2 hc2
  have r1 := (put5c r0 (.int .i64 a.f0) (.string a.f1) (.int .i64 a.f2) (.int .i64 a.f3) (.int .i64 a.f4))
  have s1 := (far5c (p := w.heap.size) s0 (by omega) (.int .i64 a.f0) (.string a.f1) (.int .i64 a.f2) (.int .i64 a.f3) (.int .i64 a.f4))
  have s2 := (put5c s1 (.int .i64 b.f0) (.string b.f1) (.int .i64 b.f2) (.int .i64 b.f3) (.int .i64 b.f4))
  have r2 := (far5c (p := w.heap.size + 1) r1 (by omega) (.int .i64 b.f0) (.string b.f1) (.int .i64 b.f2) (.int .i64 b.f3) (.int .i64 b.f4))
  have HB2 := below5c (p := w.heap.size + 1) (below5c (p := w.heap.size) HB (Nat.le_refl _) (.int .i64 a.f0) (.string a.f1) (.int .i64 a.f2) (.int .i64 a.f3) (.int .i64 a.f4)) (by omega) (.int .i64 b.f0) (.string b.f1) (.int .i64 b.f2) (.int .i64 b.f3) (.int .i64 b.f4)
  have v0 := r0.cell 0
  have f0 := r0.frozen 0
  have u0 := s1.cell 0
  have g0 := s1.frozen 0
  have v1 := r0.cell 1
  have f1 := r0.frozen 1
  have u1 := s1.cell 1
  have g1 := s1.frozen 1
  have v2 := r0.cell 2
  have f2 := r0.frozen 2
  have u2 := s1.cell 2
  have g2 := s1.frozen 2
  have v3 := r0.cell 3
  have f3 := r0.frozen 3
  have u3 := s1.cell 3
  have g3 := s1.frozen 3
  have v4 := r0.cell 4
  have f4 := r0.frozen 4
  have u4 := s1.cell 4
  have g4 := s1.frozen 4
  clear HB s0 r0 r1 s1
  go_wp2_with fail
  clear v0 f0 u0 g0 v1 f1 u1 g1 v2 f2 u2 g2 v3 f3 u3 g3 v4 f4 u4 g4
  have y0 := r2.cell 0
  have z0 := s2.cell 0
  have y1 := r2.cell 1
  have z1 := s2.cell 1
  have y2 := r2.cell 2
  have z2 := s2.cell 2
  have y3 := r2.cell 3
  have z3 := s2.cell 3
  have y4 := r2.cell 4
  have z4 := s2.cell 4
  exact bodyPost_ret (v := .tuple #[.agg #[.int .i64 a.f0, .string a.f1, .int .i64 a.f2, .int .i64 a.f3, .int .i64 a.f4], .agg #[.int .i64 b.f0, .string b.f1, .int .i64 b.f2, .int .i64 b.f3, .int .i64 b.f4]]) (by simp [results, Try.results16, go_sem, y0, y1, y2, y3, y4, z0, z1, z2, z3, z4]) rfl ⟨a, b, rfl, ha, hb, HB2⟩
set_option maxRecDepth 100000 in
set_option maxHeartbeats 1000000 in
theorem rInts_same (A A' : Option Addr) (n c n' c' B B' : Nat) (xs : List Int) (w : World) (h : Rd w B A n c xs) (h' : Rd w B' A' n' c' xs) :
    Calls Try.prog 38 #[.slice A n c, .slice A' n' c'] w fun e w' => e = .returned (.bool true) ∧ ∃ q, w' = w.drewN q := by
  have hn := h.len_lt
  obtain rfl : n' = n := by rw [← h.len, ← h'.len]
  go_enter Try.func38, Try.ntmps38
  go_wp2
  go_loopw [5] (fun i wr => ∃ k q : Nat, k ≤ n' ∧ i = .int .i64 k ∧ wr = w.drewN q) (fun i _ => n' - (intOf i).toNat)
  case atStart => exact ⟨0, 0, Nat.zero_le _, rfl, rfl⟩
  case round =>
    obtain ⟨k, q, hk, rfl, rfl⟩ := hrel
    by_cases hlt : k < n'
    · obtain ⟨b, off, x, rfl, _, hc, _, _, HX⟩ := h.at hlt
      obtain ⟨b', off', x', rfl, _, hc', _, _, HX'⟩ := h'.at hlt
      obtain rfl : x' = x := HX'.out.symm.trans HX.out
      go_wp2
      go_quiet (fail)
      go_wp2
      go_roundw
      case rel => exact ⟨k + 1, _, by omega, by go_num, rfl⟩
      case measure => simp [intOf]; omega
    · go_wp2
      go_ret
      exact ⟨rfl, _, rfl⟩
set_option maxRecDepth 100000 in
set_option maxHeartbeats 1000000 in
theorem rTable_same (A A' : Option Addr) (n c n' c' lo lo' : Nat) (yss : List (List Int)) (w : World) (h : Own2 w lo (.slice A n c) yss) (h' : Own2 w lo' (.slice A' n' c') yss) (hl : yss.length ≤ 1048576) :
    Calls Try.prog 12 #[.slice A n c, .slice A' n' c'] w (Out w (.bool true)) := by
  obtain ⟨_, _, e, _⟩ := h.form
  cases e
  obtain ⟨_, _, e, _⟩ := h'.form
  cases e
  go_enter Try.func12, Try.ntmps12
  go_wp2
  go_loopw [5] (fun i wr => ∃ k q : Nat, k ≤ yss.length ∧ i = .int .i64 k ∧ wr = w.drewN q) (fun i _ => yss.length - (intOf i).toNat)
  case atStart => exact ⟨0, 0, Nat.zero_le _, rfl, rfl⟩
  case round =>
    obtain ⟨k, q, hk, rfl, rfl⟩ := hrel
    by_cases hlt : k < yss.length
    · obtain ⟨g, hd, ys, rfl, _, _, _, hc, ho, HY⟩ := h.at hlt
      obtain ⟨g', hd', ys', rfl, _, _, _, hc', ho', HY'⟩ := h'.at hlt
      obtain rfl : ys' = ys := Option.some.inj (HY'.out.symm.trans HY.out)
      obtain ⟨B1, c1, rfl, hr1, _⟩ := ho.form
      obtain ⟨B2, c2, rfl, hr2, _⟩ := ho'.form
      clear HY HY'
      have q1 := hr1.drewN q
      have q2 := hr2.drewN q
      have d1 : (w.drewN q).cell? ⟨g, k, none⟩ = some (.slice B1 ys'.length c1) := hc
      have d2 : (w.drewN q).cell? ⟨g', k, none⟩ = some (.slice B2 ys'.length c2) := hc'
      generalize hwo : w.drewN q = wo at *
      go_wp2
      go_quiet ((go_at_call 38; exact Calls.quiet_of (rInts_same _ _ _ _ _ _ _ _ ys' _ (q1.drewN _) (q2.drewN _))))
      go_wp2
      go_roundw
      case rel => exact ⟨k + 1, q + nq, by omega, by go_num, by rw [← hwo, World.drewN_drewN]⟩
      case measure => simp [intOf]; omega
    · go_wp2
      go_ret
      exact ⟨rfl, low_drewN w q⟩
end Go.Proofs.Ytmdgclbcjjmpiaa
