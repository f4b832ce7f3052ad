/- The draws of chapter 11's laws over a code. Condition: a code of at most 65536 bytes. -/
import Derived.Test.YtanfblpibomfaaaDraws11b
import Derived.BigQuiet
namespace Go.Proofs.Ytanfblpibomfaaa
open Go.RowKit

theorem i64_litb {l : List Int} (h : ∀ x ∈ l, -100000000 ≤ x ∧ x ≤ 100000000) : ∀ x ∈ l, I64 x := fun x hx => by have := h x hx; unfold I64; omega
set_option maxRecDepth 100000 in
set_option maxHeartbeats 4000000 in
theorem weaverId_any (p k : Nat) (A : Option Addr) (c lo : Nat) (xs : List WeaverR) (w : World) (h : Cur w p k) (hk : k + 10 ≤ 4294967296) (ho : OwnF weaverF w lo (.slice A xs.length c) xs) (hlo : p < lo) (hl : xs.length ≤ 11) :
    Calls Try.prog 47 #[.pointer (some ⟨p, 0, none⟩), .slice A xs.length c] w (Drew w p (k + 10) I64) := by
  have hpw := h.lt
  have hbd := fun z hz => (ho.bd z hz).1
  obtain ⟨n, hn⟩ : ∃ n, xs.length = n := ⟨_, rfl⟩
  rw [hn] at ho hbd hl ⊢
  have HL := Lib.hid hn
  clear hn
  by_cases h0 : n = 0
  · subst h0
    go_enter Try.func47, Try.ntmps47
    go_wp2_with fail
    refine (among5 p k w.heap.size 3 [0, 1, 50] w rfl rfl h (by omega) (by decide) (by decide) (i64_litb (by decide))).mono ?_
    rintro e w1 ⟨y, rfl, hy, hc1, hg1⟩
    replace hy := i64_litb (l := [0, 1, 50]) (by decide) y hy
    go_wp2
    go_ret
    exact ⟨y, rfl, hy, hc1.more (by omega), hg1⟩
  · have h0' : ((n : Int) == 0) = false := by simp; omega
    go_enter Try.func47, Try.ntmps47
    go_wp2_with fail
    refine (one_any p k 10 _ h (by omega) (by omega) (by omega)).mono ?_
    rintro e w1 ⟨d, rfl, hc1, hg1⟩
    have ho1 := ho.mark hg1 (fun z z' hz hz' => by cases hz; have := hbd z' hz'; omega)
    have hz1 := hg1.size
    clear h ho
    cases d with
    | true =>
      go_wp2_with fail
      refine (among5 p (k + 2) w1.heap.size 3 [0, 1, 50] w1 rfl rfl hc1 (by omega) (by decide) (by decide) (i64_litb (by decide))).mono ?_
      rintro e w2 ⟨y, rfl, hy, hc2, hg2⟩
      replace hy := i64_litb (l := [0, 1, 50]) (by decide) y hy
      go_wp2
      go_ret
      exact ⟨y, rfl, hy, hc2.more (by omega), grown_trans hg1 hg2⟩
    | false =>
      go_wp2_with fail
      refine (pick_any p (k + 2) n _ hc1 (by omega) (by omega) (by omega)).mono ?_
      rintro e w2 ⟨y, rfl, ⟨y0, y1⟩, hc2, hg2⟩
      have ho2 := ho1.mark hg2 (fun z z' hz hz' => by cases hz; have := hbd z' hz'; omega)
      obtain ⟨j, rfl⟩ := Int.eq_ofNat_of_zero_le y0
      have hj : j < n := by omega
      obtain ⟨b, off, a, rfl, hbB, ok, HX, hc0, _, _, _, _⟩ := WeaverR_at (F := weaverF) rfl (fun _ => rfl) (fun _ => rfl) ho2.rd hj
      have hj1 : (j : Int) < (n : Int) := by omega
      have ia := ok.1
      clear hc1 y0 y1
      go_wp2
      go_ret
      exact ⟨a.f0, rfl, ia, hc2.more (by omega), grown_trans hg1 hg2⟩
set_option maxRecDepth 100000 in
set_option maxHeartbeats 2000000 in
theorem loom11_any (p k : Nat) (w : World) (h : Cur w p k) (hk : k + 4 ≤ 4294967296) : Calls Try.prog 35 #[.pointer (some ⟨p, 0, none⟩)] w (Drew w p (k + 4) I64) := by
  have hpw := h.lt
  have hal := (Below.refl w.heap.size w).alloc (Nat.le_refl _) (.cells #[.int .i64 3, .int .i64 3, .int .i64 4, .int .i64 99, .int .i64 50, .int .i64 0, .int .i64 100] 3)
  have hL := Blk.new w #[.int .i64 3, .int .i64 3, .int .i64 4, .int .i64 99, .int .i64 50, .int .i64 0, .int .i64 100] 3
  have hc0 := h.all hal
  have HG := below_grown (row := some p) hal
  clear h hal
  go_enter Try.func35, Try.ntmps35
  go_wp2_with fail
  refine (pick_any p k 24 _ hc0 (by omega) (by omega) (by omega)).mono ?_
  rintro e w1 ⟨x, rfl, ⟨x0, x1⟩, hc1, hg1⟩
  replace hL := hL.mark hg1 (fun z hz => by cases hz; omega)
  replace HG := grown_trans HG hg1
  obtain ⟨m, hm⟩ : ∃ m : Nat, x / 11 = (m : Int) := ⟨(x / 11).toNat, by omega⟩
  have ht : Int.tdiv x 11 = (m : Int) := by rw [Int.tdiv_eq_ediv_of_nonneg x0, hm]
  have hmb : m ≤ 2 := by omega
  have he : IntKind.i64.wrap (5 + (m : Int)) = ((5 + m : Nat) : Int) := by rw [IntWalk.i64_in _ (by omega)]; omega
  clear hm hc0 hg1
  go_wp2_with fail
  refine (among_head p (k + 2) w.heap.size 7 _ _ [3, 3, 4, 99, 50, 0, 100] _ hc1 (by omega) (rd5 (xs := [3, 3, 4, 99, 50, 0, 100]) hL (i64_litb (by decide)) (by decide)) (by omega) (by omega) (by omega) (by omega)).mono ?_
  rintro e w2 ⟨y, rfl, hy, hc2, hg2⟩
  replace hy := i64_litb (l := [3, 3, 4, 99, 50, 0, 100]) (by decide) y hy
  replace HG := grown_trans HG hg2
  clear hc1 hg2 hL ht he
  go_wp2
  go_ret
  exact ⟨y, rfl, hy, hc2, HG⟩
/-- What a draw of weavers leaves. -/
def GaveWeavers0 (w : World) (e : Ending) (w' : World) : Prop := ∃ (A : Option Addr) (c : Nat) (xs : List WeaverR), e = .returned (.slice A xs.length c) ∧ xs.length ≤ 11 ∧ OwnF weaverF w' w.heap.size (.slice A xs.length c) xs ∧ Below w.heap.size w w'
/-- What a draw of weavers and 1 numbers leaves. -/
def GaveWeavers1 (w : World) (e : Ending) (w' : World) : Prop := ∃ (A : Option Addr) (c : Nat) (xs : List WeaverR) (i0 : Int), e = .returned (.tuple #[.slice A xs.length c, .int .i64 i0]) ∧ xs.length ≤ 11 ∧ I64 i0 ∧ OwnF weaverF w' w.heap.size (.slice A xs.length c) xs ∧ Below w.heap.size w w'
/-- What a draw of weavers and 2 numbers leaves. -/
def GaveWeavers2 (w : World) (e : Ending) (w' : World) : Prop := ∃ (A : Option Addr) (c : Nat) (xs : List WeaverR) (i0 i1 : Int), e = .returned (.tuple #[.slice A xs.length c, .int .i64 i0, .int .i64 i1]) ∧ xs.length ≤ 11 ∧ I64 i0 ∧ I64 i1 ∧ OwnF weaverF w' w.heap.size (.slice A xs.length c) xs ∧ Below w.heap.size w w'
/-- What a draw of weavers and 3 numbers leaves. -/
def GaveWeavers3 (w : World) (e : Ending) (w' : World) : Prop := ∃ (A : Option Addr) (c : Nat) (xs : List WeaverR) (i0 i1 i2 : Int), e = .returned (.tuple #[.slice A xs.length c, .int .i64 i0, .int .i64 i1, .int .i64 i2]) ∧ xs.length ≤ 11 ∧ I64 i0 ∧ I64 i1 ∧ I64 i2 ∧ OwnF weaverF w' w.heap.size (.slice A xs.length c) xs ∧ Below w.heap.size w w'
set_option maxRecDepth 100000 in
set_option maxHeartbeats 4000000 in
theorem drawAreWeavers_any (A : Option Addr) (n c B : Nat) (w : World) (h : RdB w B A n c) (hB : B ≤ w.heap.size) (hn : n ≤ 65536) : Calls Try.prog 52 #[.slice A n c] w (GaveWeavers0 w) := by
  go_enter Try.func52, Try.ntmps52
  have hc0 := cur_new5 h hB hn
  have HB : Below w.heap.size w (w.alloc (.cells #[.slice A n c, .int .i64 0, .int .u64 0] 56)) := (Below.refl _ _).alloc (Nat.le_refl _) _
  clear h
  go_wp2_with fail
  refine (weavers_any w.heap.size 0 _ hc0 (by omega)).mono ?_
  rintro e w1 ⟨A1, c1, xs, rfl, hxl, ho, hc1, hg1⟩
  have hlo : w.heap.size < (w.alloc (.cells #[.slice A n c, .int .i64 0, .int .u64 0] 56)).heap.size := by simp
  have hbd := fun z hz => (ho.bd z hz).1
  replace HB := HB.trans (grown_below hg1 (Nat.le_refl _) HB.size)
  have hz1 := HB.size
  clear hg1 hc0
  go_wp2
  go_ret
  exact ⟨A1, c1, xs, rfl, hxl, ho.mono (Nat.le_of_lt hlo), HB⟩
set_option maxRecDepth 100000 in
set_option maxHeartbeats 4000000 in
theorem drawSeatWeaver_any (A : Option Addr) (n c B : Nat) (w : World) (h : RdB w B A n c) (hB : B ≤ w.heap.size) (hn : n ≤ 65536) : Calls Try.prog 10 #[.slice A n c] w (GaveWeavers2 w) := by
  go_enter Try.func10, Try.ntmps10
  have hc0 := cur_new5 h hB hn
  have HB : Below w.heap.size w (w.alloc (.cells #[.slice A n c, .int .i64 0, .int .u64 0] 56)) := (Below.refl _ _).alloc (Nat.le_refl _) _
  clear h
  go_wp2_with fail
  refine (weavers_any w.heap.size 0 _ hc0 (by omega)).mono ?_
  rintro e w1 ⟨A1, c1, xs, rfl, hxl, ho, hc1, hg1⟩
  have hlo : w.heap.size < (w.alloc (.cells #[.slice A n c, .int .i64 0, .int .u64 0] 56)).heap.size := by simp
  have hbd := fun z hz => (ho.bd z hz).1
  replace HB := HB.trans (grown_below hg1 (Nat.le_refl _) HB.size)
  have hz1 := HB.size
  clear hg1 hc0
  go_wp2_with fail
  refine (weaverId_any w.heap.size 10000 A1 c1 _ xs _ hc1 (by omega) ho hlo hxl).mono ?_
  rintro e w2 ⟨i0, rfl, hi0, hc2, hg2⟩
  replace ho := ho.mark hg2 (fun z z' hz hz' => by cases hz; have := hbd z' hz'; omega)
  replace HB := HB.trans (grown_below hg2 (Nat.le_refl _) HB.size)
  have hz2 := HB.size
  clear hg2 hc1
  go_wp2_with fail
  refine (loom11_any w.heap.size 10010 _ hc2 (by omega)).mono ?_
  rintro e w3 ⟨i1, rfl, hi1, hc3, hg3⟩
  replace ho := ho.mark hg3 (fun z z' hz hz' => by cases hz; have := hbd z' hz'; omega)
  replace HB := HB.trans (grown_below hg3 (Nat.le_refl _) HB.size)
  have hz3 := HB.size
  clear hg3 hc2
  go_wp2
  go_ret3
  exact ⟨A1, c1, xs, i0, i1, rfl, hxl, hi0, hi1, ho.mono (Nat.le_of_lt hlo), HB⟩
set_option maxRecDepth 100000 in
set_option maxHeartbeats 4000000 in
theorem drawDaysForKnots_any (A : Option Addr) (n c B : Nat) (w : World) (h : RdB w B A n c) (hB : B ≤ w.heap.size) (hn : n ≤ 65536) : Calls Try.prog 6 #[.slice A n c] w (GaveWeavers2 w) := by
  go_enter Try.func6, Try.ntmps6
  have hc0 := cur_new5 h hB hn
  have HB : Below w.heap.size w (w.alloc (.cells #[.slice A n c, .int .i64 0, .int .u64 0] 56)) := (Below.refl _ _).alloc (Nat.le_refl _) _
  clear h
  go_wp2_with fail
  refine (weavers_any w.heap.size 0 _ hc0 (by omega)).mono ?_
  rintro e w1 ⟨A1, c1, xs, rfl, hxl, ho, hc1, hg1⟩
  have hlo : w.heap.size < (w.alloc (.cells #[.slice A n c, .int .i64 0, .int .u64 0] 56)).heap.size := by simp
  have hbd := fun z hz => (ho.bd z hz).1
  replace HB := HB.trans (grown_below hg1 (Nat.le_refl _) HB.size)
  have hz1 := HB.size
  clear hg1 hc0
  go_wp2_with fail
  refine (loom11_any w.heap.size 10000 _ hc1 (by omega)).mono ?_
  rintro e w2 ⟨i0, rfl, hi0, hc2, hg2⟩
  replace ho := ho.mark hg2 (fun z z' hz hz' => by cases hz; have := hbd z' hz'; omega)
  replace HB := HB.trans (grown_below hg2 (Nat.le_refl _) HB.size)
  have hz2 := HB.size
  clear hg2 hc1
  have qL : w.heap.size < w2.heap.size := hc2.lt
  have ob := (Below.refl w2.heap.size w2).alloc (Nat.le_refl _) (.cells #[.int .i64 0, .int .i64 1, .int .i64 6000, .int .i64 100000, .int .i64 10000000, .int .i64 (-1), .int .i64 10000001] 3)
  replace ho := ho.all ob
  replace hc2 := hc2.all ob
  have L0 := Blk.new w2 #[.int .i64 0, .int .i64 1, .int .i64 6000, .int .i64 100000, .int .i64 10000000, .int .i64 (-1), .int .i64 10000001] 3
  replace HB := HB.trans (ob.mono HB.size)
  clear ob
  go_wp2_with fail
  refine (pick_any w.heap.size 10004 24 _ hc2 (by omega) (by omega) (by omega)).mono ?_
  rintro e w3 ⟨x, rfl, ⟨x0, x1⟩, hc3, hg3⟩
  replace ho := ho.mark hg3 (fun z z' hz hz' => by cases hz; have := hbd z' hz'; omega)
  replace L0 := L0.mark hg3 (fun z hz => by cases hz; omega)
  replace HB := HB.trans (grown_below hg3 (Nat.le_refl _) HB.size)
  have hz3 := HB.size
  clear hg3 hc2
  obtain ⟨m, hm⟩ : ∃ m : Nat, x / 11 = (m : Int) := ⟨(x / 11).toNat, by omega⟩
  have ht : Int.tdiv x 11 = (m : Int) := by rw [Int.tdiv_eq_ediv_of_nonneg x0, hm]
  have hmb : m ≤ 2 := by omega
  have he : IntKind.i64.wrap (5 + (m : Int)) = ((5 + m : Nat) : Int) := by rw [IntWalk.i64_in _ (by omega)]; omega
  clear hm
  go_wp2_with fail
  refine (among_head w.heap.size 10006 w2.heap.size 7 _ _ [0, 1, 6000, 100000, 10000000, -1, 10000001] _ hc3 (by omega) (rd5 (xs := [0, 1, 6000, 100000, 10000000, -1, 10000001]) L0 (i64_litb (by decide)) (by decide)) (by omega) (by omega) (by omega) (by omega)).mono ?_
  rintro e w4 ⟨i1, rfl, hi1, hc4, hg4⟩
  replace hi1 := i64_litb (l := [0, 1, 6000, 100000, 10000000, -1, 10000001]) (by decide) i1 hi1
  clear L0 ht he
  replace ho := ho.mark hg4 (fun z z' hz hz' => by cases hz; have := hbd z' hz'; omega)
  replace HB := HB.trans (grown_below hg4 (Nat.le_refl _) HB.size)
  have hz4 := HB.size
  clear hg4 hc3
  go_wp2
  go_ret3
  exact ⟨A1, c1, xs, i0, i1, rfl, hxl, hi0, hi1, ho.mono (Nat.le_of_lt hlo), HB⟩
set_option maxRecDepth 100000 in
set_option maxHeartbeats 4000000 in
theorem drawWithSkills_any (A : Option Addr) (n c B : Nat) (w : World) (h : RdB w B A n c) (hB : B ≤ w.heap.size) (hn : n ≤ 65536) : Calls Try.prog 56 #[.slice A n c] w (GaveWeavers1 w) := by
  go_enter Try.func56, Try.ntmps56
  have hc0 := cur_new5 h hB hn
  have HB : Below w.heap.size w (w.alloc (.cells #[.slice A n c, .int .i64 0, .int .u64 0] 56)) := (Below.refl _ _).alloc (Nat.le_refl _) _
  clear h
  go_wp2_with fail
  refine (weavers_any w.heap.size 0 _ hc0 (by omega)).mono ?_
  rintro e w1 ⟨A1, c1, xs, rfl, hxl, ho, hc1, hg1⟩
  have hlo : w.heap.size < (w.alloc (.cells #[.slice A n c, .int .i64 0, .int .u64 0] 56)).heap.size := by simp
  have hbd := fun z hz => (ho.bd z hz).1
  replace HB := HB.trans (grown_below hg1 (Nat.le_refl _) HB.size)
  have hz1 := HB.size
  clear hg1 hc0
  have qL : w.heap.size < w1.heap.size := hc1.lt
  have ob := (Below.refl w1.heap.size w1).alloc (Nat.le_refl _) (.cells #[.int .i64 1, .int .i64 2, .int .i64 5, .int .i64 11, .int .i64 15, .int .i64 0, .int .i64 16] 3)
  replace ho := ho.all ob
  replace hc1 := hc1.all ob
  have L0 := Blk.new w1 #[.int .i64 1, .int .i64 2, .int .i64 5, .int .i64 11, .int .i64 15, .int .i64 0, .int .i64 16] 3
  replace HB := HB.trans (ob.mono HB.size)
  clear ob
  go_wp2_with fail
  refine (pick_any w.heap.size 10000 24 _ hc1 (by omega) (by omega) (by omega)).mono ?_
  rintro e w2 ⟨x, rfl, ⟨x0, x1⟩, hc2, hg2⟩
  replace ho := ho.mark hg2 (fun z z' hz hz' => by cases hz; have := hbd z' hz'; omega)
  replace L0 := L0.mark hg2 (fun z hz => by cases hz; omega)
  replace HB := HB.trans (grown_below hg2 (Nat.le_refl _) HB.size)
  have hz2 := HB.size
  clear hg2 hc1
  obtain ⟨m, hm⟩ : ∃ m : Nat, x / 11 = (m : Int) := ⟨(x / 11).toNat, by omega⟩
  have ht : Int.tdiv x 11 = (m : Int) := by rw [Int.tdiv_eq_ediv_of_nonneg x0, hm]
  have hmb : m ≤ 2 := by omega
  have he : IntKind.i64.wrap (5 + (m : Int)) = ((5 + m : Nat) : Int) := by rw [IntWalk.i64_in _ (by omega)]; omega
  clear hm
  go_wp2_with fail
  refine (among_head w.heap.size 10002 w1.heap.size 7 _ _ [1, 2, 5, 11, 15, 0, 16] _ hc2 (by omega) (rd5 (xs := [1, 2, 5, 11, 15, 0, 16]) L0 (i64_litb (by decide)) (by decide)) (by omega) (by omega) (by omega) (by omega)).mono ?_
  rintro e w3 ⟨i0, rfl, hi0, hc3, hg3⟩
  replace hi0 := i64_litb (l := [1, 2, 5, 11, 15, 0, 16]) (by decide) i0 hi0
  clear L0 ht he
  replace ho := ho.mark hg3 (fun z z' hz hz' => by cases hz; have := hbd z' hz'; omega)
  replace HB := HB.trans (grown_below hg3 (Nat.le_refl _) HB.size)
  have hz3 := HB.size
  clear hg3 hc2
  go_wp2
  go_ret2
  exact ⟨A1, c1, xs, i0, rfl, hxl, hi0, ho.mono (Nat.le_of_lt hlo), HB⟩
set_option maxRecDepth 100000 in
set_option maxHeartbeats 4000000 in
theorem drawTeachSkill_any (A : Option Addr) (n c B : Nat) (w : World) (h : RdB w B A n c) (hB : B ≤ w.heap.size) (hn : n ≤ 65536) : Calls Try.prog 28 #[.slice A n c] w (GaveWeavers3 w) := by
  go_enter Try.func28, Try.ntmps28
  have hc0 := cur_new5 h hB hn
  have HB : Below w.heap.size w (w.alloc (.cells #[.slice A n c, .int .i64 0, .int .u64 0] 56)) := (Below.refl _ _).alloc (Nat.le_refl _) _
  clear h
  go_wp2_with fail
  refine (weavers_any w.heap.size 0 _ hc0 (by omega)).mono ?_
  rintro e w1 ⟨A1, c1, xs, rfl, hxl, ho, hc1, hg1⟩
  have hlo : w.heap.size < (w.alloc (.cells #[.slice A n c, .int .i64 0, .int .u64 0] 56)).heap.size := by simp
  have hbd := fun z hz => (ho.bd z hz).1
  replace HB := HB.trans (grown_below hg1 (Nat.le_refl _) HB.size)
  have hz1 := HB.size
  clear hg1 hc0
  go_wp2_with fail
  refine (weaverId_any w.heap.size 10000 A1 c1 _ xs _ hc1 (by omega) ho hlo hxl).mono ?_
  rintro e w2 ⟨i0, rfl, hi0, hc2, hg2⟩
  replace ho := ho.mark hg2 (fun z z' hz hz' => by cases hz; have := hbd z' hz'; omega)
  replace HB := HB.trans (grown_below hg2 (Nat.le_refl _) HB.size)
  have hz2 := HB.size
  clear hg2 hc1
  go_wp2_with fail
  refine (weaverId_any w.heap.size 10010 A1 c1 _ xs _ hc2 (by omega) ho hlo hxl).mono ?_
  rintro e w3 ⟨i1, rfl, hi1, hc3, hg3⟩
  replace ho := ho.mark hg3 (fun z z' hz hz' => by cases hz; have := hbd z' hz'; omega)
  replace HB := HB.trans (grown_below hg3 (Nat.le_refl _) HB.size)
  have hz3 := HB.size
  clear hg3 hc2
  have qL : w.heap.size < w3.heap.size := hc3.lt
  have ob := (Below.refl w3.heap.size w3).alloc (Nat.le_refl _) (.cells #[.int .i64 1, .int .i64 2, .int .i64 4, .int .i64 8, .int .i64 3, .int .i64 0] 3)
  replace ho := ho.all ob
  replace hc3 := hc3.all ob
  have L0 := Blk.new w3 #[.int .i64 1, .int .i64 2, .int .i64 4, .int .i64 8, .int .i64 3, .int .i64 0] 3
  replace HB := HB.trans (ob.mono HB.size)
  clear ob
  go_wp2_with fail
  refine (pick_any w.heap.size 10020 24 _ hc3 (by omega) (by omega) (by omega)).mono ?_
  rintro e w4 ⟨x, rfl, ⟨x0, x1⟩, hc4, hg4⟩
  replace ho := ho.mark hg4 (fun z z' hz hz' => by cases hz; have := hbd z' hz'; omega)
  replace L0 := L0.mark hg4 (fun z hz => by cases hz; omega)
  replace HB := HB.trans (grown_below hg4 (Nat.le_refl _) HB.size)
  have hz4 := HB.size
  clear hg4 hc3
  obtain ⟨m, hm⟩ : ∃ m : Nat, x / 11 = (m : Int) := ⟨(x / 11).toNat, by omega⟩
  have ht : Int.tdiv x 11 = (m : Int) := by rw [Int.tdiv_eq_ediv_of_nonneg x0, hm]
  have hmb : m ≤ 2 := by omega
  have he : IntKind.i64.wrap (4 + (m : Int)) = ((4 + m : Nat) : Int) := by rw [IntWalk.i64_in _ (by omega)]; omega
  clear hm
  go_wp2_with fail
  refine (among_head w.heap.size 10022 w3.heap.size 6 _ _ [1, 2, 4, 8, 3, 0] _ hc4 (by omega) (rd5 (xs := [1, 2, 4, 8, 3, 0]) L0 (i64_litb (by decide)) (by decide)) (by omega) (by omega) (by omega) (by omega)).mono ?_
  rintro e w5 ⟨i2, rfl, hi2, hc5, hg5⟩
  replace hi2 := i64_litb (l := [1, 2, 4, 8, 3, 0]) (by decide) i2 hi2
  clear L0 ht he
  replace ho := ho.mark hg5 (fun z z' hz hz' => by cases hz; have := hbd z' hz'; omega)
  replace HB := HB.trans (grown_below hg5 (Nat.le_refl _) HB.size)
  have hz5 := HB.size
  clear hg5 hc4
  go_wp2
  refine bodyPost_ret (v := .tuple #[.slice A1 xs.length c1, .int .i64 i0, .int .i64 i1, .int .i64 i2]) (by simp [results, Try.results28, go_sem]) rfl ?_
  exact ⟨A1, c1, xs, i0, i1, i2, rfl, hxl, hi0, hi1, hi2, ho.mono (Nat.le_of_lt hlo), HB⟩
set_option maxRecDepth 100000 in
set_option maxHeartbeats 400000 in
theorem drawLoomsUsed_any (A : Option Addr) (n c B : Nat) (w : World) (h : RdB w B A n c) (hB : B ≤ w.heap.size) (hn : n ≤ 65536) : Calls Try.prog 15 #[.slice A n c] w (GaveWeavers0 w) := by
  go_enter Try.func15, Try.ntmps15
  go_wp2_with fail
  refine (drawAreWeavers_any A n c B w h hB hn).mono ?_
  rintro e w1 ⟨A1, c1, xs, rfl, hxl, ho, hb⟩
  go_wp2
  go_ret
  exact ⟨A1, c1, xs, rfl, hxl, ho, hb⟩
set_option maxRecDepth 100000 in
set_option maxHeartbeats 400000 in
theorem drawFewestFor_any (A : Option Addr) (n c B : Nat) (w : World) (h : RdB w B A n c) (hB : B ≤ w.heap.size) (hn : n ≤ 65536) : Calls Try.prog 23 #[.slice A n c] w (GaveWeavers1 w) := by
  go_enter Try.func23, Try.ntmps23
  go_wp2_with fail
  refine (drawWithSkills_any A n c B w h hB hn).mono ?_
  rintro e w1 ⟨A1, c1, xs, i0, rfl, hxl, h0, ho, hb⟩
  go_wp2
  go_ret2
  exact ⟨A1, c1, xs, i0, rfl, hxl, h0, ho, hb⟩
/-- What a draw of a weaver out of a code leaves. -/
def GaveWeaver (w : World) (e : Ending) (w' : World) : Prop := ∃ s : WeaverR, e = .returned (.agg #[.int .i64 s.f0, .string s.f1, .int .i64 s.f2, .int .i64 s.f3, .int .i64 s.f4]) ∧ s.ok ∧ Below w.heap.size w w'
set_option maxRecDepth 100000 in
set_option maxHeartbeats 4000000 in
theorem drawIsWeaver_any (A : Option Addr) (n c B : Nat) (w : World) (h : RdB w B A n c) (hB : B ≤ w.heap.size) (hn : n ≤ 65536) : Calls Try.prog 31 #[.slice A n c] w (GaveWeaver w) := by
  have r0 := (Blk.new w #[.int .i64 0, .string ⟨#[]⟩, .int .i64 0, .int .i64 0, .int .i64 0] 40).alloc (.cells #[.slice A n c, .int .i64 0, .int .u64 0] 56)
  have hc0 := cur_new5 (h.alloc hB (.cells #[.int .i64 0, .string ⟨#[]⟩, .int .i64 0, .int .i64 0, .int .i64 0] 40)) (by simp; omega) hn
  have HB : Below w.heap.size w ((w.alloc (.cells #[.int .i64 0, .string ⟨#[]⟩, .int .i64 0, .int .i64 0, .int .i64 0] 40)).alloc (.cells #[.slice A n c, .int .i64 0, .int .u64 0] 56)) := ((Below.refl _ _).alloc (Nat.le_refl _) _).alloc (by simp) _
  rw [show (w.alloc (.cells #[.int .i64 0, .string ⟨#[]⟩, .int .i64 0, .int .i64 0, .int .i64 0] 40)).heap.size = w.heap.size + 1 by simp] at hc0
  clear h
  go_enter Try.func31, Try.ntmps31
  go_wp2_with fail
  refine (among5 (w.heap.size + 1) 0 (w.heap.size + 2) 3 [1, 42, 99] ((w.alloc (.cells #[.int .i64 0, .string ⟨#[]⟩, .int .i64 0, .int .i64 0, .int .i64 0] 40)).alloc (.cells #[.slice A n c, .int .i64 0, .int .u64 0] 56)) (by simp) rfl hc0 (by omega) (by decide) (by decide) (i64_lit (by decide))).mono ?_
  rintro e w1 ⟨y, rfl, hy, hc1, hg1⟩
  have hyb : 1 ≤ y ∧ y ≤ 99 := by simp at hy; omega
  replace r0 := r0.mark hg1 (fun z hz => by cases hz; omega)
  replace HB := HB.trans (grown_below hg1 (by omega) HB.size)
  clear hc0 hg1 hy
  go_wp2_with fail
  refine (weaver_any (w.heap.size + 1) 2 y _ hc1 (by omega) ⟨by omega, by omega⟩).mono ?_
  rintro e w2 ⟨s, rfl, ⟨hs, _⟩, hc2, hg2⟩
  replace r0 := r0.mark hg2 (fun z hz => by cases hz; omega)
  replace HB := HB.trans (grown_below hg2 (by omega) HB.size)
  clear hc1 hg2 hc2
  have v0 := r0.cell 0
  have f0 := r0.frozen 0
  have v1 := r0.cell 1
  have f1 := r0.frozen 1
  have v2 := r0.cell 2
  have f2 := r0.frozen 2
  have v3 := r0.cell 3
  have f3 := r0.frozen 3
  have v4 := r0.cell 4
  have f4 := r0.frozen 4
  go_wp2
  refine bodyPost_ret (v := .agg #[.int .i64 s.f0, .string s.f1, .int .i64 s.f2, .int .i64 s.f3, .int .i64 s.f4]) (by simp [results, Try.results31, go_sem, *]) rfl ⟨s, rfl, hs, by repeat (first | assumption | exact Below.refl _ _ | refine belowN ?_ _ | refine belowD ?_ | (refine Below.setCell ?_ (by first | (simp; done) | (simp; omega) | omega) _) | (refine Below.alloc ?_ (by first | (simp; done) | (simp; omega) | omega) _))⟩
end Go.Proofs.Ytanfblpibomfaaa
