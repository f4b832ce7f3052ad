/- The draws of chapter 5's laws over a code, and the words in which they compare. Condition: a code of at most 65536 bytes. -/
import Derived.Test.YtoeognlfalbfkaaDraws5b
import Derived.BigQuiet
namespace Go.Proofs.Ytoeognlfalbfkaa
open Go.RowKit

theorem cur_new5 {w : World} {B n c : Nat} {A : Option Addr} (h : RdB w B A n c) (hB : B ≤ w.heap.size) (hn : n ≤ 65536) : Cur (w.alloc (.cells #[.slice A n c, .int .i64 0, .int .u64 0] 50)) w.heap.size 0 :=
  ⟨B, A, n, c, 0, 0, Blk.new _ _ _, h.alloc hB _, hB, hn, Nat.le_refl _⟩
theorem rBig_eq (A : Option Addr) (n c : Nat) (w : World) (hn : n ≤ 9223372036854775807) (d : Bool) (hd : decide (65536 < n) = d) : Calls Try.prog 5 #[.slice A n c] w fun e w' => e = .returned (.bool d) ∧ w = w' := by
  subst hd
  go_enter Try.func5, Try.ntmps5
  go_wp2
  go_ret
  exact ⟨ret_bool (by rw [Bool.eq_iff_iff]; simp <;> omega), rfl⟩
set_option maxRecDepth 100000 in
set_option maxHeartbeats 1000000 in
theorem rLooms_same (A A' : Option Addr) (n c n' c' B B' : Nat) (xs : List LoomR) (w : World) (h : RdF loomF w B A n c xs) (h' : RdF loomF w B' A' n' c' xs) :
    Calls Try.prog 9 #[.slice A n c, .slice A' n' c'] w (Out w (.bool true)) := by
  have hn := h.len_lt
  obtain rfl : n' = n := by rw [← h.len, ← h'.len]
  go_enter Try.func9, Try.ntmps9
  go_wp2
  go_loopw [5] (fun i wr => ∃ k q : Nat, k ≤ n' ∧ i = .int .i64 k ∧ wr = w.drewN q) (fun i _ => n' - (intOf i).toNat)
  case atStart => exact ⟨0, 0, Nat.zero_le _, rfl, rfl⟩
  case round =>
    obtain ⟨k, q, hk, rfl, rfl⟩ := hrel
    by_cases hlt : k < n'
    · obtain ⟨b, off, a, rfl, _, _, HX, hc0, hc1, hc2, hc3, hc4⟩ := LoomR_at (F := loomF) rfl (fun _ => rfl) (fun _ => rfl) h hlt
      obtain ⟨b', off', a', rfl, _, _, HX', hd0, hd1, hd2, hd3, hd4⟩ := LoomR_at (F := loomF) rfl (fun _ => rfl) (fun _ => rfl) h' hlt
      obtain rfl : a' = a := Option.some.inj (HX'.out.symm.trans HX.out)
      go_wp2
      go_quiet (fail)
      go_wp2
      go_roundw
      case rel => exact ⟨k + 1, _, by omega, by go_num, rfl⟩
      case measure => simp [intOf]; omega
    · go_wp2
      go_ret
      exact ⟨rfl, low_drewN w q⟩
/-- What a draw of looms and 1 numbers leaves. -/
def GaveLooms1 (w : World) (e : Ending) (w' : World) : Prop := ∃ (A : Option Addr) (c : Nat) (xs : List LoomR) (i0 : Int), e = .returned (.tuple #[.slice A xs.length c, .int .i64 i0]) ∧ xs.length ≤ 10 ∧ I64 i0 ∧ OwnF loomF w' w.heap.size (.slice A xs.length c) xs ∧ Below w.heap.size w w'
/-- What a draw of looms and 2 numbers leaves. -/
def GaveLooms2 (w : World) (e : Ending) (w' : World) : Prop := ∃ (A : Option Addr) (c : Nat) (xs : List LoomR) (i0 i1 : Int), e = .returned (.tuple #[.slice A xs.length c, .int .i64 i0, .int .i64 i1]) ∧ xs.length ≤ 10 ∧ I64 i0 ∧ I64 i1 ∧ OwnF loomF w' w.heap.size (.slice A xs.length c) xs ∧ Below w.heap.size w w'
/-- What a draw of looms and 3 numbers leaves. -/
def GaveLooms3 (w : World) (e : Ending) (w' : World) : Prop := ∃ (A : Option Addr) (c : Nat) (xs : List LoomR) (i0 i1 i2 : Int), e = .returned (.tuple #[.slice A xs.length c, .int .i64 i0, .int .i64 i1, .int .i64 i2]) ∧ xs.length ≤ 10 ∧ I64 i0 ∧ I64 i1 ∧ I64 i2 ∧ OwnF loomF w' w.heap.size (.slice A xs.length c) xs ∧ Below w.heap.size w w'
theorem rd5 {w : World} {q : Nat} {xs : List Int} (h : Blk w q 3 (xs.map (Value.int .i64)).toArray) (hx : ∀ x ∈ xs, I64 x) (hn : xs.length ≤ 1000) : Rd w (q + 1) (some ⟨q, 0, none⟩) xs.length xs.length xs :=
  ⟨rfl, Nat.le_refl _, by unfold maxLen; omega, fun _ => ⟨q, 0, rfl, by omega, fun j hj => by
    rw [Nat.zero_add, h.cell]
    simp [hj]⟩, hx, fun e => by cases e⟩
set_option maxRecDepth 100000 in
set_option maxHeartbeats 4000000 in
theorem drawBeginCarpet_any (A : Option Addr) (n c B : Nat) (w : World) (h : RdB w B A n c) (hB : B ≤ w.heap.size) (hn : n ≤ 65536) : Calls Try.prog 16 #[.slice A n c] w (GaveLooms1 w) := by
  go_enter Try.func16, Try.ntmps16
  have hc0 := cur_new5 h hB hn
  have HB : Below w.heap.size w (w.alloc (.cells #[.slice A n c, .int .i64 0, .int .u64 0] 50)) := (Below.refl _ _).alloc (Nat.le_refl _) _
  clear h
  go_wp2_with fail
  refine (looms5_any w.heap.size 0 _ hc0 (by omega)).mono ?_
  rintro e w1 ⟨A1, c1, xs, rfl, hxl, ho, hc1, hg1⟩
  have hlo : w.heap.size < (w.alloc (.cells #[.slice A n c, .int .i64 0, .int .u64 0] 50)).heap.size := by simp
  have hbd := fun z hz => (ho.bd z hz).1
  replace HB := HB.trans (grown_below hg1 (Nat.le_refl _) HB.size)
  have hz1 := HB.size
  clear hg1 hc0
  go_wp2_with fail
  refine (loomId_any w.heap.size 10000 A1 c1 _ xs (1) _ hc1 (by omega) ho hlo hxl).mono ?_
  rintro e w2 ⟨i0, rfl, hi0, hc2, hg2⟩
  replace ho := ho.mark hg2 (fun z z' hz hz' => by cases hz; have := hbd z' hz'; omega)
  replace HB := HB.trans (grown_below hg2 (Nat.le_refl _) HB.size)
  have hz2 := HB.size
  clear hg2 hc1
  go_wp2
  go_ret2
  exact ⟨A1, c1, xs, i0, rfl, hxl, hi0, ho.mono (Nat.le_of_lt hlo), HB⟩
set_option maxRecDepth 100000 in
set_option maxHeartbeats 4000000 in
theorem drawDaysLeft_any (A : Option Addr) (n c B : Nat) (w : World) (h : RdB w B A n c) (hB : B ≤ w.heap.size) (hn : n ≤ 65536) : Calls Try.prog 19 #[.slice A n c] w (GaveLooms1 w) := by
  go_enter Try.func19, Try.ntmps19
  have hc0 := cur_new5 h hB hn
  have HB : Below w.heap.size w (w.alloc (.cells #[.slice A n c, .int .i64 0, .int .u64 0] 50)) := (Below.refl _ _).alloc (Nat.le_refl _) _
  clear h
  go_wp2_with fail
  refine (looms5_any w.heap.size 0 _ hc0 (by omega)).mono ?_
  rintro e w1 ⟨A1, c1, xs, rfl, hxl, ho, hc1, hg1⟩
  have hlo : w.heap.size < (w.alloc (.cells #[.slice A n c, .int .i64 0, .int .u64 0] 50)).heap.size := by simp
  have hbd := fun z hz => (ho.bd z hz).1
  replace HB := HB.trans (grown_below hg1 (Nat.le_refl _) HB.size)
  have hz1 := HB.size
  clear hg1 hc0
  go_wp2_with fail
  refine (loomId_any w.heap.size 10000 A1 c1 _ xs (2) _ hc1 (by omega) ho hlo hxl).mono ?_
  rintro e w2 ⟨i0, rfl, hi0, hc2, hg2⟩
  replace ho := ho.mark hg2 (fun z z' hz hz' => by cases hz; have := hbd z' hz'; omega)
  replace HB := HB.trans (grown_below hg2 (Nat.le_refl _) HB.size)
  have hz2 := HB.size
  clear hg2 hc1
  go_wp2
  go_ret2
  exact ⟨A1, c1, xs, i0, rfl, hxl, hi0, ho.mono (Nat.le_of_lt hlo), HB⟩
set_option maxRecDepth 100000 in
set_option maxHeartbeats 4000000 in
theorem drawCutOff_any (A : Option Addr) (n c B : Nat) (w : World) (h : RdB w B A n c) (hB : B ≤ w.heap.size) (hn : n ≤ 65536) : Calls Try.prog 12 #[.slice A n c] w (GaveLooms1 w) := by
  go_enter Try.func12, Try.ntmps12
  have hc0 := cur_new5 h hB hn
  have HB : Below w.heap.size w (w.alloc (.cells #[.slice A n c, .int .i64 0, .int .u64 0] 50)) := (Below.refl _ _).alloc (Nat.le_refl _) _
  clear h
  go_wp2_with fail
  refine (looms5_any w.heap.size 0 _ hc0 (by omega)).mono ?_
  rintro e w1 ⟨A1, c1, xs, rfl, hxl, ho, hc1, hg1⟩
  have hlo : w.heap.size < (w.alloc (.cells #[.slice A n c, .int .i64 0, .int .u64 0] 50)).heap.size := by simp
  have hbd := fun z hz => (ho.bd z hz).1
  replace HB := HB.trans (grown_below hg1 (Nat.le_refl _) HB.size)
  have hz1 := HB.size
  clear hg1 hc0
  go_wp2_with fail
  refine (pick_any w.heap.size 10000 3 _ hc1 (by omega) (by omega) (by omega)).mono ?_
  rintro e w2 ⟨x, rfl, ⟨x0, x1⟩, hc2, hg2⟩
  replace ho := ho.mark hg2 (fun z z' hz hz' => by cases hz; have := hbd z' hz'; omega)
  replace HB := HB.trans (grown_below hg2 (Nat.le_refl _) HB.size)
  have hz2 := HB.size
  clear hg2 hc1
  have e1 : IntKind.i64.wrap (1 + x) = 1 + x := IntWalk.i64_in _ (by omega)
  go_wp2_with fail
  refine (loomId_any w.heap.size 10002 A1 c1 _ xs (1 + x) _ hc2 (by omega) ho hlo hxl).mono ?_
  rintro e w3 ⟨i0, rfl, hi0, hc3, hg3⟩
  replace ho := ho.mark hg3 (fun z z' hz hz' => by cases hz; have := hbd z' hz'; omega)
  replace HB := HB.trans (grown_below hg3 (Nat.le_refl _) HB.size)
  have hz3 := HB.size
  clear hg3 hc2
  go_wp2
  go_ret2
  exact ⟨A1, c1, xs, i0, rfl, hxl, hi0, ho.mono (Nat.le_of_lt hlo), HB⟩
set_option maxRecDepth 100000 in
set_option maxHeartbeats 4000000 in
theorem drawLoomFor_any (A : Option Addr) (n c B : Nat) (w : World) (h : RdB w B A n c) (hB : B ≤ w.heap.size) (hn : n ≤ 65536) : Calls Try.prog 21 #[.slice A n c] w (GaveLooms1 w) := by
  go_enter Try.func21, Try.ntmps21
  have hc0 := cur_new5 h hB hn
  have HB : Below w.heap.size w (w.alloc (.cells #[.slice A n c, .int .i64 0, .int .u64 0] 50)) := (Below.refl _ _).alloc (Nat.le_refl _) _
  clear h
  go_wp2_with fail
  refine (looms5_any w.heap.size 0 _ hc0 (by omega)).mono ?_
  rintro e w1 ⟨A1, c1, xs, rfl, hxl, ho, hc1, hg1⟩
  have hlo : w.heap.size < (w.alloc (.cells #[.slice A n c, .int .i64 0, .int .u64 0] 50)).heap.size := by simp
  have hbd := fun z hz => (ho.bd z hz).1
  replace HB := HB.trans (grown_below hg1 (Nat.le_refl _) HB.size)
  have hz1 := HB.size
  clear hg1 hc0
  have qL0 : w.heap.size < w1.heap.size := hc1.lt
  have ob := (Below.refl w1.heap.size w1).alloc (Nat.le_refl _) (.cells #[.int .i64 30, .int .i64 100, .int .i64 121, .int .i64 600, .int .i64 29, .int .i64 601] 3)
  replace ho := ho.all ob
  replace hc1 := hc1.all ob
  have L0 := Blk.new w1 #[.int .i64 30, .int .i64 100, .int .i64 121, .int .i64 600, .int .i64 29, .int .i64 601] 3
  replace HB := HB.trans (ob.mono HB.size)
  clear ob
  go_wp2_with fail
  refine (pick_any w.heap.size 10000 24 _ hc1 (by omega) (by omega) (by omega)).mono ?_
  rintro e w2 ⟨x, rfl, ⟨x0, x1⟩, hc2, hg2⟩
  replace ho := ho.mark hg2 (fun z z' hz hz' => by cases hz; have := hbd z' hz'; omega)
  replace L0 := L0.mark hg2 (fun z hz => by cases hz; omega)
  replace HB := HB.trans (grown_below hg2 (Nat.le_refl _) HB.size)
  have hz2 := HB.size
  clear hg2 hc1
  obtain ⟨mL0, hmL0⟩ : ∃ m : Nat, x / 11 = (m : Int) := ⟨(x / 11).toNat, by omega⟩
  have htL0 : Int.tdiv x 11 = (mL0 : Int) := by rw [Int.tdiv_eq_ediv_of_nonneg x0, hmL0]
  have hmbL0 : mL0 ≤ 2 := by omega
  have heL0 : IntKind.i64.wrap (4 + (mL0 : Int)) = ((4 + mL0 : Nat) : Int) := by rw [IntWalk.i64_in _ (by omega)]; omega
  clear hmL0
  go_wp2_with fail
  refine (among_head w.heap.size 10002 w1.heap.size 6 _ _ [30, 100, 121, 600, 29, 601] _ hc2 (by omega) (rd5 (xs := [30, 100, 121, 600, 29, 601]) L0 (i64_lit (by decide)) (by decide)) (by omega) (by omega) (by omega) (by omega)).mono ?_
  rintro e w3 ⟨i0, rfl, hi0, hc3, hg3⟩
  replace hi0 := i64_lit (l := [30, 100, 121, 600, 29, 601]) (by decide) i0 hi0
  clear L0 htL0 heL0
  replace ho := ho.mark hg3 (fun z z' hz hz' => by cases hz; have := hbd z' hz'; omega)
  replace HB := HB.trans (grown_below hg3 (Nat.le_refl _) HB.size)
  have hz3 := HB.size
  clear hg3 hc2
  go_wp2
  go_ret2
  exact ⟨A1, c1, xs, i0, rfl, hxl, hi0, ho.mono (Nat.le_of_lt hlo), HB⟩
set_option maxRecDepth 100000 in
set_option maxHeartbeats 4000000 in
theorem drawWeaveDays_any (A : Option Addr) (n c B : Nat) (w : World) (h : RdB w B A n c) (hB : B ≤ w.heap.size) (hn : n ≤ 65536) : Calls Try.prog 6 #[.slice A n c] w (GaveLooms2 w) := by
  go_enter Try.func6, Try.ntmps6
  have hc0 := cur_new5 h hB hn
  have HB : Below w.heap.size w (w.alloc (.cells #[.slice A n c, .int .i64 0, .int .u64 0] 50)) := (Below.refl _ _).alloc (Nat.le_refl _) _
  clear h
  go_wp2_with fail
  refine (looms5_any w.heap.size 0 _ hc0 (by omega)).mono ?_
  rintro e w1 ⟨A1, c1, xs, rfl, hxl, ho, hc1, hg1⟩
  have hlo : w.heap.size < (w.alloc (.cells #[.slice A n c, .int .i64 0, .int .u64 0] 50)).heap.size := by simp
  have hbd := fun z hz => (ho.bd z hz).1
  replace HB := HB.trans (grown_below hg1 (Nat.le_refl _) HB.size)
  have hz1 := HB.size
  clear hg1 hc0
  go_wp2_with fail
  refine (loomId_any w.heap.size 10000 A1 c1 _ xs (2) _ hc1 (by omega) ho hlo hxl).mono ?_
  rintro e w2 ⟨i0, rfl, hi0, hc2, hg2⟩
  replace ho := ho.mark hg2 (fun z z' hz hz' => by cases hz; have := hbd z' hz'; omega)
  replace HB := HB.trans (grown_below hg2 (Nat.le_refl _) HB.size)
  have hz2 := HB.size
  clear hg2 hc1
  have qL0 : w.heap.size < w2.heap.size := hc2.lt
  have ob := (Below.refl w2.heap.size w2).alloc (Nat.le_refl _) (.cells #[.int .i64 0, .int .i64 1, .int .i64 2, .int .i64 20, .int .i64 200, .int .i64 (-1), .int .i64 201] 3)
  replace ho := ho.all ob
  replace hc2 := hc2.all ob
  have L0 := Blk.new w2 #[.int .i64 0, .int .i64 1, .int .i64 2, .int .i64 20, .int .i64 200, .int .i64 (-1), .int .i64 201] 3
  replace HB := HB.trans (ob.mono HB.size)
  clear ob
  go_wp2_with fail
  refine (pick_any w.heap.size 11000 24 _ hc2 (by omega) (by omega) (by omega)).mono ?_
  rintro e w3 ⟨x, rfl, ⟨x0, x1⟩, hc3, hg3⟩
  replace ho := ho.mark hg3 (fun z z' hz hz' => by cases hz; have := hbd z' hz'; omega)
  replace L0 := L0.mark hg3 (fun z hz => by cases hz; omega)
  replace HB := HB.trans (grown_below hg3 (Nat.le_refl _) HB.size)
  have hz3 := HB.size
  clear hg3 hc2
  obtain ⟨mL0, hmL0⟩ : ∃ m : Nat, x / 11 = (m : Int) := ⟨(x / 11).toNat, by omega⟩
  have htL0 : Int.tdiv x 11 = (mL0 : Int) := by rw [Int.tdiv_eq_ediv_of_nonneg x0, hmL0]
  have hmbL0 : mL0 ≤ 2 := by omega
  have heL0 : IntKind.i64.wrap (5 + (mL0 : Int)) = ((5 + mL0 : Nat) : Int) := by rw [IntWalk.i64_in _ (by omega)]; omega
  clear hmL0
  go_wp2_with fail
  refine (among_head w.heap.size 11002 w2.heap.size 7 _ _ [0, 1, 2, 20, 200, -1, 201] _ hc3 (by omega) (rd5 (xs := [0, 1, 2, 20, 200, -1, 201]) L0 (i64_lit (by decide)) (by decide)) (by omega) (by omega) (by omega) (by omega)).mono ?_
  rintro e w4 ⟨i1, rfl, hi1, hc4, hg4⟩
  replace hi1 := i64_lit (l := [0, 1, 2, 20, 200, -1, 201]) (by decide) i1 hi1
  clear L0 htL0 heL0
  replace ho := ho.mark hg4 (fun z z' hz hz' => by cases hz; have := hbd z' hz'; omega)
  replace HB := HB.trans (grown_below hg4 (Nat.le_refl _) HB.size)
  have hz4 := HB.size
  clear hg4 hc3
  go_wp2
  go_ret3
  exact ⟨A1, c1, xs, i0, i1, rfl, hxl, hi0, hi1, ho.mono (Nat.le_of_lt hlo), HB⟩
set_option maxRecDepth 100000 in
set_option maxHeartbeats 4000000 in
theorem drawTightenLoom_any (A : Option Addr) (n c B : Nat) (w : World) (h : RdB w B A n c) (hB : B ≤ w.heap.size) (hn : n ≤ 65536) : Calls Try.prog 26 #[.slice A n c] w (GaveLooms2 w) := by
  go_enter Try.func26, Try.ntmps26
  have hc0 := cur_new5 h hB hn
  have HB : Below w.heap.size w (w.alloc (.cells #[.slice A n c, .int .i64 0, .int .u64 0] 50)) := (Below.refl _ _).alloc (Nat.le_refl _) _
  clear h
  go_wp2_with fail
  refine (looms5_any w.heap.size 0 _ hc0 (by omega)).mono ?_
  rintro e w1 ⟨A1, c1, xs, rfl, hxl, ho, hc1, hg1⟩
  have hlo : w.heap.size < (w.alloc (.cells #[.slice A n c, .int .i64 0, .int .u64 0] 50)).heap.size := by simp
  have hbd := fun z hz => (ho.bd z hz).1
  replace HB := HB.trans (grown_below hg1 (Nat.le_refl _) HB.size)
  have hz1 := HB.size
  clear hg1 hc0
  go_wp2_with fail
  refine (pick_any w.heap.size 10000 2 _ hc1 (by omega) (by omega) (by omega)).mono ?_
  rintro e w2 ⟨y, rfl, ⟨y0, y1⟩, hc2, hg2⟩
  replace ho := ho.mark hg2 (fun z z' hz hz' => by cases hz; have := hbd z' hz'; omega)
  replace HB := HB.trans (grown_below hg2 (Nat.le_refl _) HB.size)
  have hz2 := HB.size
  clear hg2 hc1
  have e1 : IntKind.i64.wrap (1 + y) = 1 + y := IntWalk.i64_in _ (by omega)
  go_wp2_with fail
  refine (loomId_any w.heap.size 10002 A1 c1 _ xs (1 + y) _ hc2 (by omega) ho hlo hxl).mono ?_
  rintro e w3 ⟨i0, rfl, hi0, hc3, hg3⟩
  replace ho := ho.mark hg3 (fun z z' hz hz' => by cases hz; have := hbd z' hz'; omega)
  replace HB := HB.trans (grown_below hg3 (Nat.le_refl _) HB.size)
  have hz3 := HB.size
  clear hg3 hc2
  have qL0 : w.heap.size < w3.heap.size := hc3.lt
  have ob := (Below.refl w3.heap.size w3).alloc (Nat.le_refl _) (.cells #[.int .i64 50, .int .i64 53, .int .i64 150, .int .i64 500, .int .i64 501, .int .i64 49] 3)
  replace ho := ho.all ob
  replace hc3 := hc3.all ob
  have L0 := Blk.new w3 #[.int .i64 50, .int .i64 53, .int .i64 150, .int .i64 500, .int .i64 501, .int .i64 49] 3
  replace HB := HB.trans (ob.mono HB.size)
  clear ob
  go_wp2_with fail
  refine (pick_any w.heap.size 11002 24 _ hc3 (by omega) (by omega) (by omega)).mono ?_
  rintro e w4 ⟨x, rfl, ⟨x0, x1⟩, hc4, hg4⟩
  replace ho := ho.mark hg4 (fun z z' hz hz' => by cases hz; have := hbd z' hz'; omega)
  replace L0 := L0.mark hg4 (fun z hz => by cases hz; omega)
  replace HB := HB.trans (grown_below hg4 (Nat.le_refl _) HB.size)
  have hz4 := HB.size
  clear hg4 hc3
  obtain ⟨mL0, hmL0⟩ : ∃ m : Nat, x / 11 = (m : Int) := ⟨(x / 11).toNat, by omega⟩
  have htL0 : Int.tdiv x 11 = (mL0 : Int) := by rw [Int.tdiv_eq_ediv_of_nonneg x0, hmL0]
  have hmbL0 : mL0 ≤ 2 := by omega
  have heL0 : IntKind.i64.wrap (4 + (mL0 : Int)) = ((4 + mL0 : Nat) : Int) := by rw [IntWalk.i64_in _ (by omega)]; omega
  clear hmL0
  go_wp2_with fail
  refine (among_head w.heap.size 11004 w3.heap.size 6 _ _ [50, 53, 150, 500, 501, 49] _ hc4 (by omega) (rd5 (xs := [50, 53, 150, 500, 501, 49]) L0 (i64_lit (by decide)) (by decide)) (by omega) (by omega) (by omega) (by omega)).mono ?_
  rintro e w5 ⟨i1, rfl, hi1, hc5, hg5⟩
  replace hi1 := i64_lit (l := [50, 53, 150, 500, 501, 49]) (by decide) i1 hi1
  clear L0 htL0 heL0
  replace ho := ho.mark hg5 (fun z z' hz hz' => by cases hz; have := hbd z' hz'; omega)
  replace HB := HB.trans (grown_below hg5 (Nat.le_refl _) HB.size)
  have hz5 := HB.size
  clear hg5 hc4
  go_wp2
  go_ret3
  exact ⟨A1, c1, xs, i0, i1, rfl, hxl, hi0, hi1, ho.mono (Nat.le_of_lt hlo), HB⟩
set_option maxRecDepth 100000 in
set_option maxHeartbeats 4000000 in
theorem drawWarpLoom_any (A : Option Addr) (n c B : Nat) (w : World) (h : RdB w B A n c) (hB : B ≤ w.heap.size) (hn : n ≤ 65536) : Calls Try.prog 29 #[.slice A n c] w (GaveLooms3 w) := by
  go_enter Try.func29, Try.ntmps29
  have hc0 := cur_new5 h hB hn
  have HB : Below w.heap.size w (w.alloc (.cells #[.slice A n c, .int .i64 0, .int .u64 0] 50)) := (Below.refl _ _).alloc (Nat.le_refl _) _
  clear h
  go_wp2_with fail
  refine (looms5_any w.heap.size 0 _ hc0 (by omega)).mono ?_
  rintro e w1 ⟨A1, c1, xs, rfl, hxl, ho, hc1, hg1⟩
  have hlo : w.heap.size < (w.alloc (.cells #[.slice A n c, .int .i64 0, .int .u64 0] 50)).heap.size := by simp
  have hbd := fun z hz => (ho.bd z hz).1
  replace HB := HB.trans (grown_below hg1 (Nat.le_refl _) HB.size)
  have hz1 := HB.size
  clear hg1 hc0
  go_wp2_with fail
  refine (loomId_any w.heap.size 10000 A1 c1 _ xs (0) _ hc1 (by omega) ho hlo hxl).mono ?_
  rintro e w2 ⟨i0, rfl, hi0, hc2, hg2⟩
  replace ho := ho.mark hg2 (fun z z' hz hz' => by cases hz; have := hbd z' hz'; omega)
  replace HB := HB.trans (grown_below hg2 (Nat.le_refl _) HB.size)
  have hz2 := HB.size
  clear hg2 hc1
  have qL0 : w.heap.size < w2.heap.size := hc2.lt
  have ob := (Below.refl w2.heap.size w2).alloc (Nat.le_refl _) (.cells #[.int .i64 10, .int .i64 300, .int .i64 360, .int .i64 9, .int .i64 4001] 3)
  replace ho := ho.all ob
  replace hc2 := hc2.all ob
  have L0 := Blk.new w2 #[.int .i64 10, .int .i64 300, .int .i64 360, .int .i64 9, .int .i64 4001] 3
  replace HB := HB.trans (ob.mono HB.size)
  clear ob
  go_wp2_with fail
  refine (pick_any w.heap.size 11000 24 _ hc2 (by omega) (by omega) (by omega)).mono ?_
  rintro e w3 ⟨x, rfl, ⟨x0, x1⟩, hc3, hg3⟩
  replace ho := ho.mark hg3 (fun z z' hz hz' => by cases hz; have := hbd z' hz'; omega)
  replace L0 := L0.mark hg3 (fun z hz => by cases hz; omega)
  replace HB := HB.trans (grown_below hg3 (Nat.le_refl _) HB.size)
  have hz3 := HB.size
  clear hg3 hc2
  obtain ⟨mL0, hmL0⟩ : ∃ m : Nat, x / 11 = (m : Int) := ⟨(x / 11).toNat, by omega⟩
  have htL0 : Int.tdiv x 11 = (mL0 : Int) := by rw [Int.tdiv_eq_ediv_of_nonneg x0, hmL0]
  have hmbL0 : mL0 ≤ 2 := by omega
  have heL0 : IntKind.i64.wrap (3 + (mL0 : Int)) = ((3 + mL0 : Nat) : Int) := by rw [IntWalk.i64_in _ (by omega)]; omega
  clear hmL0
  go_wp2_with fail
  refine (among_head w.heap.size 11002 w2.heap.size 5 _ _ [10, 300, 360, 9, 4001] _ hc3 (by omega) (rd5 (xs := [10, 300, 360, 9, 4001]) L0 (i64_lit (by decide)) (by decide)) (by omega) (by omega) (by omega) (by omega)).mono ?_
  rintro e w4 ⟨i1, rfl, hi1, hc4, hg4⟩
  replace hi1 := i64_lit (l := [10, 300, 360, 9, 4001]) (by decide) i1 hi1
  clear L0 htL0 heL0
  replace ho := ho.mark hg4 (fun z z' hz hz' => by cases hz; have := hbd z' hz'; omega)
  replace HB := HB.trans (grown_below hg4 (Nat.le_refl _) HB.size)
  have hz4 := HB.size
  clear hg4 hc3
  have qL1 : w.heap.size < w4.heap.size := hc4.lt
  have ob := (Below.refl w4.heap.size w4).alloc (Nat.le_refl _) (.cells #[.int .i64 50, .int .i64 200, .int .i64 500, .int .i64 49, .int .i64 501] 3)
  replace ho := ho.all ob
  replace hc4 := hc4.all ob
  have L1 := Blk.new w4 #[.int .i64 50, .int .i64 200, .int .i64 500, .int .i64 49, .int .i64 501] 3
  replace HB := HB.trans (ob.mono HB.size)
  clear ob
  go_wp2_with fail
  refine (pick_any w.heap.size 11004 24 _ hc4 (by omega) (by omega) (by omega)).mono ?_
  rintro e w5 ⟨z, rfl, ⟨z0, z1⟩, hc5, hg5⟩
  replace ho := ho.mark hg5 (fun z z' hz hz' => by cases hz; have := hbd z' hz'; omega)
  replace L1 := L1.mark hg5 (fun z hz => by cases hz; omega)
  replace HB := HB.trans (grown_below hg5 (Nat.le_refl _) HB.size)
  have hz5 := HB.size
  clear hg5 hc4
  obtain ⟨mL1, hmL1⟩ : ∃ m : Nat, z / 11 = (m : Int) := ⟨(z / 11).toNat, by omega⟩
  have htL1 : Int.tdiv z 11 = (mL1 : Int) := by rw [Int.tdiv_eq_ediv_of_nonneg z0, hmL1]
  have hmbL1 : mL1 ≤ 2 := by omega
  have heL1 : IntKind.i64.wrap (3 + (mL1 : Int)) = ((3 + mL1 : Nat) : Int) := by rw [IntWalk.i64_in _ (by omega)]; omega
  clear hmL1
  go_wp2_with fail
  refine (among_head w.heap.size 11006 w4.heap.size 5 _ _ [50, 200, 500, 49, 501] _ hc5 (by omega) (rd5 (xs := [50, 200, 500, 49, 501]) L1 (i64_lit (by decide)) (by decide)) (by omega) (by omega) (by omega) (by omega)).mono ?_
  rintro e w6 ⟨i2, rfl, hi2, hc6, hg6⟩
  replace hi2 := i64_lit (l := [50, 200, 500, 49, 501]) (by decide) i2 hi2
  clear L1 htL1 heL1
  replace ho := ho.mark hg6 (fun z z' hz hz' => by cases hz; have := hbd z' hz'; omega)
  replace HB := HB.trans (grown_below hg6 (Nat.le_refl _) HB.size)
  have hz6 := HB.size
  clear hg6 hc5
  go_wp2
  refine bodyPost_ret (v := .tuple #[.slice A1 xs.length c1, .int .i64 i0, .int .i64 i1, .int .i64 i2]) (by simp [results, Try.results29, go_sem]) rfl ?_
  exact ⟨A1, c1, xs, i0, i1, i2, rfl, hxl, hi0, hi1, hi2, ho.mono (Nat.le_of_lt hlo), HB⟩
/-- What a draw of a loom out of a code leaves. -/
def GaveLoom (w : World) (e : Ending) (w' : World) : Prop := ∃ s : LoomR, e = .returned (.agg #[.int .i64 s.f0, .int .i64 s.f1, .int .i64 s.f2, .int .i64 s.f3, .int .i64 s.f4]) ∧ s.ok ∧ Below w.heap.size w w'
set_option maxRecDepth 100000 in
set_option maxHeartbeats 4000000 in
theorem drawIsLoom_any (A : Option Addr) (n c B : Nat) (w : World) (h : RdB w B A n c) (hB : B ≤ w.heap.size) (hn : n ≤ 65536) : Calls Try.prog 31 #[.slice A n c] w (GaveLoom w) := by
  have r0 := (Blk.new w #[.int .i64 0, .int .i64 0, .int .i64 0, .int .i64 0, .int .i64 0] 37).alloc (.cells #[.slice A n c, .int .i64 0, .int .u64 0] 50)
  have hc0 := cur_new5 (h.alloc hB (.cells #[.int .i64 0, .int .i64 0, .int .i64 0, .int .i64 0, .int .i64 0] 37)) (by simp; omega) hn
  have HB : Below w.heap.size w ((w.alloc (.cells #[.int .i64 0, .int .i64 0, .int .i64 0, .int .i64 0, .int .i64 0] 37)).alloc (.cells #[.slice A n c, .int .i64 0, .int .u64 0] 50)) := ((Below.refl _ _).alloc (Nat.le_refl _) _).alloc (by simp) _
  rw [show (w.alloc (.cells #[.int .i64 0, .int .i64 0, .int .i64 0, .int .i64 0, .int .i64 0] 37)).heap.size = w.heap.size + 1 by simp] at hc0
  clear h
  go_enter Try.func31, Try.ntmps31
  go_wp2_with fail
  refine (among5 (w.heap.size + 1) 0 (w.heap.size + 2) 3 [1, 42, 99] ((w.alloc (.cells #[.int .i64 0, .int .i64 0, .int .i64 0, .int .i64 0, .int .i64 0] 37)).alloc (.cells #[.slice A n c, .int .i64 0, .int .u64 0] 50)) (by simp) rfl hc0 (by omega) (by decide) (by decide) (i64_lit (by decide))).mono ?_
  rintro e w1 ⟨y, rfl, hy, hc1, hg1⟩
  have hyb : 1 ≤ y ∧ y ≤ 99 := by simp at hy; omega
  replace r0 := r0.mark hg1 (fun z hz => by cases hz; omega)
  replace HB := HB.trans (grown_below hg1 (by omega) HB.size)
  clear hc0 hg1 hy
  go_wp2_with fail
  refine (loom_any (w.heap.size + 1) 2 y _ hc1 (by omega) ⟨by omega, by omega⟩).mono ?_
  rintro e w2 ⟨s, rfl, hs, hc2, hg2⟩
  replace r0 := r0.mark hg2 (fun z hz => by cases hz; omega)
  replace HB := HB.trans (grown_below hg2 (by omega) HB.size)
  clear hc1 hg2 hc2
  have v0 := r0.cell 0
  have v1 := r0.cell 1
  have v2 := r0.cell 2
  have v3 := r0.cell 3
  have v4 := r0.cell 4
  have f0 := r0.frozen 0
  have f1 := r0.frozen 1
  have f2 := r0.frozen 2
  have f3 := r0.frozen 3
  have f4 := r0.frozen 4
  go_wp2
  refine bodyPost_ret (v := .agg #[.int .i64 s.f0, .int .i64 s.f1, .int .i64 s.f2, .int .i64 s.f3, .int .i64 s.f4]) (by simp [results, Try.results31, go_sem, *]) rfl ⟨s, rfl, hs, by repeat (first | assumption | exact Below.refl _ _ | refine belowN ?_ _ | refine belowD ?_ | (refine Below.setCell ?_ (by first | (simp; done) | (simp; omega) | omega) _) | (refine Below.alloc ?_ (by first | (simp; done) | (simp; omega) | omega) _))⟩
end Go.Proofs.Ytoeognlfalbfkaa
