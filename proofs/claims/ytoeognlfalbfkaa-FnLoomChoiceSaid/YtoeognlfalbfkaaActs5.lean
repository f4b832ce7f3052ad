/- The walks of BeginCarpet, WarpLoom, TightenLoom and DaysLeft, both texts. No condition. -/
import Derived.Test.YtoeognlfalbfkaaFind
import Derived.Test.YtoeognlfalbfkaaPut5
namespace Go.Proofs.Ytoeognlfalbfkaa
open Go.RowKit

/-- A loom that is looked for and changed: the list, and whether it goes. -/
noncomputable def begin5 (xs : List LoomR) (id : Int) : List LoomR × Bool := match look xs id [1] with | some (k, a) => put5 xs k ⟨a.f0, a.f1, a.f2, a.f3, 2⟩ | none => ([], false)
noncomputable def warp5 (xs : List LoomR) (id wa pu : Int) : List LoomR × Bool := match look xs id [0] with | some (k, a) => put5 xs k ⟨a.f0, a.f1, wa, pu, 1⟩ | none => ([], false)
noncomputable def tight5 (xs : List LoomR) (id pu : Int) : List LoomR × Bool := match look xs id [1, 2] with | some (k, a) => if pu < a.f3 then ([], false) else put5 xs k ⟨a.f0, a.f1, a.f2, pu, a.f4⟩ | none => ([], false)
noncomputable def left5 (xs : List LoomR) (id : Int) : Int × Bool := match look xs id [2] with | some (_, a) => ((a.f3 - 50) / 3, true) | none => (0, false)
theorem look_dup (xs : List LoomR) (id p : Int) : look xs id [p, p] = look xs id [p] := by
  have e : isAt id [p, p] = isAt id [p] := by funext a; simp [isAt]
  unfold look
  rw [e]
theorem put5_len {xs : List LoomR} (h : loomsB xs = true) (k : Nat) (y : LoomR) : (put5 xs k y).1.length ≤ 8 := by
  have := (loomsB_of h).1
  unfold put5
  split
  · simpa using this
  · simp
theorem begin5_len (xs : List LoomR) (id : Int) : (begin5 xs id).1.length ≤ 100000 := by
  unfold begin5
  cases hl : look xs id [1] with
  | none => simp
  | some p =>
    obtain ⟨k, a⟩ := p
    have := put5_len (look_of hl).1 k ⟨a.f0, a.f1, a.f2, a.f3, 2⟩
    simp only; omega
theorem warp5_len (xs : List LoomR) (id : Int) (wa pu : Int) : (warp5 xs id wa pu).1.length ≤ 100000 := by
  unfold warp5
  cases hl : look xs id [0] with
  | none => simp
  | some p =>
    obtain ⟨k, a⟩ := p
    have := put5_len (look_of hl).1 k ⟨a.f0, a.f1, wa, pu, 1⟩
    simp only; omega
theorem tight5_len (xs : List LoomR) (id : Int) (pu : Int) : (tight5 xs id pu).1.length ≤ 100000 := by
  unfold tight5
  cases hl : look xs id [1, 2] with
  | none => simp
  | some p =>
    obtain ⟨k, a⟩ := p
    have := put5_len (look_of hl).1 k ⟨a.f0, a.f1, a.f2, pu, a.f4⟩
    simp only; split
    · simp
    · omega
set_option maxRecDepth 100000 in
set_option maxHeartbeats 400000 in
theorem loomIn_none (A : Option Addr) (n c B : Nat) (xs : List LoomR) (id : Int) (st : List Int) (q m : Nat) (w : World) (h : RdF loomF w B A n c xs) (hB : B ≤ w.heap.size)
    (hq : Blk w q 3 (st.map (Value.int .i64)).toArray) (hm : st.length = m) (hm2 : m ≤ 100) (hl : look xs id st = none) :
    Calls Try.prog 38 #[.slice A n c, .int .i64 id, .slice (some ⟨q, 0, none⟩) m m] w (Out w (.tuple #[.agg #[.int .i64 0, .int .i64 0, .int .i64 0, .int .i64 0, .int .i64 0], .bool false])) := by
  have := loomIn_any A n c B xs id st q m w h hB hq hm hm2
  rw [(lookR_none hl).1, (lookR_none hl).2] at this
  exact this
theorem loomIn_some (A : Option Addr) (n c B : Nat) (xs : List LoomR) (id : Int) (st : List Int) (q m : Nat) (w : World) (h : RdF loomF w B A n c xs) (hB : B ≤ w.heap.size)
    (hq : Blk w q 3 (st.map (Value.int .i64)).toArray) (hm : st.length = m) (hm2 : m ≤ 100) (k : Nat) (a : LoomR) (hl : look xs id st = some (k, a)) :
    Calls Try.prog 38 #[.slice A n c, .int .i64 id, .slice (some ⟨q, 0, none⟩) m m] w (Out w (.tuple #[.agg #[.int .i64 a.f0, .int .i64 a.f1, .int .i64 a.f2, .int .i64 a.f3, .int .i64 a.f4], .bool true])) := by
  have := loomIn_any A n c B xs id st q m w h hB hq hm hm2
  rw [(lookR_some hl).1, (lookR_some hl).2] at this
  exact this
theorem l5Find_none (A : Option Addr) (n c B : Nat) (xs : List LoomR) (id p q : Int) (w : World) (h : RdF loomF w B A n c xs) (hB : B ≤ w.heap.size) (hl : look xs id [p, q] = none) :
    Calls Try.prog 42 #[.slice A n c, .int .i64 id, .int .i64 p, .int .i64 q] w (Out w (.int .i64 (-1))) := by
  have := l5Find_any A n c B xs id p q w h hB
  rw [hl] at this
  exact this
theorem l5Find_some (A : Option Addr) (n c B : Nat) (xs : List LoomR) (id p q : Int) (w : World) (h : RdF loomF w B A n c xs) (hB : B ≤ w.heap.size) (k : Nat) (a : LoomR) (hl : look xs id [p, q] = some (k, a)) :
    Calls Try.prog 42 #[.slice A n c, .int .i64 id, .int .i64 p, .int .i64 q] w (Out w (.int .i64 k)) := by
  have := l5Find_any A n c B xs id p q w h hB
  rw [hl] at this
  exact this
theorem ret2_ib' {a a' : Int} {b b' : Bool} (h : a = a') (h' : b = b') : Ending.returned (.tuple #[.int .i64 a, .bool b]) = .returned (.tuple #[.int .i64 a', .bool b']) := by rw [h, h']
set_option maxRecDepth 100000 in
set_option maxHeartbeats 400000 in
theorem daysLeftOf_any (s : LoomR) (w : World) (hp : 50 ≤ s.f3 ∧ s.f3 ≤ 500) : Calls Try.prog 40 #[.agg #[.int .i64 s.f0, .int .i64 s.f1, .int .i64 s.f2, .int .i64 s.f3, .int .i64 s.f4]] w (Out w (.int .i64 ((s.f3 - 50) / 3))) := by
  obtain ⟨hp1, hp2⟩ := hp
  have hb0 := Lib.hid (show Below w.heap.size w (w.alloc (.cells #[.int .i64 s.f0, .int .i64 s.f1, .int .i64 s.f2, .int .i64 s.f3, .int .i64 s.f4] 37)) from (Below.refl _ _).alloc (Nat.le_refl _) _)
  have e1 : IntKind.i64.wrap (s.f3 - 50) = s.f3 - 50 := IntWalk.i64_in _ (by omega)
  go_enter Try.func40, Try.ntmps40
  go_wp2
  go_ret
  exact ⟨ret_int (by omega), hb0.out⟩
set_option maxRecDepth 100000 in
set_option maxHeartbeats 4000000 in
theorem implBeginCarpet_any (A : Option Addr) (n c B : Nat) (xs : List LoomR) (id : Int) (w : World) (h : RdF loomF w B A n c xs) (hB : B ≤ w.heap.size) :
    Calls Try.prog 17 #[.slice A n c, .int .i64 id] w (OutF loomF w (begin5 xs id).1 (begin5 xs id).2) := by
  obtain rfl := h.len
  have q0 := Blk.new w #[.int .i64 1] 3
  have HB : Below w.heap.size w (w.alloc (.cells #[.int .i64 1] 3)) := (Below.refl _ _).alloc (Nat.le_refl _) _
  have hR := h.alloc hB (.cells #[.int .i64 1] 3)
  rcases hl : look xs id [1] with _ | ⟨k, a⟩
  · have H := Lib.hid (show begin5 xs id = ([], false) by unfold begin5; rw [hl])
    have HL := Lib.hid hl
    clear hl
    rw [H.out]
    go_enter Try.func17, Try.ntmps17
    go_wp2_with fail
    refine (loomIn_none A _ c B xs id [1] w.heap.size 1 _ hR (by simp; omega) q0 rfl (by omega) HL.out).mono ?_
    rintro e w1 ⟨rfl, hb⟩
    replace HB := HB.trans (hb.mono HB.size)
    have hz1 := HB.size
    clear hb
    go_wp2
    go_ret2
    exact ⟨none, 0, rfl, OwnF.nil _ _ _, by repeat (first | assumption | exact Below.refl _ _ | refine belowN ?_ _ | refine belowD ?_ | (refine Below.setCell ?_ (by first | (simp; done) | (simp; omega) | omega) _) | (refine Below.alloc ?_ (by first | (simp; done) | (simp; omega) | omega) _))⟩
  obtain ⟨hg, ha, hid0, hst⟩ := look_of hl
  have hkl := (List.getElem?_eq_some_iff.1 ha).1
  obtain ⟨b, off, a', rfl, hbB, ok, HX, hc0, hc1, hc2, hc3, hc4⟩ := LoomR_at (F := loomF) rfl (fun _ => rfl) (fun _ => rfl) h hkl
  obtain rfl : a' = a := Option.some.inj (HX.out.symm.trans ha)
  clear hc0 hc1 hc2 hc3 hc4
  have HL := Lib.hid hl
  have H := Lib.hid (show begin5 xs id = put5 xs k ⟨a'.f0, a'.f1, a'.f2, a'.f3, 2⟩ by unfold begin5; rw [hl])
  clear hl hst hid0
  rw [H.out]
  go_enter Try.func17, Try.ntmps17
  go_wp2_with fail
  refine (loomIn_some _ _ c B xs id [1] w.heap.size 1 _ hR (by simp; omega) q0 rfl (by omega) k a' HL.out).mono ?_
  rintro e w1 ⟨rfl, hb⟩
  replace hR := hR.all hb (by simp; omega)
  replace HB := HB.trans (hb.mono HB.size)
  have hz1 := HB.size
  clear hb
  go_wp2_with fail
  refine (withLoom_any b off _ c B xs ⟨a'.f0, a'.f1, a'.f2, a'.f3, 2⟩ k a' _ (hR.alloc (by omega) _) (by simp; omega) hg ha rfl ⟨ok.1, ok.2.1, ok.2.2.1, ok.2.2.2.1, by constructor <;> simp⟩).mono ?_
  rintro e w2 ⟨A2, c2, rfl, ho, hb⟩
  have HB2 := (HB.alloc hz1 _).trans (hb.mono (by simp; omega))
  replace ho := ho.mono (lo' := w.heap.size) (by simp; omega)
  clear hb
  go_wp2
  go_ret2
  exact ⟨A2, c2, rfl, ho, HB2⟩
set_option maxRecDepth 100000 in
set_option maxHeartbeats 4000000 in
theorem specBeginCarpet_any (A : Option Addr) (n c B : Nat) (xs : List LoomR) (id : Int) (w : World) (h : RdF loomF w B A n c xs) (hB : B ≤ w.heap.size) :
    Calls Try.prog 18 #[.slice A n c, .int .i64 id] w (OutF loomF w (begin5 xs id).1 (begin5 xs id).2) := by
  obtain rfl := h.len
  rcases hl : look xs id [1] with _ | ⟨k, a⟩
  · have H := Lib.hid (show begin5 xs id = ([], false) by unfold begin5; rw [hl])
    have HL := Lib.hid ((look_dup xs id 1).trans hl)
    clear hl
    rw [H.out]
    go_enter Try.func18, Try.ntmps18
    go_wp2_with fail
    refine (l5Find_none A _ c B xs id 1 1 _ h hB HL.out).mono ?_
    rintro e w1 ⟨rfl, hb⟩
    have hz1 := hb.size
    go_wp2
    go_ret2
    exact ⟨some ⟨w1.heap.size, 0, none⟩, 0, rfl, OwnF.empty loomF hz1, hb.alloc hz1 _⟩
  obtain ⟨hg, ha, hid0, hst⟩ := look_of hl
  have hkl := (List.getElem?_eq_some_iff.1 ha).1
  have HL := Lib.hid ((look_dup xs id 1).trans hl)
  have hk0 : (0 : Int) ≤ (k : Int) := by omega
  have hkn : (k : Int) < (xs.length : Int) := by omega
  have H := Lib.hid (show begin5 xs id = put5 xs k ⟨a.f0, a.f1, a.f2, a.f3, 2⟩ by unfold begin5; rw [hl])
  clear hst hl
  clear hid0
  rw [H.out]
  go_enter Try.func18, Try.ntmps18
  go_wp2_with fail
  refine (l5Find_some _ _ c B xs id 1 1 _ h hB k a HL.out).mono ?_
  rintro e w1 ⟨rfl, hb⟩
  have hR := h.all hb hB
  have HB := hb
  have hz1 := HB.size
  obtain ⟨b, off, a', rfl, hbB, ok, HX, hc0, hc1, hc2, hc3, hc4⟩ := LoomR_at (F := loomF) rfl (fun _ => rfl) (fun _ => rfl) hR hkl
  obtain rfl : a' = a := Option.some.inj (HX.out.symm.trans ha)
  clear hb
  go_wp2_with fail
  refine (l5With_any b off _ c B xs ⟨a'.f0, a'.f1, a'.f2, a'.f3, 2⟩ k a' _ (hR.alloc (by omega) _) (by simp; omega) hg ha rfl ⟨ok.1, ok.2.1, ok.2.2.1, ok.2.2.2.1, by constructor <;> simp⟩).mono ?_
  rintro e w2 ⟨A2, c2, rfl, ho, hb⟩
  have HB2 := (HB.alloc hz1 _).trans (hb.mono (by simp; omega))
  replace ho := ho.mono (lo' := w.heap.size) (by simp; omega)
  clear hb
  go_wp2
  go_ret2
  exact ⟨A2, c2, rfl, ho, HB2⟩
set_option maxRecDepth 100000 in
set_option maxHeartbeats 4000000 in
theorem implWarpLoom_any (A : Option Addr) (n c B : Nat) (xs : List LoomR) (id : Int) (wa pu : Int) (w : World) (h : RdF loomF w B A n c xs) (hB : B ≤ w.heap.size) (hwa : I64 wa) (hpu : I64 pu) :
    Calls Try.prog 15 #[.slice A n c, .int .i64 id, .int .i64 wa, .int .i64 pu] w (OutF loomF w (warp5 xs id wa pu).1 (warp5 xs id wa pu).2) := by
  obtain rfl := h.len
  have q0 := Blk.new w #[.int .i64 0] 3
  have HB : Below w.heap.size w (w.alloc (.cells #[.int .i64 0] 3)) := (Below.refl _ _).alloc (Nat.le_refl _) _
  have hR := h.alloc hB (.cells #[.int .i64 0] 3)
  rcases hl : look xs id [0] with _ | ⟨k, a⟩
  · have H := Lib.hid (show warp5 xs id wa pu = ([], false) by unfold warp5; rw [hl])
    have HL := Lib.hid hl
    clear hl
    rw [H.out]
    go_enter Try.func15, Try.ntmps15
    go_wp2_with fail
    refine (loomIn_none A _ c B xs id [0] w.heap.size 1 _ hR (by simp; omega) q0 rfl (by omega) HL.out).mono ?_
    rintro e w1 ⟨rfl, hb⟩
    replace HB := HB.trans (hb.mono HB.size)
    have hz1 := HB.size
    clear hb
    go_wp2
    go_ret2
    exact ⟨none, 0, rfl, OwnF.nil _ _ _, by repeat (first | assumption | exact Below.refl _ _ | refine belowN ?_ _ | refine belowD ?_ | (refine Below.setCell ?_ (by first | (simp; done) | (simp; omega) | omega) _) | (refine Below.alloc ?_ (by first | (simp; done) | (simp; omega) | omega) _))⟩
  obtain ⟨hg, ha, hid0, hst⟩ := look_of hl
  have hkl := (List.getElem?_eq_some_iff.1 ha).1
  obtain ⟨b, off, a', rfl, hbB, ok, HX, hc0, hc1, hc2, hc3, hc4⟩ := LoomR_at (F := loomF) rfl (fun _ => rfl) (fun _ => rfl) h hkl
  obtain rfl : a' = a := Option.some.inj (HX.out.symm.trans ha)
  clear hc0 hc1 hc2 hc3 hc4
  have HL := Lib.hid hl
  have H := Lib.hid (show warp5 xs id wa pu = put5 xs k ⟨a'.f0, a'.f1, wa, pu, 1⟩ by unfold warp5; rw [hl])
  clear hl hst hid0
  rw [H.out]
  go_enter Try.func15, Try.ntmps15
  go_wp2_with fail
  refine (loomIn_some _ _ c B xs id [0] w.heap.size 1 _ hR (by simp; omega) q0 rfl (by omega) k a' HL.out).mono ?_
  rintro e w1 ⟨rfl, hb⟩
  replace hR := hR.all hb (by simp; omega)
  replace HB := HB.trans (hb.mono HB.size)
  have hz1 := HB.size
  clear hb
  go_wp2_with fail
  refine (withLoom_any b off _ c B xs ⟨a'.f0, a'.f1, wa, pu, 1⟩ k a' _ (hR.alloc (by omega) _) (by simp; omega) hg ha rfl ⟨ok.1, ok.2.1, hwa, hpu, by constructor <;> simp⟩).mono ?_
  rintro e w2 ⟨A2, c2, rfl, ho, hb⟩
  have HB2 := (HB.alloc hz1 _).trans (hb.mono (by simp; omega))
  replace ho := ho.mono (lo' := w.heap.size) (by simp; omega)
  clear hb
  go_wp2
  go_ret2
  exact ⟨A2, c2, rfl, ho, HB2⟩
set_option maxRecDepth 100000 in
set_option maxHeartbeats 4000000 in
theorem specWarpLoom_any (A : Option Addr) (n c B : Nat) (xs : List LoomR) (id : Int) (wa pu : Int) (w : World) (h : RdF loomF w B A n c xs) (hB : B ≤ w.heap.size) (hwa : I64 wa) (hpu : I64 pu) :
    Calls Try.prog 30 #[.slice A n c, .int .i64 id, .int .i64 wa, .int .i64 pu] w (OutF loomF w (warp5 xs id wa pu).1 (warp5 xs id wa pu).2) := by
  obtain rfl := h.len
  rcases hl : look xs id [0] with _ | ⟨k, a⟩
  · have H := Lib.hid (show warp5 xs id wa pu = ([], false) by unfold warp5; rw [hl])
    have HL := Lib.hid ((look_dup xs id 0).trans hl)
    clear hl
    rw [H.out]
    go_enter Try.func30, Try.ntmps30
    go_wp2_with fail
    refine (l5Find_none A _ c B xs id 0 0 _ h hB HL.out).mono ?_
    rintro e w1 ⟨rfl, hb⟩
    have hz1 := hb.size
    go_wp2
    go_ret2
    exact ⟨some ⟨w1.heap.size, 0, none⟩, 0, rfl, OwnF.empty loomF hz1, hb.alloc hz1 _⟩
  obtain ⟨hg, ha, hid0, hst⟩ := look_of hl
  have hkl := (List.getElem?_eq_some_iff.1 ha).1
  have HL := Lib.hid ((look_dup xs id 0).trans hl)
  have hk0 : (0 : Int) ≤ (k : Int) := by omega
  have hkn : (k : Int) < (xs.length : Int) := by omega
  have H := Lib.hid (show warp5 xs id wa pu = put5 xs k ⟨a.f0, a.f1, wa, pu, 1⟩ by unfold warp5; rw [hl])
  clear hst hl
  subst hid0
  rw [H.out]
  go_enter Try.func30, Try.ntmps30
  go_wp2_with fail
  refine (l5Find_some _ _ c B xs _ 0 0 _ h hB k a HL.out).mono ?_
  rintro e w1 ⟨rfl, hb⟩
  have hR := h.all hb hB
  have HB := hb
  have hz1 := HB.size
  obtain ⟨b, off, a', rfl, hbB, ok, HX, hc0, hc1, hc2, hc3, hc4⟩ := LoomR_at (F := loomF) rfl (fun _ => rfl) (fun _ => rfl) hR hkl
  obtain rfl : a' = a := Option.some.inj (HX.out.symm.trans ha)
  clear hb
  go_wp2_with fail
  refine (l5With_any b off _ c B xs ⟨a'.f0, a'.f1, wa, pu, 1⟩ k a' _ (hR) (by omega) hg ha rfl ⟨ok.1, ok.2.1, hwa, hpu, by constructor <;> simp⟩).mono ?_
  rintro e w2 ⟨A2, c2, rfl, ho, hb⟩
  have HB2 := (HB).trans (hb.mono (by omega))
  replace ho := ho.mono (lo' := w.heap.size) (by omega)
  clear hb
  go_wp2
  go_ret2
  exact ⟨A2, c2, rfl, ho, HB2⟩
set_option maxRecDepth 100000 in
set_option maxHeartbeats 4000000 in
theorem implTightenLoom_any (A : Option Addr) (n c B : Nat) (xs : List LoomR) (id : Int) (pu : Int) (w : World) (h : RdF loomF w B A n c xs) (hB : B ≤ w.heap.size) (hpu : I64 pu) :
    Calls Try.prog 27 #[.slice A n c, .int .i64 id, .int .i64 pu] w (OutF loomF w (tight5 xs id pu).1 (tight5 xs id pu).2) := by
  obtain rfl := h.len
  have q0 := Blk.new w #[.int .i64 1, .int .i64 2] 3
  have HB : Below w.heap.size w (w.alloc (.cells #[.int .i64 1, .int .i64 2] 3)) := (Below.refl _ _).alloc (Nat.le_refl _) _
  have hR := h.alloc hB (.cells #[.int .i64 1, .int .i64 2] 3)
  rcases hl : look xs id [1, 2] with _ | ⟨k, a⟩
  · have H := Lib.hid (show tight5 xs id pu = ([], false) by unfold tight5; rw [hl])
    have HL := Lib.hid hl
    clear hl
    rw [H.out]
    go_enter Try.func27, Try.ntmps27
    go_wp2_with fail
    refine (loomIn_none A _ c B xs id [1, 2] w.heap.size 2 _ hR (by simp; omega) q0 rfl (by omega) HL.out).mono ?_
    rintro e w1 ⟨rfl, hb⟩
    replace HB := HB.trans (hb.mono HB.size)
    have hz1 := HB.size
    clear hb
    go_wp2
    go_ret2
    exact ⟨none, 0, rfl, OwnF.nil _ _ _, by repeat (first | assumption | exact Below.refl _ _ | refine belowN ?_ _ | refine belowD ?_ | (refine Below.setCell ?_ (by first | (simp; done) | (simp; omega) | omega) _) | (refine Below.alloc ?_ (by first | (simp; done) | (simp; omega) | omega) _))⟩
  obtain ⟨hg, ha, hid0, hst⟩ := look_of hl
  have hkl := (List.getElem?_eq_some_iff.1 ha).1
  obtain ⟨b, off, a', rfl, hbB, ok, HX, hc0, hc1, hc2, hc3, hc4⟩ := LoomR_at (F := loomF) rfl (fun _ => rfl) (fun _ => rfl) h hkl
  obtain rfl : a' = a := Option.some.inj (HX.out.symm.trans ha)
  clear hc0 hc1 hc2 hc3 hc4
  have HL := Lib.hid hl
  by_cases hlt : pu < a'.f3
  · have H := Lib.hid (show tight5 xs id pu = ([], false) by unfold tight5; rw [hl]; simp [hlt])
    clear hl hst hid0
    rw [H.out]
    go_enter Try.func27, Try.ntmps27
    go_wp2_with fail
    refine (loomIn_some _ _ c B xs id [1, 2] w.heap.size 2 _ hR (by simp; omega) q0 rfl (by omega) k a' HL.out).mono ?_
    rintro e w1 ⟨rfl, hb⟩
    replace HB := HB.trans (hb.mono HB.size)
    have hz1 := HB.size
    clear hb
    go_wp2
    go_ret2
    exact ⟨none, 0, rfl, OwnF.nil _ _ _, by repeat (first | assumption | exact Below.refl _ _ | refine belowN ?_ _ | refine belowD ?_ | (refine Below.setCell ?_ (by first | (simp; done) | (simp; omega) | omega) _) | (refine Below.alloc ?_ (by first | (simp; done) | (simp; omega) | omega) _))⟩
  have H := Lib.hid (show tight5 xs id pu = put5 xs k ⟨a'.f0, a'.f1, a'.f2, pu, a'.f4⟩ by unfold tight5; rw [hl]; simp [hlt])
  clear hl hst hid0
  rw [H.out]
  go_enter Try.func27, Try.ntmps27
  go_wp2_with fail
  refine (loomIn_some _ _ c B xs id [1, 2] w.heap.size 2 _ hR (by simp; omega) q0 rfl (by omega) k a' HL.out).mono ?_
  rintro e w1 ⟨rfl, hb⟩
  replace hR := hR.all hb (by simp; omega)
  replace HB := HB.trans (hb.mono HB.size)
  have hz1 := HB.size
  clear hb
  go_wp2_with fail
  refine (withLoom_any b off _ c B xs ⟨a'.f0, a'.f1, a'.f2, pu, a'.f4⟩ k a' _ (hR.alloc (by omega) _) (by simp; omega) hg ha rfl ⟨ok.1, ok.2.1, ok.2.2.1, hpu, ok.2.2.2.2⟩).mono ?_
  rintro e w2 ⟨A2, c2, rfl, ho, hb⟩
  have HB2 := (HB.alloc hz1 _).trans (hb.mono (by simp; omega))
  replace ho := ho.mono (lo' := w.heap.size) (by simp; omega)
  clear hb
  go_wp2
  go_ret2
  exact ⟨A2, c2, rfl, ho, HB2⟩
set_option maxRecDepth 100000 in
set_option maxHeartbeats 4000000 in
theorem specTightenLoom_any (A : Option Addr) (n c B : Nat) (xs : List LoomR) (id : Int) (pu : Int) (w : World) (h : RdF loomF w B A n c xs) (hB : B ≤ w.heap.size) (hpu : I64 pu) :
    Calls Try.prog 28 #[.slice A n c, .int .i64 id, .int .i64 pu] w (OutF loomF w (tight5 xs id pu).1 (tight5 xs id pu).2) := by
  obtain rfl := h.len
  rcases hl : look xs id [1, 2] with _ | ⟨k, a⟩
  · have H := Lib.hid (show tight5 xs id pu = ([], false) by unfold tight5; rw [hl])
    have HL := Lib.hid (hl)
    clear hl
    rw [H.out]
    go_enter Try.func28, Try.ntmps28
    go_wp2_with fail
    refine (l5Find_none A _ c B xs id 1 2 _ h hB HL.out).mono ?_
    rintro e w1 ⟨rfl, hb⟩
    have hz1 := hb.size
    go_wp2
    go_ret2
    exact ⟨some ⟨w1.heap.size, 0, none⟩, 0, rfl, OwnF.empty loomF hz1, hb.alloc hz1 _⟩
  obtain ⟨hg, ha, hid0, hst⟩ := look_of hl
  have hkl := (List.getElem?_eq_some_iff.1 ha).1
  have HL := Lib.hid (hl)
  have hk0 : (0 : Int) ≤ (k : Int) := by omega
  have hkn : (k : Int) < (xs.length : Int) := by omega
  by_cases hlt : pu < a.f3
  · have H := Lib.hid (show tight5 xs id pu = ([], false) by unfold tight5; rw [hl]; simp [hlt])
    clear hl hst hid0
    rw [H.out]
    go_enter Try.func28, Try.ntmps28
    go_wp2_with fail
    refine (l5Find_some _ _ c B xs id 1 2 _ h hB k a HL.out).mono ?_
    rintro e w1 ⟨rfl, hb⟩
    have hR := h.all hb hB
    have HB := hb
    have hz1 := HB.size
    obtain ⟨b, off, a', rfl, hbB, ok, HX, hc0, hc1, hc2, hc3, hc4⟩ := LoomR_at (F := loomF) rfl (fun _ => rfl) (fun _ => rfl) hR hkl
    obtain rfl : a' = a := Option.some.inj (HX.out.symm.trans ha)
    clear hb
    go_wp2
    go_ret2
    exact ⟨some ⟨w1.heap.size, 0, none⟩, 0, rfl, OwnF.empty loomF hz1, HB.alloc hz1 _⟩
  have H := Lib.hid (show tight5 xs id pu = put5 xs k ⟨a.f0, a.f1, a.f2, pu, a.f4⟩ by unfold tight5; rw [hl]; simp [hlt])
  clear hl hst hid0
  rw [H.out]
  go_enter Try.func28, Try.ntmps28
  go_wp2_with fail
  refine (l5Find_some _ _ c B xs id 1 2 _ h hB k a HL.out).mono ?_
  rintro e w1 ⟨rfl, hb⟩
  have hR := h.all hb hB
  have HB := hb
  have hz1 := HB.size
  obtain ⟨b, off, a', rfl, hbB, ok, HX, hc0, hc1, hc2, hc3, hc4⟩ := LoomR_at (F := loomF) rfl (fun _ => rfl) (fun _ => rfl) hR hkl
  obtain rfl : a' = a := Option.some.inj (HX.out.symm.trans ha)
  clear hb
  go_wp2_with fail
  refine (l5With_any b off _ c B xs ⟨a'.f0, a'.f1, a'.f2, pu, a'.f4⟩ k a' _ (hR.alloc (by omega) _) (by simp; omega) hg ha rfl ⟨ok.1, ok.2.1, ok.2.2.1, hpu, ok.2.2.2.2⟩).mono ?_
  rintro e w2 ⟨A2, c2, rfl, ho, hb⟩
  have HB2 := (HB.alloc hz1 _).trans (hb.mono (by simp; omega))
  replace ho := ho.mono (lo' := w.heap.size) (by simp; omega)
  clear hb
  go_wp2
  go_ret2
  exact ⟨A2, c2, rfl, ho, HB2⟩
set_option maxRecDepth 100000 in
set_option maxHeartbeats 4000000 in
theorem implDaysLeft_any (A : Option Addr) (n c B : Nat) (xs : List LoomR) (id : Int) (w : World) (h : RdF loomF w B A n c xs) (hB : B ≤ w.heap.size) :
    Calls Try.prog 10 #[.slice A n c, .int .i64 id] w (Out w (.tuple #[.int .i64 (left5 xs id).1, .bool (left5 xs id).2])) := by
  obtain rfl := h.len
  have q0 := Blk.new w #[.int .i64 2] 3
  have HB : Below w.heap.size w (w.alloc (.cells #[.int .i64 2] 3)) := (Below.refl _ _).alloc (Nat.le_refl _) _
  have hR := h.alloc hB (.cells #[.int .i64 2] 3)
  rcases hl : look xs id [2] with _ | ⟨k, a⟩
  · have H := Lib.hid (show left5 xs id = (0, false) by unfold left5; rw [hl])
    have HL := Lib.hid hl
    clear hl
    rw [H.out]
    go_enter Try.func10, Try.ntmps10
    go_wp2_with fail
    refine (loomIn_none A _ c B xs id [2] w.heap.size 1 _ hR (by simp; omega) q0 rfl (by omega) HL.out).mono ?_
    rintro e w1 ⟨rfl, hb⟩
    replace HB := HB.trans (hb.mono HB.size)
    have hz1 := HB.size
    clear hb
    go_wp2
    go_ret2
    exact ⟨rfl, by repeat (first | assumption | exact Below.refl _ _ | refine belowN ?_ _ | refine belowD ?_ | (refine Below.setCell ?_ (by first | (simp; done) | (simp; omega) | omega) _) | (refine Below.alloc ?_ (by first | (simp; done) | (simp; omega) | omega) _))⟩
  obtain ⟨hg, ha, hid0, hst⟩ := look_of hl
  have hkl := (List.getElem?_eq_some_iff.1 ha).1
  obtain ⟨b, off, a', rfl, hbB, ok, HX, hc0, hc1, hc2, hc3, hc4⟩ := LoomR_at (F := loomF) rfl (fun _ => rfl) (fun _ => rfl) h hkl
  obtain rfl : a' = a := Option.some.inj (HX.out.symm.trans ha)
  clear hc0 hc1 hc2 hc3 hc4
  have HL := Lib.hid hl
  have H := Lib.hid (show left5 xs id = ((a'.f3 - 50) / 3, true) by unfold left5; rw [hl])
  have hbusy : LoomOk a' := loomB_of ((loomsB_of hg).2.1 k a' hkl ha)
  have hf4 : a'.f4 = 2 := by simpa using hst
  have hp : 50 ≤ a'.f3 ∧ a'.f3 ≤ 500 := by
    obtain ⟨_, _, _, h3, h4⟩ := hbusy
    unfold LoomSt at h4
    omega
  clear hl hst hid0 hf4 hbusy
  rw [H.out]
  go_enter Try.func10, Try.ntmps10
  go_wp2_with fail
  refine (loomIn_some _ _ c B xs id [2] w.heap.size 1 _ hR (by simp; omega) q0 rfl (by omega) k a' HL.out).mono ?_
  rintro e w1 ⟨rfl, hb⟩
  replace HB := HB.trans (hb.mono HB.size)
  have hz1 := HB.size
  clear hb
  go_wp2_with fail
  refine (daysLeftOf_any a' _ hp).mono ?_
  rintro e w2 ⟨rfl, hb⟩
  have HB2 := (HB.alloc hz1 _).trans (hb.mono (by simp; omega))
  go_wp2
  go_ret2
  exact ⟨rfl, HB2⟩
set_option maxRecDepth 100000 in
set_option maxHeartbeats 4000000 in
theorem specDaysLeft_any (A : Option Addr) (n c B : Nat) (xs : List LoomR) (id : Int) (w : World) (h : RdF loomF w B A n c xs) (hB : B ≤ w.heap.size) :
    Calls Try.prog 20 #[.slice A n c, .int .i64 id] w (Out w (.tuple #[.int .i64 (left5 xs id).1, .bool (left5 xs id).2])) := by
  obtain rfl := h.len
  rcases hl : look xs id [2] with _ | ⟨k, a⟩
  · have H := Lib.hid (show left5 xs id = (0, false) by unfold left5; rw [hl])
    have HL := Lib.hid ((look_dup xs id 2).trans hl)
    clear hl
    rw [H.out]
    go_enter Try.func20, Try.ntmps20
    go_wp2_with fail
    refine (l5Find_none A _ c B xs id 2 2 _ h hB HL.out).mono ?_
    rintro e w1 ⟨rfl, hb⟩
    have hz1 := hb.size
    go_wp2
    go_ret2
    exact ⟨rfl, hb⟩
  obtain ⟨hg, ha, hid0, hst⟩ := look_of hl
  have hkl := (List.getElem?_eq_some_iff.1 ha).1
  have HL := Lib.hid ((look_dup xs id 2).trans hl)
  have hk0 : (0 : Int) ≤ (k : Int) := by omega
  have hkn : (k : Int) < (xs.length : Int) := by omega
  have H := Lib.hid (show left5 xs id = ((a.f3 - 50) / 3, true) by unfold left5; rw [hl])
  have hbusy : LoomOk a := loomB_of ((loomsB_of hg).2.1 k a hkl ha)
  have hf4 : a.f4 = 2 := by simpa using hst
  have hp : 50 ≤ a.f3 ∧ a.f3 ≤ 500 := by
    obtain ⟨_, _, _, h3, h4⟩ := hbusy
    unfold LoomSt at h4
    omega
  obtain ⟨hp1, hp2⟩ := hp
  clear hl hst hid0 hf4 hbusy
  rw [H.out]
  go_enter Try.func20, Try.ntmps20
  go_wp2_with fail
  refine (l5Find_some _ _ c B xs id 2 2 _ h hB k a HL.out).mono ?_
  rintro e w1 ⟨rfl, hb⟩
  have hR := h.all hb hB
  have HB := hb
  have hz1 := HB.size
  obtain ⟨b, off, a', rfl, hbB, ok, HX, hc0, hc1, hc2, hc3, hc4⟩ := LoomR_at (F := loomF) rfl (fun _ => rfl) (fun _ => rfl) hR hkl
  obtain rfl : a' = a := Option.some.inj (HX.out.symm.trans ha)
  clear hb
  clear hc0 hc1 hc2 hc4
  have e1 : IntKind.i64.wrap (a'.f3 - 50) = a'.f3 - 50 := IntWalk.i64_in _ (by omega)
  go_wp2
  go_ret2
  exact ⟨ret2_ib' (by omega) rfl, HB⟩
end Go.Proofs.Ytoeognlfalbfkaa
