/- The walks of the program's RingOf and withRing: loops over an iterator that store into a list. Condition: a valid chart with a ring; colors. -/
import Derived.Test.YtjfdcmdgpeeabaaRing3
namespace Go.Proofs.Ytjfdcmdgpeeabaa
open Go.RowKit Go.Shelf
attribute [local go_sem] Oper.semAt_some

theorem wpListIn_make_full {F : Fence} {n : Nat} {P : Program} (w : World) {ops : Array Oper} {rest : List Oper} {o : Oper} {a : Act} {Q : Exit → Act → World → Prop}
    (hg : o.guard = none) (l c : Operand) (t : TypeId) (hop : o.op = Op.makeSlice t l c)
    (base : Nat) (e : TypeId) (i : TypeInfo) (z : Value) (size : Nat) (h1 : P.underlying t = some (.slice e)) (h2 : P.info? e = some i) (h3 : i.zero = some z) (h4 : i.size = size)
    (kl kc : IntKind) (L C : Int) (m : Nat) (hl : a.eval l = .int kl L) (hc : a.eval c = .int kc C) (hL : L = (m : Int)) (hC : C = (m : Int)) (b2 : i.bytes * m ≤ 281474976710656) (b3 : m ≤ maxLen) (b4 : base ≤ w.heap.size)
    (hK : ∀ w', w'.ownsRow base e size (.slice (some ⟨w.heap.size, 0, none⟩) m m) m (madeCells z.cells (m * size)).toList → w.grownBy w' none → wpListIn F n P ops Q rest (a.put o.dst (.slice (some ⟨w.heap.size, 0, none⟩) m m)) w') :
    wpListIn F n P ops Q (o :: rest) a w := by
  refine wpListIn_plain hg fun K hK' => ?_
  obtain ⟨w', hrun, r1, r2⟩ := run_make_full (P := P) w base t e i z size h1 h2 h3 h4 kl kc m b2 b3 b4
  subst hL
  subst hC
  unfold Oper.wpIn
  refine ⟨?_, ?_⟩
  · simp [Oper.about, hop]
  · rw [Oper.semAt_plain F _ _ (by rw [hop]; intro c hc'; cases hc')]
    simp [execOp, hop, hl, hc, hrun, Result.andThen]
    exact hK' _ _ (hK w' r1 r2)
theorem row_cells {w : World} {base e size n : Nat} {v : Value} {xs : List Value} (h : w.ownsRow base e size v n xs) {z : Nat} (hz : v.ownBlock = some z) : ∃ o : Obj, w.heap[z]? = some o ∧ o.isCells = true := by
  rcases h.2 with ⟨rfl, _⟩ | ⟨g, cap, cur, rfl, _, hgb, _⟩
  · cases hz
  · cases hz; exact ⟨_, hgb, rfl⟩
theorem ownFrom_own {β : Type} (B lo : Nat) (v : Value) (f : β → List Int) : OwnFrom B (fun s W => Own W lo v (f s)) := by
  rintro s X Y row h hg hrow
  refine h.kept hg ?_
  cases hv : v.ownBlock with
  | none => exact .inl rfl
  | some z =>
    refine .inr fun e => ?_
    obtain ⟨_, o, ho, hc⟩ := hrow z e.symm
    obtain ⟨o', ho', hc'⟩ := row_cells h.1 hv
    rw [ho] at ho'; cases ho'; rw [hc] at hc'; cases hc'
theorem ownFrom_blk {β : Type} (B q : Nat) (t : TypeId) (cs : Array Value) : OwnFrom B (fun (_ : β) W => Blk W q t cs) := by
  rintro s X Y row h hg hrow
  refine Blk.mark h hg fun z hz e => ?_
  obtain ⟨_, o, ho, hc⟩ := hrow z hz
  subst e
  rw [show X.heap[z]? = _ from h] at ho; cases ho; cases hc
theorem ownFrom_rd {β : Type} (B B0 : Nat) (A : Option Addr) (n c : Nat) (xs : List Int) (hB : B0 ≤ B) : OwnFrom B (fun (_ : β) W => Rd W B0 A n c xs) := by
  rintro s X Y row h hg hrow
  refine ⟨h.len, h.cap, h.max, fun hn => ?_, h.fits, h.nil⟩
  obtain ⟨b, off, e, hb, hc⟩ := h.cells hn
  refine ⟨b, off, e, hb, fun j hj => hg.cell (a := ⟨b, off + j, none⟩) (hc j hj) fun er => ?_⟩
  have := (hrow b er.symm).1
  omega
theorem kpC_put {p : Nat} {W : World} {a : Addr} {u : Value} (h : a.block < p) : KpC p W (W.setCell a u) := fun j cs t fz hj hw => (heap_setCell_other W a j u (by omega)).trans hw
theorem keeps_put {B : Nat} {W : World} {g t n c : Nat} {x : Value} {xs : List Int} {lo : Nat} (_ : Own W lo (.slice (some ⟨g, 0, none⟩) n c) xs) (_ : t = t) : KeepsFrom B W (W.setCell ⟨g, t, none⟩ x) := (KeepsOthers.setCell W _ x).from B
theorem read_len {xs zs : List Int} {L N : Nat} (pre : List (RPt L N)) : (pre.foldl (fun zs (x : RPt L N) => readF xs zs x.1) zs).length = zs.length := by
  induction pre generalizing zs with
  | nil => rfl
  | cons x l ih => rw [List.foldl_cons, ih, readF, List.length_set]
theorem putp_len {cs zs : List Int} {L N : Nat} (pre : List (RPt L N)) : (pre.foldl (fun zs (x : RPt L N) => putF cs zs x.1) zs).length = zs.length := by
  induction pre generalizing zs with
  | nil => rfl
  | cons x l ih => rw [List.foldl_cons, ih, putF, List.length_set]

set_option maxRecDepth 100000 in
set_option maxHeartbeats 8000000 in
theorem implRingOf_yes (m k b off cc B : Nat) (xs : List Int) (w : World) (hR : Rd w B (some ⟨b, off, none⟩) xs.length cc xs) (hB : B ≤ w.heap.size) (m2 : 2 ≤ m) (m8 : m ≤ 8) (k2 : 2 ≤ k) (k8 : k ≤ 8) (hl : Hid (xs.length = m * k)) (hg : hasRingB m k xs = true) :
    Calls Try.prog 41 #[chartV m k (.slice (some ⟨b, off, none⟩) xs.length cc)] w (OutInts w (ringL m k xs) true) := by
  obtain ⟨i0, hi, hz0, hz1, hz2⟩ := info_parts info_int
  have hb0 := Lib.hid ((Below.refl w.heap.size w).alloc (Nat.le_refl _) (.cells #[.int .i64 m, .int .i64 k, .slice (some ⟨b, off, none⟩) xs.length cc] 26))
  have h' := Lib.hid (hR.alloc hB (.cells #[.int .i64 m, .int .i64 k, .slice (some ⟨b, off, none⟩) xs.length cc] 26))
  have x0 := Blk.new w #[.int .i64 m, .int .i64 k, .slice (some ⟨b, off, none⟩) xs.length cc] 26
  have hN28 := ringN_bd m2 m8 k2 k8
  have hx64 : xs.length ≤ 64 := by rw [hl.out]; exact Nat.mul_le_mul m8 k8
  have hx1 : 1 ≤ xs.length := by rw [hl.out]; exact Nat.mul_le_mul (show 1 ≤ m by omega) (show 1 ≤ k by omega)
  obtain ⟨_, _, ebb, hbB, _⟩ := hR.cells hx1
  cases ebb
  clear hR
  refine (callsIn_wide (n := 3)).1 ?_
  refine callsIn_of_wp_marks Try.func41 rfl trivial ?_ rfl
  simp only [Try.ntmps41, List.size_toArray, List.length_cons, List.length_nil, Nat.reduceAdd, Nat.reduceSub, Array.replicate_succ, Array.replicate_zero, List.push_toArray, List.append_toArray, List.nil_append, List.cons_append]
  gi_wp2_with fail
  refine ⟨trivial, (callsIn_wide.2 (hasRing_any m k _ _ cc B xs _ h'.out (by simp; omega))).mono ?_⟩
  rintro e w1 ⟨rfl, hb⟩
  have x1 := x0.all hb
  have HB := Lib.hid (hb0.out.trans (hb.mono (by simp)))
  have hz1w : w.heap.size ≤ w1.heap.size := HB.out.size
  have R1 := h'.out.all hb (by simp; omega)
  rw [hg]
  clear hb x0 h' hb0
  have e0 := x1.cell 0
  have e1 := x1.cell 1
  gi_wp2_with fail
  refine ⟨trivial, (callsIn_wide.2 (knotsAround_any m k w1 m2 m8 k2 k8)).mono ?_⟩
  rintro e w1' ⟨rfl, rfl⟩
  clear e0 e1
  obtain ⟨N, hN⟩ : ∃ N, ringN m k = N := ⟨_, rfl⟩
  rw [hN] at hN28 ⊢
  gi_wp2_with (gi_at_make; refine wpListIn_make_full _ rfl _ _ 24 rfl w.heap.size 3 i0 (.int .i64 0) 1 Try.underlying24 hi hz0 hz1 _ _ _ _ N rfl rfl rfl rfl (by rw [hz2]; omega) (by unfold maxLen; omega) hz1w ?_)
  intro w2 hown0 hg0
  have x2 := x1.mark hg0 (fun z h => by cases h)
  have R2 := R1.mark hg0 (fun z h => by cases h) (Nat.le_trans hB hz1w)
  have O2 : Own w2 w.heap.size (.slice (some ⟨w1.heap.size, 0, none⟩) N N) (List.replicate N 0) := by
    refine ⟨?_, fun x hx => ?_⟩
    · have := hown0
      rw [toList_madeCells_one] at this
      rw [List.length_replicate, List.map_replicate]
      simpa using this
    · rw [List.mem_replicate] at hx
      rw [hx.2]; exact ⟨by omega, by omega⟩
  have HB2 := Lib.hid (HB.out.grown hg0 hz1w (fun z h => by cases h))
  obtain ⟨g, hgw⟩ : ∃ g, w1.heap.size = g := ⟨_, rfl⟩
  rw [hgw] at O2 ⊢
  have hg2 := (O2.bd g rfl).2
  have hgl : w.heap.size ≤ g := by omega
  clear hown0 hg0 x1 R1 HB hgw
  have hz2w : w.heap.size ≤ w2.heap.size := HB2.out.size
  have x3 := x2.alloc (.cells #[.slice (some ⟨g, 0, none⟩) N N] 24)
  have b3 := Blk.new w2 #[.slice (some ⟨g, 0, none⟩) N N] 24
  have R3 := R2.alloc (Nat.le_trans hB hz2w) (.cells #[.slice (some ⟨g, 0, none⟩) N N] 24)
  have O3 := O2.alloc (.cells #[.slice (some ⟨g, 0, none⟩) N N] 24)
  have HB3 := Lib.hid (HB2.out.alloc hz2w (.cells #[.slice (some ⟨g, 0, none⟩) N N] 24))
  have e0 := x2.cell 0
  have e1 := x2.cell 1
  have e2 := x2.cell 2
  have hxl := x2.lt
  gi_wp2_with fail
  refine ⟨trivial, (ringPlaces_in Fence.wide _ trivial rfl m k _ m2 m8 k2 k8 _).mono ?_⟩
  rintro e w4 ⟨rfl, hw4⟩
  obtain ⟨w3, hw3⟩ : ∃ v, w2.alloc (.cells #[.slice (some ⟨g, 0, none⟩) N N] 24) = v := ⟨_, rfl⟩
  have hs3 : w3.heap.size = w2.heap.size + 1 := by rw [← hw3]; simp
  have hw4' : w4 = (w3.alloc (.cells #[.int .i64 m, .int .i64 k, .slice (some ⟨b, off, none⟩) xs.length cc] 26)).alloc (.cells (sidesC m k) 86) := by rw [← hw3]; exact hw4
  rw [hw3] at x3 b3 R3 O3 HB3 ⊢
  clear e0 e1 e2 x2 R2 O2 HB2 hw3 hw4
  have hal : Below w3.heap.size w3 w4 := by rw [hw4']; exact ((Below.refl _ _).alloc (Nat.le_refl _) _).alloc (by simp) _
  have S4 : Blk w4 (w3.heap.size + 1) 86 (sidesC m k) := by rw [hw4']; exact (Blk.new _ _ _).at_ (by simp)
  have x4 := x3.all hal
  have b4 := b3.all hal
  have R4 := R3.all hal (by omega)
  have O4 := O3.all hal
  have HB4 := HB3.out.trans (hal.mono HB3.out.size)
  have hs4 : w4.heap.size = w3.heap.size + 2 := by rw [hw4']; simp
  obtain ⟨P8, hP8⟩ : ∃ q, w2.heap.size = q := ⟨_, rfl⟩
  obtain ⟨P9, hP9⟩ : ∃ q, w3.heap.size + 1 = q := ⟨_, rfl⟩
  rw [hP8] at b4 hs3 hg2 hxl ⊢
  rw [hP9] at S4 ⊢
  clear hw4' hal x3 b3 R3 O3 HB3 hP8
  gi_wp2
  refine wpIn_rangeFunc_ownG rfl (show 1 ≤ 3 by decide) (gf := 77) (lb := #[.pointer (some ⟨P9, 0, none⟩)]) rfl trivial (enters_of Try.func77 (by kernel_rfl) rfl)
    (ring_stops 2 (by omega) P9 m k m2 m8 k2 k8 _ S4) kpC_t kpC_b (Below.refl _ _) ?hps
    (fun pre W => Own W w.heap.size (.slice (some ⟨g, 0, none⟩) N N) (pre.foldl (fun zs (x : RPt (ringN m k) (m * k)) => readF xs zs x.1) (List.replicate N 0)) ∧ Blk W w.heap.size 26 #[.int .i64 m, .int .i64 k, .slice (some ⟨b, off, none⟩) xs.length cc] ∧ Blk W P8 24 #[.slice (some ⟨g, 0, none⟩) N N] ∧ Rd W B (some ⟨b, off, none⟩) xs.length cc xs ∧ Below w.heap.size w W)
    (fun _ _ _ => False)
    (OwnFrom.and (ownFrom_own _ _ _ _) (OwnFrom.and (ownFrom_blk _ _ _ _) (OwnFrom.and (ownFrom_blk _ _ _ _) (OwnFrom.and (ownFrom_rd _ _ _ _ _ _ (by omega)) (ownFrom_below (Nat.le_refl _) (by omega))))))
    (fun _ _ _ _ _ hs _ _ => hs)
    ⟨O4, x4, b4, R4, HB4⟩ ?act ?assign ?body ?done ?stop
  case hps => intro x; rfl
  case assign =>
    intro l x W K hK
    gi_wp2
    exact hK
  case body =>
    rintro l pre x W ⟨O5, x5, b5, R5, HB5⟩ _
    have hmx : Try.prog.follows .mixedOrders = true := by kernel_rfl
    obtain ⟨⟨n, P⟩, hn, hP⟩ := x
    have hnN : n < N := by rw [← hN]; exact hn
    have hPx : P < xs.length := by rw [hl.out]; exact hP
    obtain ⟨_, _, y, eb, _, hyc, hy1, hy2, HY⟩ := R5.at hPx
    cases eb
    obtain ⟨zs, hzs⟩ : ∃ zs, pre.foldl (fun zs (x : RPt (ringN m k) (m * k)) => readF xs zs x.1) (List.replicate N 0) = zs := ⟨_, rfl⟩
    have hzl : zs.length = N := by rw [← hzs, read_len, List.length_replicate]
    have HS := Lib.hid (show zs.set n y = (pre ++ [(⟨(n, P), hn, hP⟩ : RPt (ringN m k) (m * k))]).foldl (fun zs (x : RPt (ringN m k) (m * k)) => readF xs zs x.1) (List.replicate N 0) by
      rw [List.foldl_append, hzs]
      simp only [List.foldl_cons, List.foldl_nil, readF]
      rw [HY.out])
    rw [hzs] at O5
    obtain ⟨old, HO⟩ : ∃ v, Hid (zs.getD n 0 = v) := ⟨_, rfl⟩
    have hold := own_at O5 (by omega) HO.out
    obtain ⟨hfz, o6, hg6⟩ := own_put O5 n y ⟨hy1, hy2⟩
    rw [HS.out] at o6
    have HN : Own ((W.setCell ⟨g, n, none⟩ (.int .i64 y)).drew) w.heap.size (.slice (some ⟨g, 0, none⟩) N N) ((pre ++ [(⟨(n, P), hn, hP⟩ : RPt (ringN m k) (m * k))]).foldl (fun zs (x : RPt (ringN m k) (m * k)) => readF xs zs x.1) (List.replicate N 0)) := o6.drewN 1
    have cx2 := x5.cell 2
    have cb0 := b5.cell 0
    have hzw := HB5.size
    replace x5 := x5.mark hg6 (fun z hz => by cases hz; exact fun e => row_ne' O5.1 x5 (by decide) (by rw [← e]; rfl))
    replace b5 := b5.mark hg6 (fun z hz => by cases hz; exact fun e => row_ne' O5.1 b5 (by decide) (by rw [← e]; rfl))
    replace R5 := R5.mark hg6 (fun z hz => by cases hz; exact Nat.le_trans hB (O5.bd g rfl).1) (Nat.le_trans hB hzw)
    replace HB5 := HB5.grown hg6 hzw (fun z hz => by cases hz; exact (O5.bd g rfl).1)
    have hn0 : (0 : Int) ≤ (n : Int) := by omega
    have hn1 : (n : Int) < (N : Int) := by omega
    have hP0 : (0 : Int) ≤ (P : Int) := by omega
    have hP1 : (P : Int) < (xs.length : Int) := by omega
    have hPP : g < P9 := by omega
    clear HS HO HY hzs o6
    gi_wp2
    refine' (fun (key23 : Bool → (_ : Prop)) => ?_) ?_
    rotate_left
    refine' (fun (key22 : Bool → (_ : Prop)) => ?_) ?_
    rotate_left
    refine' (fun (key21 : Bool → (_ : Prop)) => ?_) ?_
    rotate_left
    refine' (fun (key20 : Bool → (_ : Prop)) => ?_) ?_
    rotate_left
    refine' (fun (key19 : Bool → (_ : Prop)) => ?_) ?_
    rotate_left
    refine' (fun (key18 : Bool → (_ : Prop)) => ?_) ?_
    rotate_left
    refine' (fun (key17 : Bool → (_ : Prop)) => ?_) ?_
    rotate_left
    refine' (fun (key16 : Bool → (_ : Prop)) => ?_) ?_
    rotate_left
    refine' (fun (key15 : Bool → (_ : Prop)) => ?_) ?_
    rotate_left
    refine' (fun (key14 : Bool → (_ : Prop)) => ?_) ?_
    rotate_left
    refine' (fun (key13 : Bool → (_ : Prop)) => ?_) ?_
    rotate_left
    refine' (fun (key12 : Bool → (_ : Prop)) => ?_) ?_
    rotate_left
    refine' (fun (key11 : Bool → (_ : Prop)) => ?_) ?_
    rotate_left
    refine' (fun (key10 : Bool → (_ : Prop)) => ?_) ?_
    rotate_left
    refine' (fun (key9 : Bool → (_ : Prop)) => ?_) ?_
    rotate_left
    refine' (fun (key8 : Bool → (_ : Prop)) => ?_) ?_
    rotate_left
    refine' (fun (key7 : Bool → (_ : Prop)) => ?_) ?_
    rotate_left
    refine' (fun (key6 : Bool → (_ : Prop)) => ?_) ?_
    rotate_left
    refine' (fun (key5 : Bool → (_ : Prop)) => ?_) ?_
    rotate_left
    refine' (fun (key4 : Bool → (_ : Prop)) => ?_) ?_
    rotate_left
    refine' (fun (key3 : Bool → (_ : Prop)) => ?_) ?_
    rotate_left
    refine' (fun (key2 : Bool → (_ : Prop)) => ?_) ?_
    rotate_left
    refine' (fun (key1 : Bool → (_ : Prop)) => ?_) ?_
    rotate_left
    refine' (fun (key0 : Bool → (_ : Prop)) => ?_) ?_
    rotate_left
    refine wpIn_region_any (by assumption) ?_
    try (change wpAnyIn _ _ _ _ _ _ _ _ _ (World.drew _))
    refine wpAnyIn_ready (rs := [0, 1, 2, 4]) (by kernel_rfl) (by simp) ?_
    refine AllReadyIn.cons rfl (fun K hK => ?_) ?_
    · skip
      go_simp
      refine hK _ _ ?_
      clear hK K
      (try simp only [Act.put, List.getElem_toArray, List.getElem_cons_zero, List.setIfInBounds_toArray, List.set_cons_zero, List.set_cons_succ])
      refine wpAnyIn_ready (rs := [1, 2, 4]) (by kernel_rfl) (by simp) ?_
      refine AllReadyIn.cons rfl (fun K hK => ?_) ?_
      · skip
        go_simp
        refine hK _ _ ?_
        clear hK K
        (try simp only [Act.put, List.getElem_toArray, List.getElem_cons_zero, List.getElem_cons_succ, List.setIfInBounds_toArray, List.set_cons_zero, List.set_cons_succ])
        exact key0 true
      refine AllReadyIn.cons rfl (fun K hK => ?_) ?_
      · skip
        go_simp
        refine hK _ _ ?_
        clear hK K
        (try simp only [Act.put, List.getElem_toArray, List.getElem_cons_zero, List.getElem_cons_succ, List.setIfInBounds_toArray, List.set_cons_zero, List.set_cons_succ])
        exact key1 true
      refine AllReadyIn.cons rfl (fun K hK => ?_) AllReadyIn.nil
      go_simp
      refine hK _ _ ?_
      clear hK K
      (try simp only [Act.put, List.getElem_toArray, List.getElem_cons_zero, List.getElem_cons_succ, List.setIfInBounds_toArray, List.set_cons_zero, List.set_cons_succ])
      exact key2 true
    refine AllReadyIn.cons rfl (fun K hK => ?_) ?_
    · skip
      go_simp
      refine hK _ _ ?_
      clear hK K
      (try simp only [Act.put, List.getElem_toArray, List.getElem_cons_zero, List.getElem_cons_succ, List.setIfInBounds_toArray, List.set_cons_zero, List.set_cons_succ])
      refine wpAnyIn_ready (rs := [0, 2, 4]) (by kernel_rfl) (by simp) ?_
      refine AllReadyIn.cons rfl (fun K hK => ?_) ?_
      · skip
        go_simp
        refine hK _ _ ?_
        clear hK K
        (try simp only [Act.put, List.getElem_toArray, List.getElem_cons_zero, List.setIfInBounds_toArray, List.set_cons_zero, List.set_cons_succ])
        exact key0 true
      refine AllReadyIn.cons rfl (fun K hK => ?_) ?_
      · skip
        go_simp
        refine hK _ _ ?_
        clear hK K
        (try simp only [Act.put, List.getElem_toArray, List.getElem_cons_zero, List.getElem_cons_succ, List.setIfInBounds_toArray, List.set_cons_zero, List.set_cons_succ])
        exact key3 true
      refine AllReadyIn.cons rfl (fun K hK => ?_) AllReadyIn.nil
      go_simp
      refine hK _ _ ?_
      clear hK K
      (try simp only [Act.put, List.getElem_toArray, List.getElem_cons_zero, List.getElem_cons_succ, List.setIfInBounds_toArray, List.set_cons_zero, List.set_cons_succ])
      exact key4 true
    refine AllReadyIn.cons rfl (fun K hK => ?_) ?_
    · skip
      go_simp
      refine hK _ _ ?_
      clear hK K
      (try simp only [Act.put, List.getElem_toArray, List.getElem_cons_zero, List.getElem_cons_succ, List.setIfInBounds_toArray, List.set_cons_zero, List.set_cons_succ])
      refine wpAnyIn_ready (rs := [0, 1, 3, 4]) (by kernel_rfl) (by simp) ?_
      refine AllReadyIn.cons rfl (fun K hK => ?_) ?_
      · skip
        go_simp
        refine hK _ _ ?_
        clear hK K
        (try simp only [Act.put, List.getElem_toArray, List.getElem_cons_zero, List.setIfInBounds_toArray, List.set_cons_zero, List.set_cons_succ])
        exact key1 true
      refine AllReadyIn.cons rfl (fun K hK => ?_) ?_
      · skip
        go_simp
        refine hK _ _ ?_
        clear hK K
        (try simp only [Act.put, List.getElem_toArray, List.getElem_cons_zero, List.getElem_cons_succ, List.setIfInBounds_toArray, List.set_cons_zero, List.set_cons_succ])
        exact key3 true
      refine AllReadyIn.cons rfl (fun K hK => ?_) ?_
      · skip
        go_simp
        refine hK _ _ ?_
        clear hK K
        (try simp only [Act.put, List.getElem_toArray, List.getElem_cons_zero, List.getElem_cons_succ, List.setIfInBounds_toArray, List.set_cons_zero, List.set_cons_succ])
        refine wpAnyIn_ready (rs := [0, 1, 4]) (by kernel_rfl) (by simp) ?_
        refine AllReadyIn.cons rfl (fun K hK => ?_) ?_
        · skip
          go_simp
          refine hK _ _ ?_
          clear hK K
          (try simp only [Act.put, List.getElem_toArray, List.getElem_cons_zero, List.setIfInBounds_toArray, List.set_cons_zero, List.set_cons_succ])
          exact key8 true
        refine AllReadyIn.cons rfl (fun K hK => ?_) ?_
        · skip
          go_simp
          refine hK _ _ ?_
          clear hK K
          (try simp only [Act.put, List.getElem_toArray, List.getElem_cons_zero, List.getElem_cons_succ, List.setIfInBounds_toArray, List.set_cons_zero, List.set_cons_succ])
          exact key10 true
        refine AllReadyIn.cons rfl (fun K hK => ?_) AllReadyIn.nil
        go_simp
        refine hK _ _ ?_
        clear hK K
        (try simp only [Act.put, List.getElem_toArray, List.getElem_cons_zero, List.getElem_cons_succ, List.setIfInBounds_toArray, List.set_cons_zero, List.set_cons_succ])
        exact key12 true
      refine AllReadyIn.cons rfl (fun K hK => ?_) AllReadyIn.nil
      go_simp
      refine hK _ _ ?_
      clear hK K
      (try simp only [Act.put, List.getElem_toArray, List.getElem_cons_zero, List.getElem_cons_succ, List.setIfInBounds_toArray, List.set_cons_zero, List.set_cons_succ])
      exact key5 true
    refine AllReadyIn.cons rfl (fun K hK => ?_) AllReadyIn.nil
    go_simp
    refine hK _ _ ?_
    clear hK K
    (try simp only [Act.put, List.getElem_toArray, List.getElem_cons_zero, List.getElem_cons_succ, List.setIfInBounds_toArray, List.set_cons_zero, List.set_cons_succ])
    refine wpAnyIn_ready (rs := [0, 1, 2]) (by kernel_rfl) (by simp) ?_
    refine AllReadyIn.cons rfl (fun K hK => ?_) ?_
    · skip
      go_simp
      refine hK _ _ ?_
      clear hK K
      (try simp only [Act.put, List.getElem_toArray, List.getElem_cons_zero, List.setIfInBounds_toArray, List.set_cons_zero, List.set_cons_succ])
      exact key2 true
    refine AllReadyIn.cons rfl (fun K hK => ?_) ?_
    · skip
      go_simp
      refine hK _ _ ?_
      clear hK K
      (try simp only [Act.put, List.getElem_toArray, List.getElem_cons_zero, List.getElem_cons_succ, List.setIfInBounds_toArray, List.set_cons_zero, List.set_cons_succ])
      exact key4 true
    refine AllReadyIn.cons rfl (fun K hK => ?_) AllReadyIn.nil
    go_simp
    refine hK _ _ ?_
    clear hK K
    (try simp only [Act.put, List.getElem_toArray, List.getElem_cons_zero, List.getElem_cons_succ, List.setIfInBounds_toArray, List.set_cons_zero, List.set_cons_succ])
    exact key5 true
    intro _
    refine wpAnyIn_ready (rs := [2, 4]) (by kernel_rfl) (by simp) ?_
    refine AllReadyIn.cons rfl (fun K hK => ?_) ?_
    · skip
      go_simp
      refine hK _ _ ?_
      clear hK K
      (try simp only [Act.put, List.getElem_toArray, List.getElem_cons_zero, List.getElem_cons_succ, List.setIfInBounds_toArray, List.set_cons_zero, List.set_cons_succ])
      exact key6 true
    refine AllReadyIn.cons rfl (fun K hK => ?_) AllReadyIn.nil
    go_simp
    refine hK _ _ ?_
    clear hK K
    (try simp only [Act.put, List.getElem_toArray, List.getElem_cons_zero, List.getElem_cons_succ, List.setIfInBounds_toArray, List.set_cons_zero, List.set_cons_succ])
    exact key7 true
    intro _
    refine wpAnyIn_ready (rs := [1, 3, 4]) (by kernel_rfl) (by simp) ?_
    refine AllReadyIn.cons rfl (fun K hK => ?_) ?_
    · skip
      go_simp
      refine hK _ _ ?_
      clear hK K
      (try simp only [Act.put, List.getElem_toArray, List.getElem_cons_zero, List.getElem_cons_succ, List.setIfInBounds_toArray, List.set_cons_zero, List.set_cons_succ])
      exact key6 true
    refine AllReadyIn.cons rfl (fun K hK => ?_) ?_
    · skip
      go_simp
      refine hK _ _ ?_
      clear hK K
      (try simp only [Act.put, List.getElem_toArray, List.getElem_cons_zero, List.getElem_cons_succ, List.setIfInBounds_toArray, List.set_cons_zero, List.set_cons_succ])
      exact key8 true
    refine AllReadyIn.cons rfl (fun K hK => ?_) AllReadyIn.nil
    go_simp
    refine hK _ _ ?_
    clear hK K
    (try simp only [Act.put, List.getElem_toArray, List.getElem_cons_zero, List.getElem_cons_succ, List.setIfInBounds_toArray, List.set_cons_zero, List.set_cons_succ])
    exact key9 true
    intro _
    refine wpAnyIn_ready (rs := [1, 2]) (by kernel_rfl) (by simp) ?_
    refine AllReadyIn.cons rfl (fun K hK => ?_) ?_
    · skip
      go_simp
      refine hK _ _ ?_
      clear hK K
      (try simp only [Act.put, List.getElem_toArray, List.getElem_cons_zero, List.getElem_cons_succ, List.setIfInBounds_toArray, List.set_cons_zero, List.set_cons_succ])
      exact key7 true
    refine AllReadyIn.cons rfl (fun K hK => ?_) AllReadyIn.nil
    go_simp
    refine hK _ _ ?_
    clear hK K
    (try simp only [Act.put, List.getElem_toArray, List.getElem_cons_zero, List.getElem_cons_succ, List.setIfInBounds_toArray, List.set_cons_zero, List.set_cons_succ])
    exact key9 true
    intro _
    refine wpAnyIn_ready (rs := [0, 3, 4]) (by kernel_rfl) (by simp) ?_
    refine AllReadyIn.cons rfl (fun K hK => ?_) ?_
    · skip
      go_simp
      refine hK _ _ ?_
      clear hK K
      (try simp only [Act.put, List.getElem_toArray, List.getElem_cons_zero, List.setIfInBounds_toArray, List.set_cons_zero, List.set_cons_succ])
      exact key6 true
    refine AllReadyIn.cons rfl (fun K hK => ?_) ?_
    · skip
      go_simp
      refine hK _ _ ?_
      clear hK K
      (try simp only [Act.put, List.getElem_toArray, List.getElem_cons_zero, List.getElem_cons_succ, List.setIfInBounds_toArray, List.set_cons_zero, List.set_cons_succ])
      exact key10 true
    refine AllReadyIn.cons rfl (fun K hK => ?_) AllReadyIn.nil
    go_simp
    refine hK _ _ ?_
    clear hK K
    (try simp only [Act.put, List.getElem_toArray, List.getElem_cons_zero, List.getElem_cons_succ, List.setIfInBounds_toArray, List.set_cons_zero, List.set_cons_succ])
    exact key11 true
    intro _
    refine wpAnyIn_ready (rs := [0, 2]) (by kernel_rfl) (by simp) ?_
    refine AllReadyIn.cons rfl (fun K hK => ?_) ?_
    · skip
      go_simp
      refine hK _ _ ?_
      clear hK K
      (try simp only [Act.put, List.getElem_toArray, List.getElem_cons_zero, List.setIfInBounds_toArray, List.set_cons_zero, List.set_cons_succ])
      exact key7 true
    refine AllReadyIn.cons rfl (fun K hK => ?_) AllReadyIn.nil
    go_simp
    refine hK _ _ ?_
    clear hK K
    (try simp only [Act.put, List.getElem_toArray, List.getElem_cons_zero, List.getElem_cons_succ, List.setIfInBounds_toArray, List.set_cons_zero, List.set_cons_succ])
    exact key11 true
    intro _
    refine wpAnyIn_ready (rs := [0, 1, 3]) (by kernel_rfl) (by simp) ?_
    refine AllReadyIn.cons rfl (fun K hK => ?_) ?_
    · skip
      go_simp
      refine hK _ _ ?_
      clear hK K
      (try simp only [Act.put, List.getElem_toArray, List.getElem_cons_zero, List.setIfInBounds_toArray, List.set_cons_zero, List.set_cons_succ])
      exact key9 true
    refine AllReadyIn.cons rfl (fun K hK => ?_) ?_
    · skip
      go_simp
      refine hK _ _ ?_
      clear hK K
      (try simp only [Act.put, List.getElem_toArray, List.getElem_cons_zero, List.getElem_cons_succ, List.setIfInBounds_toArray, List.set_cons_zero, List.set_cons_succ])
      exact key11 true
    refine AllReadyIn.cons rfl (fun K hK => ?_) AllReadyIn.nil
    go_simp
    refine hK _ _ ?_
    clear hK K
    (try simp only [Act.put, List.getElem_toArray, List.getElem_cons_zero, List.getElem_cons_succ, List.setIfInBounds_toArray, List.set_cons_zero, List.set_cons_succ])
    exact key12 true
    intro _
    refine wpAnyIn_ready (rs := [3, 4]) (by kernel_rfl) (by simp) ?_
    refine AllReadyIn.cons rfl (fun K hK => ?_) ?_
    · skip
      go_simp
      refine hK _ _ ?_
      clear hK K
      (try simp only [Act.put, List.getElem_toArray, List.getElem_cons_zero, List.getElem_cons_succ, List.setIfInBounds_toArray, List.set_cons_zero, List.set_cons_succ])
      exact key13 true
    refine AllReadyIn.cons rfl (fun K hK => ?_) AllReadyIn.nil
    go_simp
    refine hK _ _ ?_
    clear hK K
    (try simp only [Act.put, List.getElem_toArray, List.getElem_cons_zero, List.getElem_cons_succ, List.setIfInBounds_toArray, List.set_cons_zero, List.set_cons_succ])
    exact key14 true
    intro _
    refine wpAnyIn_ready (rs := [2]) (by kernel_rfl) (by simp) ?_
    refine AllReadyIn.cons rfl (fun K hK => ?_) AllReadyIn.nil
    go_simp
    refine hK _ _ ?_
    clear hK K
    (try simp only [Act.put, List.getElem_toArray, List.getElem_cons_zero, List.getElem_cons_succ, List.setIfInBounds_toArray, List.set_cons_zero, List.set_cons_succ])
    exact key14 true
    intro _
    refine wpAnyIn_ready (rs := [1, 4]) (by kernel_rfl) (by simp) ?_
    refine AllReadyIn.cons rfl (fun K hK => ?_) ?_
    · skip
      go_simp
      refine hK _ _ ?_
      clear hK K
      (try simp only [Act.put, List.getElem_toArray, List.getElem_cons_zero, List.getElem_cons_succ, List.setIfInBounds_toArray, List.set_cons_zero, List.set_cons_succ])
      exact key13 true
    refine AllReadyIn.cons rfl (fun K hK => ?_) AllReadyIn.nil
    go_simp
    refine hK _ _ ?_
    clear hK K
    (try simp only [Act.put, List.getElem_toArray, List.getElem_cons_zero, List.getElem_cons_succ, List.setIfInBounds_toArray, List.set_cons_zero, List.set_cons_succ])
    exact key15 true
    intro _
    refine wpAnyIn_ready (rs := [1, 3]) (by kernel_rfl) (by simp) ?_
    refine AllReadyIn.cons rfl (fun K hK => ?_) ?_
    · skip
      go_simp
      refine hK _ _ ?_
      clear hK K
      (try simp only [Act.put, List.getElem_toArray, List.getElem_cons_zero, List.getElem_cons_succ, List.setIfInBounds_toArray, List.set_cons_zero, List.set_cons_succ])
      exact key14 true
    refine AllReadyIn.cons rfl (fun K hK => ?_) AllReadyIn.nil
    go_simp
    refine hK _ _ ?_
    clear hK K
    (try simp only [Act.put, List.getElem_toArray, List.getElem_cons_zero, List.getElem_cons_succ, List.setIfInBounds_toArray, List.set_cons_zero, List.set_cons_succ])
    exact key15 true
    intro _
    refine wpAnyIn_ready (rs := [0, 4]) (by kernel_rfl) (by simp) ?_
    refine AllReadyIn.cons rfl (fun K hK => ?_) ?_
    · skip
      go_simp
      refine hK _ _ ?_
      clear hK K
      (try simp only [Act.put, List.getElem_toArray, List.getElem_cons_zero, List.setIfInBounds_toArray, List.set_cons_zero, List.set_cons_succ])
      exact key13 true
    refine AllReadyIn.cons rfl (fun K hK => ?_) AllReadyIn.nil
    go_simp
    refine hK _ _ ?_
    clear hK K
    (try simp only [Act.put, List.getElem_toArray, List.getElem_cons_zero, List.getElem_cons_succ, List.setIfInBounds_toArray, List.set_cons_zero, List.set_cons_succ])
    exact key16 true
    intro _
    refine wpAnyIn_ready (rs := [0, 3]) (by kernel_rfl) (by simp) ?_
    refine AllReadyIn.cons rfl (fun K hK => ?_) ?_
    · skip
      go_simp
      refine hK _ _ ?_
      clear hK K
      (try simp only [Act.put, List.getElem_toArray, List.getElem_cons_zero, List.setIfInBounds_toArray, List.set_cons_zero, List.set_cons_succ])
      exact key14 true
    refine AllReadyIn.cons rfl (fun K hK => ?_) AllReadyIn.nil
    go_simp
    refine hK _ _ ?_
    clear hK K
    (try simp only [Act.put, List.getElem_toArray, List.getElem_cons_zero, List.getElem_cons_succ, List.setIfInBounds_toArray, List.set_cons_zero, List.set_cons_succ])
    exact key16 true
    intro _
    refine wpAnyIn_ready (rs := [0, 1, 5]) (by kernel_rfl) (by simp) ?_
    refine AllReadyIn.cons rfl (fun K hK => ?_) ?_
    · skip
      go_simp
      refine hK _ _ ?_
      clear hK K
      (try simp only [Act.put, List.getElem_toArray, List.getElem_cons_zero, List.setIfInBounds_toArray, List.set_cons_zero, List.set_cons_succ])
      exact key15 true
    refine AllReadyIn.cons rfl (fun K hK => ?_) ?_
    · skip
      go_simp
      refine hK _ _ ?_
      clear hK K
      (try simp only [Act.put, List.getElem_toArray, List.getElem_cons_zero, List.getElem_cons_succ, List.setIfInBounds_toArray, List.set_cons_zero, List.set_cons_succ])
      exact key16 true
    refine AllReadyIn.cons rfl (fun K hK => ?_) AllReadyIn.nil
    go_simp
    refine hK _ _ ?_
    clear hK K
    (try simp only [Act.put, List.getElem_toArray, List.getElem_cons_zero, List.getElem_cons_succ, List.setIfInBounds_toArray, List.set_cons_zero, List.set_cons_succ])
    refine wpAnyIn_ready (rs := [0, 1, 6]) (by kernel_rfl) (by simp) ?_
    refine AllReadyIn.cons rfl (fun K hK => ?_) ?_
    · skip
      go_simp
      refine hK _ _ ?_
      clear hK K
      (try simp only [Act.put, List.getElem_toArray, List.getElem_cons_zero, List.setIfInBounds_toArray, List.set_cons_zero, List.set_cons_succ])
      exact key18 true
    refine AllReadyIn.cons rfl (fun K hK => ?_) ?_
    · skip
      go_simp
      refine hK _ _ ?_
      clear hK K
      (try simp only [Act.put, List.getElem_toArray, List.getElem_cons_zero, List.getElem_cons_succ, List.setIfInBounds_toArray, List.set_cons_zero, List.set_cons_succ])
      exact key19 true
    refine AllReadyIn.cons rfl (fun K hK => ?_) AllReadyIn.nil
    go_simp
    refine hK _ _ ?_
    clear hK K
    (try simp only [Act.put, List.getElem_toArray, List.getElem_cons_zero, List.getElem_cons_succ, List.setIfInBounds_toArray, List.set_cons_zero, List.set_cons_succ])
    refine wpAnyIn_ready (rs := [0, 1]) (by kernel_rfl) (by simp) ?_
    refine AllReadyIn.cons rfl (fun K hK => ?_) ?_
    · skip
      go_simp
      refine hK _ _ ?_
      clear hK K
      (try simp only [Act.put, List.getElem_toArray, List.getElem_cons_zero, List.setIfInBounds_toArray, List.set_cons_zero, List.set_cons_succ])
      exact key21 true
    refine AllReadyIn.cons rfl (fun K hK => ?_) AllReadyIn.nil
    go_simp
    refine hK _ _ ?_
    clear hK K
    (try simp only [Act.put, List.getElem_toArray, List.getElem_cons_zero, List.getElem_cons_succ, List.setIfInBounds_toArray, List.set_cons_zero, List.set_cons_succ])
    exact key22 true
    intro _
    refine wpAnyIn_ready (rs := [4]) (by kernel_rfl) (by simp) ?_
    refine AllReadyIn.cons rfl (fun K hK => ?_) AllReadyIn.nil
    go_simp
    refine hK _ _ ?_
    clear hK K
    (try simp only [Act.put, List.getElem_toArray, List.getElem_cons_zero, List.getElem_cons_succ, List.setIfInBounds_toArray, List.set_cons_zero, List.set_cons_succ])
    exact key17 true
    intro _
    refine wpAnyIn_ready (rs := [3]) (by kernel_rfl) (by simp) ?_
    refine AllReadyIn.cons rfl (fun K hK => ?_) AllReadyIn.nil
    go_simp
    refine hK _ _ ?_
    clear hK K
    (try simp only [Act.put, List.getElem_toArray, List.getElem_cons_zero, List.getElem_cons_succ, List.setIfInBounds_toArray, List.set_cons_zero, List.set_cons_succ])
    exact key17 true
    intro _
    refine wpAnyIn_ready (rs := [1, 5]) (by kernel_rfl) (by simp) ?_
    refine AllReadyIn.cons rfl (fun K hK => ?_) ?_
    · skip
      go_simp
      refine hK _ _ ?_
      clear hK K
      (try simp only [Act.put, List.getElem_toArray, List.getElem_cons_zero, List.getElem_cons_succ, List.setIfInBounds_toArray, List.set_cons_zero, List.set_cons_succ])
      exact key17 true
    refine AllReadyIn.cons rfl (fun K hK => ?_) AllReadyIn.nil
    go_simp
    refine hK _ _ ?_
    clear hK K
    (try simp only [Act.put, List.getElem_toArray, List.getElem_cons_zero, List.getElem_cons_succ, List.setIfInBounds_toArray, List.set_cons_zero, List.set_cons_succ])
    exact key18 true
    intro _
    refine wpAnyIn_ready (rs := [0, 5]) (by kernel_rfl) (by simp) ?_
    refine AllReadyIn.cons rfl (fun K hK => ?_) ?_
    · skip
      go_simp
      refine hK _ _ ?_
      clear hK K
      (try simp only [Act.put, List.getElem_toArray, List.getElem_cons_zero, List.setIfInBounds_toArray, List.set_cons_zero, List.set_cons_succ])
      exact key17 true
    refine AllReadyIn.cons rfl (fun K hK => ?_) AllReadyIn.nil
    go_simp
    refine hK _ _ ?_
    clear hK K
    (try simp only [Act.put, List.getElem_toArray, List.getElem_cons_zero, List.getElem_cons_succ, List.setIfInBounds_toArray, List.set_cons_zero, List.set_cons_succ])
    exact key19 true
    intro _
    refine wpAnyIn_ready (rs := [5]) (by kernel_rfl) (by simp) ?_
    refine AllReadyIn.cons rfl (fun K hK => ?_) AllReadyIn.nil
    go_simp
    refine hK _ _ ?_
    clear hK K
    (try simp only [Act.put, List.getElem_toArray, List.getElem_cons_zero, List.getElem_cons_succ, List.setIfInBounds_toArray, List.set_cons_zero, List.set_cons_succ])
    exact key20 true
    intro _
    refine wpAnyIn_ready (rs := [1, 6]) (by kernel_rfl) (by simp) ?_
    refine AllReadyIn.cons rfl (fun K hK => ?_) ?_
    · skip
      go_simp
      refine hK _ _ ?_
      clear hK K
      (try simp only [Act.put, List.getElem_toArray, List.getElem_cons_zero, List.getElem_cons_succ, List.setIfInBounds_toArray, List.set_cons_zero, List.set_cons_succ])
      exact key20 true
    refine AllReadyIn.cons rfl (fun K hK => ?_) AllReadyIn.nil
    go_simp
    refine hK _ _ ?_
    clear hK K
    (try simp only [Act.put, List.getElem_toArray, List.getElem_cons_zero, List.getElem_cons_succ, List.setIfInBounds_toArray, List.set_cons_zero, List.set_cons_succ])
    exact key21 true
    intro _
    refine wpAnyIn_ready (rs := [0, 6]) (by kernel_rfl) (by simp) ?_
    refine AllReadyIn.cons rfl (fun K hK => ?_) ?_
    · skip
      go_simp
      refine hK _ _ ?_
      clear hK K
      (try simp only [Act.put, List.getElem_toArray, List.getElem_cons_zero, List.setIfInBounds_toArray, List.set_cons_zero, List.set_cons_succ])
      exact key20 true
    refine AllReadyIn.cons rfl (fun K hK => ?_) AllReadyIn.nil
    go_simp
    refine hK _ _ ?_
    clear hK K
    (try simp only [Act.put, List.getElem_toArray, List.getElem_cons_zero, List.getElem_cons_succ, List.setIfInBounds_toArray, List.set_cons_zero, List.set_cons_succ])
    exact key22 true
    intro _
    refine wpAnyIn_ready (rs := [6]) (by kernel_rfl) (by simp) ?_
    refine AllReadyIn.cons rfl (fun K hK => ?_) AllReadyIn.nil
    go_simp
    refine hK _ _ ?_
    clear hK K
    (try simp only [Act.put, List.getElem_toArray, List.getElem_cons_zero, List.getElem_cons_succ, List.setIfInBounds_toArray, List.set_cons_zero, List.set_cons_succ])
    exact key23 true
    intro _
    refine wpAnyIn_ready (rs := [1]) (by kernel_rfl) (by simp) ?_
    refine AllReadyIn.cons rfl (fun K hK => ?_) AllReadyIn.nil
    go_simp
    refine hK _ _ ?_
    clear hK K
    (try simp only [Act.put, List.getElem_toArray, List.getElem_cons_zero, List.getElem_cons_succ, List.setIfInBounds_toArray, List.set_cons_zero, List.set_cons_succ])
    exact key23 true
    intro _
    refine wpAnyIn_ready (rs := [0]) (by kernel_rfl) (by simp) ?_
    refine AllReadyIn.cons rfl (fun K hK => ?_) AllReadyIn.nil
    go_simp
    refine hK _ _ ?_
    clear hK K
    (try simp only [Act.put, List.getElem_toArray, List.getElem_cons_zero, List.setIfInBounds_toArray, List.set_cons_zero, List.set_cons_succ])
    exact key23 true
    intro _
    refine wpAnyIn_ready (rs := [7]) (by kernel_rfl) (by simp) ?_
    refine AllReadyIn.cons rfl (fun K hK => ?_) AllReadyIn.nil
    go_simp
    refine hK _ _ ?_
    clear hK K
    (try simp only [Act.put, List.getElem_toArray, List.getElem_cons_zero, List.getElem_cons_succ, List.setIfInBounds_toArray, List.set_cons_zero, List.set_cons_succ])
    refine wpAnyIn_ready (rs := [8]) (by kernel_rfl) (by simp) ?_
    refine AllReadyIn.cons rfl (fun K hK => ?_) AllReadyIn.nil
    go_simp
    refine hK _ _ ?_
    clear hK K
    (try simp only [Act.put, List.getElem_toArray, List.getElem_cons_zero, List.getElem_cons_succ, List.setIfInBounds_toArray, List.set_cons_zero, List.set_cons_succ])
    refine wpAnyIn_done (by kernel_rfl) ?_ _
    gi_wp2
    exact ⟨(KeepsOthers.drew W).from _ |>.trans ((KeepsOthers.setCell _ _ _).from _), fun j cs t fz hj hw => kpC_put (p := P9) (W := W.drew) (by show g < P9; omega) j cs t fz hj hw, HN, x5, b5, R5.drew, belowD HB5⟩
  case done =>
    rintro D ys W hD hys ⟨O5, x5, b5, R5, HB5⟩ hK
    have HE := Lib.hid (show ys.foldl (fun zs (x : RPt (ringN m k) (m * k)) => readF xs zs x.1) (List.replicate N 0) = ringL m k xs by
      have := read_all (m := m) (k := k) (xs := xs) (zs := List.replicate N 0) (by rw [List.length_replicate, hN])
      rw [← hys, List.foldl_map] at this
      exact this)
    rw [HE.out] at O5
    have hrow := ownsRow_putObj O5.1 (.deferred none) hK rfl
    have hc := b5.cell 0
    gi_wp2
    refine ⟨by simp, .inl ⟨_, _, rfl, run_takeDeferred hK, ?_⟩⟩
    refine ⟨.tuple #[.slice (some ⟨g, 0, none⟩) N N, .bool true], (by simp [results, Try.results41, go_sem]), some ⟨g, 0, none⟩, N, by rw [ringL_len, hN], ⟨by rw [ringL_len] at hrow ⊢; rw [hN] at hrow ⊢; exact hrow, O5.2⟩, HB5.trans (belowK_b (w := w) (Nat.le_refl _) W D _ _ (by omega) hK rfl rfl)⟩
  case stop =>
    rintro D c pre W _ _ h _
    exact h.elim
end Go.Proofs.Ytjfdcmdgpeeabaa
