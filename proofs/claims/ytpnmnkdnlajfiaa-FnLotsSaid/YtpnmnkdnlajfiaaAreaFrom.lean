/- The walk of the program's areaFrom: one area is flooded. Condition: a valid chart, a place that is not taken. -/
import Derived.Test.YtpnmnkdnlajfiaaNextP
import Derived.Test.YtpnmnkdnlajfiaaSeq
namespace Go.Proofs.Ytpnmnkdnlajfiaa
open Go.RowKit

theorem grown_more {w a b : World} {g : Nat} {row : Option Nat} (h : w.grownBy a (some g)) (h2 : a.grownBy b row) (hr : ∀ k, row = some k → w.heap.size ≤ k ∨ k = g) : w.grownBy b (some g) :=
  ⟨h2.os.trans h.os, h2.tape.trans h.tape, h2.output.trans h.output, Nat.le_trans h.size h2.size, fun k hk hne => (h2.block k (Nat.lt_of_lt_of_le hk h.size) (fun e => by
    rcases hr k e.symm with g1 | g1
    · omega
    · exact hne (by rw [g1]))).trans (h.block k hk hne)⟩
theorem bl_at {w : World} {g y : Nat} {t : TypeId} {T : List Bool} {v : Bool} (h : Blk w g t (T.map Value.bool).toArray) (hy : y < T.length) (hv : T.getD y false = v) : w.cell? ⟨g, y, none⟩ = some (.bool v) := by
  rw [h.cell, List.getElem?_toArray, List.getElem?_map, List.getElem?_eq_getElem hy]
  rw [List.getD_eq_getElem?_getD, List.getElem?_eq_getElem hy] at hv
  rw [← hv]; rfl
theorem bl_set {w : World} {g y : Nat} {t : TypeId} {T : List Bool} (h : Blk w g t (T.map Value.bool).toArray) (v : Bool) : Blk (w.setCell ⟨g, y, none⟩ (.bool v)) g t ((T.set y v).map Value.bool).toArray := by
  have := h.set_ y (.bool v)
  rw [List.setIfInBounds_toArray, ← List.map_set] at this
  exact this
/-- What is taken. -/
def TkOk (xs : List Int) (T : List Bool) (lab : Nat → Int) (n : Nat) (q : List Nat) : Prop := T.length = xs.length ∧ ∀ x, x < xs.length → T.getD x false = decide (0 ≤ labQ lab n q x)
theorem TkOk.put {xs : List Int} {T : List Bool} {lab : Nat → Int} {n y : Nat} {q : List Nat} (h : TkOk xs T lab n q) (hy : y < xs.length) : TkOk xs (T.set y true) lab n (q ++ [y]) := by
  refine ⟨by rw [List.length_set]; exact h.1, fun x hx => ?_⟩
  by_cases e : x = y
  · subst e
    rw [labQ_in (by simp), List.getD_eq_getElem?_getD, List.getElem?_set_self (by rw [h.1]; exact hx)]
    simp
  · rw [List.getD_eq_getElem?_getD, List.getElem?_set_ne (fun h => e h.symm), ← List.getD_eq_getElem?_getD, h.2 x hx]
    by_cases hq : x ∈ q
    · rw [labQ_in hq, labQ_in (by simp [hq])]
    · rw [labQ_out hq, labQ_out (by simp [hq, e])]
theorem labQ_nil (lab : Nat → Int) (n x : Nat) : labQ lab n [] x = lab x := labQ_out (by simp)
structure Cg (w : World) (m k b off c B gt : Nat) (xs : List Int) (T : List Bool) (wr : World) : Prop where
  blk : Blk wr w.heap.size 26 #[.int .i64 m, .int .i64 k, .slice (some ⟨b, off, none⟩) xs.length c]
  rd : Rd wr B (some ⟨b, off, none⟩) xs.length c xs
  tk : Blk wr gt 4 (T.map Value.bool).toArray
  gr : w.grownBy wr (some gt)
  lo : B ≤ gt
  hi : gt < w.heap.size
section
variable {w wr w' : World} {m k b off c B gt : Nat} {xs : List Int} {T : List Bool}
theorem Cg.sz (h : Cg w m k b off c B gt xs T wr) : w.heap.size + 1 ≤ wr.heap.size := h.blk.lt
theorem Cg.all (h : Cg w m k b off c B gt xs T wr) (hb : Below wr.heap.size wr w') : Cg w m k b off c B gt xs T w' :=
  ⟨h.blk.all hb, h.rd.all hb (by have := h.lo; have := h.sz; have := h.hi; omega), h.tk.all hb, grown_then h.gr hb, h.lo, h.hi⟩
theorem Cg.drewN (h : Cg w m k b off c B gt xs T wr) (q : Nat) : Cg w m k b off c B gt xs T (wr.drewN q) := h.all (low_drewN wr q)
theorem Cg.alloc (h : Cg w m k b off c B gt xs T wr) (o : Obj) : Cg w m k b off c B gt xs T (wr.alloc o) := h.all ((Below.refl _ _).alloc (Nat.le_refl _) o)
theorem Cg.mark (h : Cg w m k b off c B gt xs T wr) {row : Option Nat} (hg : wr.grownBy w' row) (hr : ∀ q, row = some q → w.heap.size + 1 ≤ q) : Cg w m k b off c B gt xs T w' :=
  ⟨h.blk.mark hg (fun q hq e => by have := hr q hq; omega), h.rd.mark hg (fun q hq => by have := hr q hq; have := h.lo; have := h.hi; omega) (by have := h.lo; have := h.sz; have := h.hi; omega),
    h.tk.mark hg (fun q hq e => by have := hr q hq; have := h.hi; omega), grown_more h.gr hg (fun q hq => .inl (by have := hr q hq; omega)), h.lo, h.hi⟩
theorem Cg.take (h : Cg w m k b off c B gt xs T wr) (y : Nat) : Cg w m k b off c B gt xs (T.set y true) (wr.setCell ⟨gt, y, none⟩ (.bool true)) :=
  ⟨h.blk.far (a := ⟨gt, y, none⟩) (by have := h.hi; show w.heap.size ≠ gt; omega) _, h.rd.keep (fun b' o hb => by
    refine World.cell?_of_block ?_
    exact heap_setCell_other wr ⟨gt, y, none⟩ b' _ (by have := h.lo; show b' ≠ gt; omega)), bl_set h.tk true,
    grown_more h.gr (grown_setCell wr ⟨gt, y, none⟩ _) (fun k hk => .inr (by cases hk; rfl)), h.lo, h.hi⟩
theorem Cg.c0 (h : Cg w m k b off c B gt xs T wr) : wr.cell? ⟨w.heap.size, 0, none⟩ = some (.int .i64 m) := h.blk.cell 0
theorem Cg.c1 (h : Cg w m k b off c B gt xs T wr) : wr.cell? ⟨w.heap.size, 1, none⟩ = some (.int .i64 k) := h.blk.cell 1
theorem Cg.c2 (h : Cg w m k b off c B gt xs T wr) : wr.cell? ⟨w.heap.size, 2, none⟩ = some (.slice (some ⟨b, off, none⟩) xs.length c) := h.blk.cell 2
theorem Cg.knot (h : Cg w m k b off c B gt xs T wr) {x : Nat} {v : Int} (hx : x < xs.length) (hv : xs.getD x 0 = v) : wr.cell? ⟨b, off + x, none⟩ = some (.int .i64 v) := by
  obtain ⟨b', off', y, e, _, hc, _, _, HY⟩ := h.rd.at hx
  cases e
  rw [hc, ← hv, HY.out]
end
/-- What areaFrom leaves. -/
def FromOut (w : World) (m gt : Nat) (xs : List Int) (lab : Nat → Int) (n i : Nat) (e : Ending) (w' : World) : Prop :=
  ∃ (A : Option Addr) (c : Nat) (q : List Nat) (T : List Bool), e = .returned (.slice A q.length c) ∧ Own w' w.heap.size (.slice A q.length c) (upI q) ∧ Blk w' gt 4 (T.map Value.bool).toArray ∧
    Hid (TkOk xs T lab n q) ∧ Hid (∀ x, x ∈ q ↔ Rch m xs i x) ∧ Hid q.Nodup ∧ Hid (q[0]? = some i) ∧ w.grownBy w' (some gt)
theorem placesNextTo_eq (m k i : Nat) (NL : List Nat) (v : Value) (w : World) (hm : 1 ≤ m) (hm8 : m ≤ 8) (hk1 : 1 ≤ k) (hk8 : k ≤ 8) (hi : i < m * k) (hNL : nextP m k i = NL) :
    Calls Try.prog 74 #[chartV m k v, .int .i64 i] w fun e w' => ∃ A c, e = .returned (.slice A NL.length c) ∧ Own w' w.heap.size (.slice A NL.length c) (upI NL) ∧ Below w.heap.size w w' := by
  subst hNL
  exact placesNextTo_any m k i v w hm hm8 hk1 hk8 hi
set_option maxRecDepth 100000 in
set_option maxHeartbeats 8000000 in
theorem areaFrom_any (m k b off c B gt n i : Nat) (xs : List Int) (T : List Bool) (lab : Nat → Int) (w : World) (h : Rd w B (some ⟨b, off, none⟩) xs.length c xs) (hB : B ≤ gt) (hT : Blk w gt 4 (T.map Value.bool).toArray) (hm : 1 ≤ m) (hm8 : m ≤ 8) (hk1 : 1 ≤ k) (hk8 : k ≤ 8) (hl : Hid (xs.length = m * k))
    (hlt : i < xs.length) (HLAB : Hid (Lab m xs lab n i)) (HVn : Hid (lab i < 0)) (HTK : Hid (TkOk xs T lab n [])) :
    Calls Try.prog 58 #[chartV m k (.slice (some ⟨b, off, none⟩) xs.length c), .int .i64 i, .slice (some ⟨gt, 0, none⟩) xs.length xs.length] w (FromOut w m gt xs lab n i) := by
  have h64 : xs.length ≤ 64 := by have := Nat.mul_le_mul hm8 hk8; rw [hl.out]; omega
  have hgt := hT.lt
  have x0 : Cg w m k b off c B gt xs T (w.alloc (.cells #[.int .i64 m, .int .i64 k, .slice (some ⟨b, off, none⟩) xs.length c] 26)) :=
    ⟨Blk.new w _ _, h.alloc (by omega) _, hT.alloc _, ⟨rfl, rfl, rfl, by simp, fun q hq _ => Below.heap_alloc w _ q hq⟩, hB, hgt⟩
  have x1 := x0.alloc (.cells #[.int .i64 i] 3)
  have hol : Own ((w.alloc (.cells #[.int .i64 m, .int .i64 k, .slice (some ⟨b, off, none⟩) xs.length c] 26)).alloc (.cells #[.int .i64 i] 3)) (w.heap.size + 1) (.slice (some ⟨w.heap.size + 1, 0, none⟩) 1 1) (upI [i]) := own_lit1 (by simp) (Nat.le_refl _) ⟨by omega, by omega⟩
  clear h hT x0
  go_enter Try.func58, Try.ntmps58
  go_upto_region 2 with fail
  generalize (w.alloc (.cells #[.int .i64 m, .int .i64 k, .slice (some ⟨b, off, none⟩) xs.length c] 26)).alloc (.cells #[.int .i64 i] 3) = W1 at *
  have ec := bl_at x1.tk (y := i) (by rw [HTK.out.1]; exact hlt) rfl
  have hfz := x1.tk.frozen i
  have x2 := x1.take i
  have ho2 := hol.far (a := ⟨gt, i, none⟩) (fun e => by have := (hol.bd gt e).1; omega) (.bool true)
  have HF := Lib.hid (Flood.start m xs i [])
  have HTK2 := Lib.hid (HTK.out.put (y := i) hlt)
  clear x1 hol HTK
  go_upto_region 3 with fail
  clear ec hfz
  generalize W1.setCell ⟨gt, i, none⟩ (.bool true) = W2 at *
  go_wp2
  obtain ⟨T2, hT2⟩ : ∃ T2, T.set i true = T2 := ⟨_, rfl⟩
  rw [hT2] at x2 HTK2
  clear hT2
  go_loopw [7, 8] (fun s7 s8 wr => ∃ (q : List Nat) (t : Nat) (A8 : Option Addr) (c8 : Nat) (T : List Bool), t ≤ q.length ∧ s7 = .slice A8 q.length c8 ∧ s8 = .int .i64 t ∧ Hid (Flood m xs i q t [] 0) ∧ Hid (TkOk xs T lab n q) ∧
      Own wr (w.heap.size + 1) (.slice A8 q.length c8) (upI q) ∧ Cg w m k b off c B gt xs T wr) (fun _ s8 _ => 64 - (intOf s8).toNat)
  case atStart => exact ⟨[i], 0, _, 1, T2, Nat.zero_le _, rfl, rfl, HF, HTK2, ho2, x2⟩
  case round =>
    clear HF HTK2 ho2 x2
    obtain ⟨q, t, A8, c8, T, ht, rfl, rfl, HF, HTK, hq, x1⟩ := hrel
    have hq64 : q.length ≤ 64 := Nat.le_trans (HF.out.len hlt) h64
    by_cases htl : t < q.length
    · obtain ⟨x, HX⟩ : ∃ x, Hid (q[t]? = some x) := ⟨q[t], List.getElem?_eq_getElem htl⟩
      have hxN := HF.out.lt hlt x (List.mem_of_getElem? HX.out)
      have hxk : x < m * k := by rw [← hl.out]; exact hxN
      obtain ⟨g8, rfl, hg8, hg8b⟩ := hq.some_ (by rw [upI_len]; omega)
      have e8 := own_at hq (j := t) (by rw [upI_len]; exact htl) (upI_get HX.out)
      obtain ⟨NL, HNL⟩ : ∃ NL, Hid (nextP m k x = NL) := ⟨_, rfl⟩
      have hNL4 : NL.length ≤ 4 := by rw [← HNL.out]; exact nextP_len _ _ _
      have HNB := Lib.hid (show ∀ y, y ∈ NL ↔ Nb m xs.length x y by rw [← HNL.out, hl.out]; exact fun y => (mem_nextP y).trans (mem_nextM hm hm8 hxk y))
      have HF0 := Lib.hid (HF.out.any NL)
      have e0 := x1.c0
      have e1 := x1.c1
      have e2 := x1.c2
      have hz0 := x1.sz
      have hxb : w.heap.size < wr.heap.size := hz0
      clear HF
      go_wp2
      go_region_held3 (fun w' => w'.cell? ⟨w.heap.size, 0, none⟩ = some (.int .i64 m) ∧ w'.cell? ⟨w.heap.size, 1, none⟩ = some (.int .i64 k) ∧ w'.cell? ⟨w.heap.size, 2, none⟩ = some (.slice (some ⟨b, off, none⟩) xs.length c) ∧ w'.cell? ⟨g8, t, none⟩ = some (.int .i64 x)) (first | exact ⟨e0, e1, e2, e8⟩ | go_keep) (first | (go_at_call 74; (with_reducible refine (placesNextTo_eq m k x NL _ _ hm hm8 hk1 hk8 hxk HNL.out).mono ?_); rintro e w3 ⟨A3, c3, rfl, own3, hb3⟩; (try replace hb3 := below_drew' hb3); have x3 := x1.all hb3; have hq3 := hq.all hb3; replace e0 := cells_of hb3 e0 hxb; replace e1 := cells_of hb3 e1 hxb; replace e2 := cells_of hb3 e2 hxb; replace e8 := cells_of hb3 e8 hg8b; have hz3 := hb3.size; clear hb3))
      replace own3 : Own w3 wr.heap.size (.slice A3 NL.length c3) (upI NL) := own3
      have hnd : ∀ k k', (Value.slice (some ⟨g8, 0, none⟩) q.length c8).ownBlock = some k → (Value.slice A3 NL.length c3).ownBlock = some k' → k ≠ k' := fun k k' e e' => by
        have h1 : g8 = k := by simpa [Value.ownBlock] using e
        have := (own3.bd k' e').1
        omega
      have own4 := own3.mono hz0
      clear own3 e0 e1 e2 e8 hz0 hxb hq x1 hg8 hg8b hz3
      go_wp2
      go_loopw [7, 29] (fun s7 s29 wr => ∃ (q : List Nat) (j : Nat) (A8 : Option Addr) (c8 : Nat) (T : List Bool), j ≤ NL.length ∧ s7 = .slice A8 q.length c8 ∧ s29 = .int .i64 j ∧ Hid (Flood m xs i q t NL j) ∧ Hid (q[t]? = some x) ∧ Hid (TkOk xs T lab n q) ∧
          Own wr (w.heap.size + 1) (.slice A8 q.length c8) (upI q) ∧ Own wr (w.heap.size + 1) (.slice A3 NL.length c3) (upI NL) ∧ Hid (∀ k k', (Value.slice A8 q.length c8).ownBlock = some k → (Value.slice A3 NL.length c3).ownBlock = some k' → k ≠ k') ∧ Cg w m k b off c B gt xs T wr) (fun _ s29 _ => NL.length - (intOf s29).toNat)
      case atStart => exact ⟨q, 0, _, c8, T, Nat.zero_le _, rfl, rfl, HF0, HX, HTK, hq3, own4, Lib.hid hnd, x3⟩
      case round =>
        clear HF0 HX HTK hq3 own4 hnd x3 hq64 ht htl
        obtain ⟨q, j, A8, c8, T, hj, rfl, rfl, HF, HX, HTK, hq, hnx, HND, x1⟩ := hrel
        have hq64 : q.length ≤ 64 := Nat.le_trans (HF.out.len hlt) h64
        have htl : t < q.length := (List.getElem?_eq_some_iff.1 HX.out).1
        by_cases hjl : j < NL.length
        · obtain ⟨y, HY⟩ : ∃ y, Hid (NL[j]? = some y) := ⟨NL[j], List.getElem?_eq_getElem hjl⟩
          have hyN : y < xs.length := ((HNB.out y).1 (List.mem_of_getElem? HY.out)).2.1
          have HL1 : Hid (∀ y ∈ NL, Nb m xs.length x y) := fun y hy => (HNB.out y).1 hy
          obtain ⟨g3, rfl, _, _⟩ := hnx.some_ (by rw [upI_len]; omega)
          have e3 := own_at hnx (j := j) (by rw [upI_len]; exact hjl) (upI_get HY.out)
          obtain ⟨v2, hv2⟩ : ∃ v2, decide (0 ≤ labQ lab n q y) = v2 := ⟨_, rfl⟩
          have ev := bl_at x1.tk (y := y) (by rw [HTK.out.1]; exact hyN) ((HTK.out.2 y hyN).trans hv2)
          obtain ⟨ci, hci⟩ : ∃ ci, xs.getD i 0 = ci := ⟨_, rfl⟩
          obtain ⟨cy, hcy⟩ : ∃ cy, xs.getD y 0 = cy := ⟨_, rfl⟩
          have ei := x1.knot hlt hci
          have ey := x1.knot hyN hcy
          have HV2 := Lib.hid hv2
          have HCI := Lib.hid hci
          have HCY := Lib.hid hcy
          have e2 := x1.c2
          have hz0 := x1.sz
          clear hv2 hci hcy
          cases v2 with
          | false =>
            have hlq : ¬ 0 ≤ labQ lab n q y := of_decide_eq_false HV2.out
            by_cases hcc : cy = ci
            · have hcb : (cy == ci) = true := by simp [hcc]
              have hyq : y ∉ q := fun hm => by rw [labQ_in hm] at hlq; omega
              have HF1 := Lib.hid (HF.out.take HX.out HL1.out HY.out (by rw [HCI.out, HCY.out, hcc]) hyq)
              have HX1 := Lib.hid (show (q ++ [y])[t]? = some x by rw [List.getElem?_append_left htl]; exact HX.out)
              have HTK1 := Lib.hid (HTK.out.put hyN)
              have hyT := Lib.hid (show y < T.length by rw [HTK.out.1]; exact hyN)
              clear HF HX HTK hlq
              subst hcc
              go_wp2
              go_quiet (fail)
              have hqD := hq.drewN nq
              have hnD := hnx.drewN nq
              have xD := x1.drewN nq
              clear hq hnx x1 e3 ev ei ey e2 hz0
              generalize wr.drewN nq = wq at *
              have e3 := own_at hnD (j := j) (by rw [upI_len]; exact hjl) (upI_get HY.out)
              have ev := bl_at xD.tk (y := y) hyT.out rfl
              have hfz := xD.tk.frozen y
              have x2 := xD.take y
              have hgw := xD.hi
              have hq2 := hqD.far (a := ⟨gt, y, none⟩) (fun e => by have := (hqD.bd gt e).1; omega) (.bool true)
              have hn2 := hnD.far (a := ⟨gt, y, none⟩) (fun e => by have := (hnD.bd gt e).1; omega) (.bool true)
              have hbd := hq2.bd
              have hz2 := x2.sz
              clear xD hqD hnD
              go_upto_region 11 with fail
              clear e3 hfz ev
              generalize wq.setCell ⟨gt, y, none⟩ (.bool true) = W1 at *
              have hq30 : q.length ≤ 1073741824 := by omega
              go_wp2_with (at_builtin; refine wpList_append_one_at W1 rfl (.tmp 54) (.tmp 56) 24 rfl Try.underlying24 info_int (w.heap.size + 1) q.length _ (upI q) (y : Int) (upI_len q) rfl rfl hq2 hq30 ⟨by omega, by omega⟩ hz2 ?_)
              intro A9 c9 w9 ho9 hg9 hat9
              have x9 := x2.mark hg9 (fun q hq => (hbd q hq).1)
              have hnn := hn2.mark hg9 HND.out
              have hb3 := (hn2.bd _ rfl).2
              have HND9 : Hid (∀ k k', (Value.slice A9 (q.length + 1) c9).ownBlock = some k → (Value.slice (some ⟨g3, 0, none⟩) NL.length c3).ownBlock = some k' → k ≠ k') := fun k k' e e' => by
                rcases hat9 k e with h | h
                · exact HND.out k k' h e'
                · cases e'; omega
              rw [← upI_app] at ho9
              obtain ⟨T3, hT3⟩ : ∃ T3, T.set y true = T3 := ⟨_, rfl⟩
              rw [hT3] at x9 HTK1
              clear hat9 hg9 hbd hq2 hn2 x2 hb3 HND hT3 hyT
              go_wp2
              go_roundw
              case rel => exact ⟨q ++ [y], j + 1, A9, c9, T3, hjl, by rw [List.length_append]; rfl, by go_num, HF1, HX1, HTK1, by rw [List.length_append]; exact ho9, hnn, by rw [List.length_append]; exact HND9, x9⟩
              case measure => simp [intOf]; omega
            · have hcb : (cy == ci) = false := by simp [hcc]
              have HF1 := Lib.hid (HF.out.skip HY.out (.inr (by rw [HCI.out, HCY.out]; exact fun e => hcc e.symm)))
              clear HF hlq
              go_wp2
              go_quiet (fail)
              have hqD := hq.drewN nq
              have hnD := hnx.drewN nq
              have xD := x1.drewN nq
              clear hq hnx x1 e3 ev ei ey e2 hz0
              generalize wr.drewN nq = wq at *
              go_wp2
              go_roundw
              case rel => exact ⟨q, j + 1, A8, c8, T, hjl, rfl, by go_num, HF1, HX, HTK, hqD, hnD, HND, xD⟩
              case measure => simp [intOf]; omega
          | true =>
            have hlq : 0 ≤ labQ lab n q y := of_decide_eq_true HV2.out
            have HF1 := Lib.hid (HF.out.skip HY.out (HLAB.out.flood hlt HVn.out HF.out HX.out HL1.out HY.out (by omega)))
            clear HF hlq
            go_wp2
            go_quiet (fail)
            have hqD := hq.drewN nq
            have hnD := hnx.drewN nq
            have xD := x1.drewN nq
            clear hq hnx x1 e3 ev ei ey e2 hz0
            generalize wr.drewN nq = wq at *
            go_wp2
            go_roundw
            case rel => exact ⟨q, j + 1, A8, c8, T, hjl, rfl, by go_num, HF1, HX, HTK, hqD, hnD, HND, xD⟩
            case measure => simp [intOf]; omega
        · have HF1 := Lib.hid (HF.out.next (L' := []) (by omega) HX.out (fun y hy => (HNB.out y).2 hy))
          clear HF hnx HND
          go_wp2
          go_roundw
          case rel => exact ⟨q, t + 1, A8, c8, T, htl, rfl, by go_num, HF1, HTK, hq, x1⟩
          case measure => simp [intOf]; omega
    · have HALL := Lib.hid (HF.out.all (by omega))
      have HND := Lib.hid HF.out.nodup
      have HHD := Lib.hid HF.out.head
      clear HF
      go_wp2
      go_ret
      exact ⟨A8, c8, q, T, rfl, hq.mono (Nat.le_succ _), x1.tk, HTK, HALL, HND, HHD, x1.gr⟩
end Go.Proofs.Ytpnmnkdnlajfiaa
