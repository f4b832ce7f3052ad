/- The walk of the model's l12Areas: the numbers of the areas. Condition: a valid chart. -/
import Derived.Test.YtpnmnkdnlajfiaaNextM
import Derived.Test.YtpnmnkdnlajfiaaAppAt
import Derived.StillTailTactics
namespace Go.Proofs.Ytpnmnkdnlajfiaa
open Go.RowKit

/-- What stays as it was while a chart is worked on: its box, its knots, all that is older. -/
structure Cx (w : World) (m k b off c B : Nat) (xs : List Int) (wr : World) : Prop where
  blk : Blk wr w.heap.size 26 #[.int .i64 m, .int .i64 k, .slice (some ⟨b, off, none⟩) xs.length c]
  rd : Rd wr B (some ⟨b, off, none⟩) xs.length c xs
  bel : Below w.heap.size w wr
  lo : B ≤ w.heap.size
section
variable {w wr w' : World} {m k b off c B : Nat} {xs : List Int}
theorem Cx.start (h : Rd w B (some ⟨b, off, none⟩) xs.length c xs) (hB : B ≤ w.heap.size) : Cx w m k b off c B xs (w.alloc (.cells #[.int .i64 m, .int .i64 k, .slice (some ⟨b, off, none⟩) xs.length c] 26)) :=
  ⟨Blk.new w _ _, h.alloc hB _, (Below.refl _ _).alloc (Nat.le_refl _) _, hB⟩
theorem Cx.sz (h : Cx w m k b off c B xs wr) : w.heap.size + 1 ≤ wr.heap.size := h.blk.lt
theorem Cx.all (h : Cx w m k b off c B xs wr) (hb : Below wr.heap.size wr w') : Cx w m k b off c B xs w' :=
  ⟨h.blk.all hb, h.rd.all hb (by have := h.lo; have := h.sz; omega), h.bel.trans (hb.mono (by have := h.sz; omega)), h.lo⟩
theorem Cx.drewN (h : Cx w m k b off c B xs wr) (q : Nat) : Cx w m k b off c B xs (wr.drewN q) := ⟨h.blk, h.rd.drewN q, belowN h.bel q, h.lo⟩
theorem Cx.alloc (h : Cx w m k b off c B xs wr) (o : Obj) : Cx w m k b off c B xs (wr.alloc o) := h.all ((Below.refl _ _).alloc (Nat.le_refl _) o)
theorem Cx.mark (h : Cx w m k b off c B xs wr) {row : Option Nat} (hg : wr.grownBy w' row) (hr : ∀ q, row = some q → w.heap.size + 1 ≤ q) : Cx w m k b off c B xs w' :=
  ⟨h.blk.mark hg (fun q hq e => by have := hr q hq; omega), h.rd.mark hg (fun q hq => by have := hr q hq; have := h.lo; omega) (by have := h.lo; have := h.sz; omega),
    h.bel.grown hg (by have := h.sz; omega) (fun q hq => by have := hr q hq; omega), h.lo⟩
theorem Cx.c0 (h : Cx w m k b off c B xs wr) : wr.cell? ⟨w.heap.size, 0, none⟩ = some (.int .i64 m) := h.blk.cell 0
theorem Cx.c1 (h : Cx w m k b off c B xs wr) : wr.cell? ⟨w.heap.size, 1, none⟩ = some (.int .i64 k) := h.blk.cell 1
theorem Cx.c2 (h : Cx w m k b off c B xs wr) : wr.cell? ⟨w.heap.size, 2, none⟩ = some (.slice (some ⟨b, off, none⟩) xs.length c) := h.blk.cell 2
theorem Cx.knot (h : Cx w m k b off c B xs wr) {x : Nat} {v : Int} (hx : x < xs.length) (hv : xs.getD x 0 = v) : wr.cell? ⟨b, off + x, none⟩ = some (.int .i64 v) := by
  obtain ⟨b', off', y, e, _, hc, _, _, HY⟩ := h.rd.at hx
  cases e
  rw [hc, ← hv, HY.out]
end
/-- The owned block is another one. -/
def ND (g : Nat) (v : Value) : Prop := ∀ j, v.ownBlock = some j → j ≠ g
theorem Lab.flood {m n i t j x y : Nat} {xs : List Int} {lab : Nat → Int} {q L : List Nat} (h : Lab m xs lab n i) (hi : i < xs.length) (hn : lab i < 0) (hf : Flood m xs i q t L j) (hx : q[t]? = some x) (hL : ∀ y ∈ L, Nb m xs.length x y) (hy : L[j]? = some y) (h0 : ¬ labQ lab n q y < 0) : y ∈ q ∨ xs.getD i 0 ≠ xs.getD y 0 := by
  by_cases hq : y ∈ q
  · exact .inl hq
  · refine .inr fun e => h0 ?_
    rw [labQ_out hq]
    have hr := hf.reach x (List.mem_of_getElem? hx)
    exact h.out hi hn (hr.step ⟨hL y (List.mem_of_getElem? hy), hr.col.symm.trans e⟩)
theorem labQ_set {n : Nat} {xs L : List Int} {lab : Nat → Int} {q : List Nat} {y : Nat} (hl : L.length = xs.length) (h : ∀ x, x < xs.length → L.getD x 0 = labQ lab n q x) (hy : y < xs.length) : ∀ x, x < xs.length → (L.set y n).getD x 0 = labQ lab n (q ++ [y]) x := by
  intro x hx
  by_cases e : x = y
  · subst e
    rw [labQ_in (by simp), List.getD_eq_getElem?_getD, List.getElem?_set_self (by omega)]; rfl
  · rw [List.getD_eq_getElem?_getD, List.getElem?_set_ne (fun h => e h.symm), ← List.getD_eq_getElem?_getD, h x hx]
    by_cases hq : x ∈ q
    · rw [labQ_in hq, labQ_in (by simp [hq])]
    · rw [labQ_out hq, labQ_out (by simp [hq, e])]
theorem labQ_set0 {n : Nat} {xs L : List Int} {lab : Nat → Int} {y : Nat} (hl : L.length = xs.length) (h : ∀ x, x < xs.length → L.getD x 0 = lab x) (hy : y < xs.length) : ∀ x, x < xs.length → (L.set y n).getD x 0 = labQ lab n [y] x :=
  labQ_set (q := []) hl (fun x hx => by rw [labQ_out (by simp)]; exact h x hx) hy
theorem lab_fit {m n i : Nat} {xs : List Int} {lab : Nat → Int} (h : Lab m xs lab n i) (hi : i ≤ xs.length) (h64 : xs.length ≤ 64) : n ≤ 64 := by have := h.le; omega
theorem nd_lt {v : Value} {g P z n c : Nat} (hbd : ∀ k, v.ownBlock = some k → P ≤ k ∧ k < z) (hg : g < P) : ∀ k k', v.ownBlock = some k → (Value.slice (some ⟨g, 0, none⟩) n c).ownBlock = some k' → k ≠ k' := fun k k' e e' => by
  have h1 : g = k' := by simpa [Value.ownBlock] using e'
  have := (hbd k e).1
  omega
theorem own_lit1 {w : World} {lo P : Nat} {x : Int} (hP : w.heap.size = P) (hlo : lo ≤ P) (hx : I64 x) : Own (w.alloc (.cells #[.int .i64 x] 3)) lo (.slice (some ⟨P, 0, none⟩) 1 1) [x] := by
  subst hP
  exact ⟨World.ownsRow_lit w #[.int .i64 x] 1 hlo (by unfold maxLen; omega) rfl, fun y hy => by simp at hy; subst hy; exact hx⟩
theorem l12Next_eq (m k i : Nat) (NL : List Nat) (v : Value) (w : World) (hm : 1 ≤ m) (hm8 : m ≤ 8) (hk1 : 1 ≤ k) (hk8 : k ≤ 8) (hi : i < m * k) (hNL : nextM m k i = NL) :
    Calls Try.prog 75 #[chartV m k v, .int .i64 i] w fun e w' => ∃ A c, e = .returned (.slice A NL.length c) ∧ Own w' w.heap.size (.slice A NL.length c) (upI NL) ∧ Below w.heap.size w w' := by
  subst hNL
  refine (l12Next_any m k i v w hm hm8 hk1 hk8 hi).mono ?_
  rintro e w' ⟨A, c, h1, h2, h3⟩
  rw [upI_len] at h1 h2
  exact ⟨A, c, h1, h2, h3⟩
def AreasOut (w : World) (m : Nat) (xs : List Int) (e : Ending) (w' : World) : Prop :=
  ∃ A c, e = .returned (.tuple #[.slice A xs.length c, .int .i64 (cntOf m xs : Nat)]) ∧ Own w' w.heap.size (.slice A xs.length c) (labsOf m xs) ∧ Below w.heap.size w w' ∧ IsLabs m xs (labsOf m xs) (cntOf m xs)

set_option maxRecDepth 100000 in
set_option maxHeartbeats 8000000 in
theorem l12Areas_any (m k b off c B : Nat) (xs : List Int) (w : World) (h : Rd w B (some ⟨b, off, none⟩) xs.length c xs) (hB : B ≤ w.heap.size) (hm : 1 ≤ m) (hm8 : m ≤ 8) (hk1 : 1 ≤ k) (hk8 : k ≤ 8) (hl : Hid (xs.length = m * k)) :
    Calls Try.prog 60 #[chartV m k (.slice (some ⟨b, off, none⟩) xs.length c)] w (AreasOut w m xs) := by
  have h64 : xs.length ≤ 64 := by have := Nat.mul_le_mul hm8 hk8; rw [hl.out]; omega
  have hN1 : 1 ≤ xs.length := by have := Nat.mul_le_mul hm hk1; rw [hl.out]; omega
  have o0 : Own ((w.alloc (.cells #[.int .i64 m, .int .i64 k, .slice (some ⟨b, off, none⟩) xs.length c] 26)).alloc (.cells #[] 3)) (w.heap.size + 1) (.slice (some ⟨w.heap.size + 1, 0, none⟩) 0 0) [] := by simpa using Own.empty (w := w.alloc (.cells #[.int .i64 m, .int .i64 k, .slice (some ⟨b, off, none⟩) xs.length c] 26)) (lo := w.heap.size + 1) (by simp)
  have x0 := (Cx.start (m := m) (k := k) h hB).alloc (.cells #[] 3)
  clear h
  go_enter Try.func60, Try.ntmps60
  go_wp2
  go_loopw [4, 5] (fun s4 s5 wr => ∃ (i : Nat) (A : Option Addr) (c' : Nat) (L : List Int), i ≤ xs.length ∧ s5 = .int .i64 i ∧ s4 = .slice A i c' ∧ Hid (L = List.replicate i (-1)) ∧ Own wr (w.heap.size + 1) (.slice A i c') L ∧ Cx w m k b off c B xs wr) (fun _ s5 _ => xs.length - (intOf s5).toNat)
  case atStart => exact ⟨0, _, 0, [], Nat.zero_le _, rfl, rfl, rfl, o0, x0⟩
  case round =>
    clear o0 x0
    obtain ⟨i, A, c', L, hi, rfl, rfl, HL, ho, x1⟩ := hrel
    have e2 := x1.c2
    have hzz := x1.sz
    have hLi := Lib.hid (show L.length = i by rw [HL.out]; simp)
    by_cases hlt : i < xs.length
    · have hbd := ho.bd
      have hi30 : i ≤ 1073741824 := by omega
      go_wp2_with (at_builtin; refine wpList_append_one_at wr rfl (.tmp 20) (.tmp 21) 24 rfl Try.underlying24 info_int (w.heap.size + 1) i _ L (-1) hLi.out rfl rfl ho hi30 ⟨by omega, by omega⟩ hzz ?_)
      intro A9 c9 w9 ho9 hg9 _
      have x9 := x1.mark hg9 (fun q hq => (hbd q hq).1)
      have HL9 := Lib.hid (show L ++ [-1] = List.replicate (i + 1) (-1) by rw [HL.out, List.replicate_succ'])
      clear hg9 hbd x1 ho e2
      go_wp2
      go_roundw
      case rel => exact ⟨i + 1, A9, c9, _, hlt, by go_num, rfl, HL9, ho9, x9⟩
      case measure => simp [intOf]; omega
    obtain rfl : i = xs.length := by omega
    have hpos : 0 < L.length := by rw [hLi.out]; omega
    obtain ⟨g, rfl, hg1, hg2⟩ := ho.some_ hpos
    have HLab0 := Lib.hid (Lab.start m xs)
    have HL0 : Hid (L.length = xs.length ∧ ∀ x, x < xs.length → L.getD x 0 = (fun _ => (-1 : Int)) x) := Lib.hid ⟨hLi.out, fun x hx => by
      rw [HL.out, List.getD_eq_getElem?_getD, List.getElem?_replicate, if_pos hx]; rfl⟩
    clear HL hpos hlt hi hLi
    go_wp2
    clear e2 hzz
    go_loopw [6, 7] (fun s6 s7 wr => ∃ (n i : Nat) (L : List Int) (lab : Nat → Int), i ≤ xs.length ∧ s6 = .int .i64 n ∧ s7 = .int .i64 i ∧ Hid (Lab m xs lab n i) ∧ Hid (L.length = xs.length ∧ ∀ x, x < xs.length → L.getD x 0 = lab x) ∧ Own wr (w.heap.size + 1) (.slice (some ⟨g, 0, none⟩) xs.length c') L ∧ g < wr.heap.size ∧ Cx w m k b off c B xs wr) (fun _ s7 _ => xs.length - (intOf s7).toNat)
    case atStart => exact ⟨0, 0, L, _, Nat.zero_le _, rfl, rfl, HLab0, HL0, ho, hg2, x1⟩
    case round =>
      clear HLab0 HL0 ho hg2 x1
      obtain ⟨n, i, L, lab, hi, rfl, rfl, HLAB, HL, ho, hg2, x1⟩ := hrel
      have hn64 : n ≤ 64 := Nat.le_trans HLAB.out.le (by omega)
      by_cases hlt : i < xs.length
      · obtain ⟨v, hv⟩ : ∃ v, lab i = v := ⟨_, rfl⟩
        have HV := Lib.hid hv
        have ec := own_at ho (j := i) (by rw [HL.out.1]; exact hlt) ((HL.out.2 i hlt).trans hv)
        clear hv
        by_cases hv0 : 0 ≤ v
        · go_wp2
          go_roundw
          case rel => exact ⟨n, i + 1, L, lab, hlt, rfl, by go_num, Lib.hid (HLAB.out.skip (by rw [HV.out]; exact hv0)), HL, ho, hg2, x1⟩
          case measure => simp [intOf]; omega
        have HVn := Lib.hid (show lab i < 0 by rw [HV.out]; omega)
        obtain ⟨hfz, ho', hgr⟩ := own_put ho i (n : Int) ⟨by omega, by omega⟩
        have x2 := (x1.mark hgr (fun q hq => by cases hq; exact hg1)).alloc (.cells #[.int .i64 i] 3)
        have ho2 := ho'.alloc (.cells #[.int .i64 i] 3)
        have hszc : (wr.setCell ⟨g, i, none⟩ (.int .i64 n)).heap.size = wr.heap.size := by simp [World.setCell]
        have hol : Own ((wr.setCell ⟨g, i, none⟩ (.int .i64 n)).alloc (.cells #[.int .i64 i] 3)) wr.heap.size (.slice (some ⟨wr.heap.size, 0, none⟩) 1 1) (upI [i]) := by
          exact own_lit1 hszc (Nat.le_refl _) ⟨by omega, by omega⟩
        have HL2 := Lib.hid (show (L.set i n).length = xs.length ∧ ∀ x, x < xs.length → (L.set i n).getD x 0 = labQ lab n [i] x from ⟨by rw [List.length_set]; exact HL.out.1, labQ_set0 HL.out.1 HL.out.2 hlt⟩)
        have HF := Lib.hid (Flood.start m xs i [])
        clear ho ho' hgr x1 HL
        go_wp2
        clear ec hfz
        have hPg : g < wr.heap.size := hg2
        generalize hW : (wr.setCell ⟨g, i, none⟩ (.int .i64 n)).alloc (.cells #[.int .i64 i] 3) = W2 at *
        clear hW hszc hg2
        generalize wr.heap.size = P at *
        go_loopw [8, 9] (fun s8 s9 wr => ∃ (q : List Nat) (t : Nat) (A8 : Option Addr) (c8 : Nat) (L : List Int), t ≤ q.length ∧ s8 = .slice A8 q.length c8 ∧ s9 = .int .i64 t ∧ Hid (Flood m xs i q t [] 0) ∧ Hid (L.length = xs.length ∧ ∀ x, x < xs.length → L.getD x 0 = labQ lab n q x) ∧
            Own wr (w.heap.size + 1) (.slice (some ⟨g, 0, none⟩) xs.length c') L ∧ Own wr P (.slice A8 q.length c8) (upI q) ∧ P ≤ wr.heap.size ∧ Cx w m k b off c B xs wr) (fun _ s9 _ => 64 - (intOf s9).toNat)
        case atStart => exact ⟨[i], 0, _, 1, _, Nat.zero_le _, rfl, rfl, HF, HL2, ho2, hol, Nat.le_trans (Nat.le_of_lt (hol.bd _ rfl).2) (Nat.le_refl _), x2⟩
        case round =>
          clear HF HL2 ho2 hol x2
          obtain ⟨q, t, A8, c8, L, ht, rfl, rfl, HF, HL, ho, hq, hPz, x1⟩ := hrel
          have hq64 : q.length ≤ 64 := Nat.le_trans (HF.out.len hlt) h64
          by_cases htl : t < q.length
          · obtain ⟨x, HX⟩ : ∃ x, Hid (q[t]? = some x) := ⟨q[t], List.getElem?_eq_getElem htl⟩
            have hxN := HF.out.lt hlt x (List.mem_of_getElem? HX.out)
            have hxk : x < m * k := by rw [← hl.out]; exact hxN
            obtain ⟨g8, rfl, hg8, hg8b⟩ := hq.some_ (by rw [upI_len]; omega)
            have e8 := own_at hq (j := t) (by rw [upI_len]; exact htl) (upI_get HX.out)
            obtain ⟨NL, HNL⟩ : ∃ NL, Hid (nextM m k x = NL) := ⟨_, rfl⟩
            have hNL4 : NL.length ≤ 4 := by rw [← HNL.out]; exact nextM_len _ _ _
            have HNB := Lib.hid (show ∀ y, y ∈ NL ↔ Nb m xs.length x y by rw [← HNL.out, hl.out]; exact fun y => mem_nextM hm hm8 hxk y)
            have HF0 := Lib.hid (HF.out.any NL)
            have e0 := x1.c0
            have e1 := x1.c1
            have e2 := x1.c2
            have hz0 := x1.sz
            have hxb : w.heap.size < wr.heap.size := hz0
            clear HF
            go_wp2
            go_region_held3 (fun w' => w'.cell? ⟨w.heap.size, 0, none⟩ = some (.int .i64 m) ∧ w'.cell? ⟨w.heap.size, 1, none⟩ = some (.int .i64 k) ∧ w'.cell? ⟨w.heap.size, 2, none⟩ = some (.slice (some ⟨b, off, none⟩) xs.length c) ∧ w'.cell? ⟨g8, t, none⟩ = some (.int .i64 x)) (first | exact ⟨e0, e1, e2, e8⟩ | go_keep) (first | (go_at_call 75; (with_reducible refine (l12Next_eq m k x NL _ _ hm hm8 hk1 hk8 hxk HNL.out).mono ?_); rintro e w3 ⟨A3, c3, rfl, own3, hb3⟩; (try replace hb3 := below_drew' hb3); have x3 := x1.all hb3; have ho3 := ho.all hb3; have hq3 := hq.all hb3; replace e0 := cells_of hb3 e0 hxb; replace e1 := cells_of hb3 e1 hxb; replace e2 := cells_of hb3 e2 hxb; replace e8 := cells_of hb3 e8 hg8b; have hz3 := hb3.size; clear hb3))
            replace own3 : Own w3 wr.heap.size (.slice A3 NL.length c3) (upI NL) := own3
            have hnd : ∀ k k', (Value.slice (some ⟨g8, 0, none⟩) q.length c8).ownBlock = some k → (Value.slice A3 NL.length c3).ownBlock = some k' → k ≠ k' := fun k k' e e' => by
              have h1 : g8 = k := by simpa [Value.ownBlock] using e
              have := (own3.bd k' e').1
              omega
            have own4 := own3.mono hPz
            have hz4 : P ≤ w3.heap.size := Nat.le_trans hPz hz3
            clear own3 e0 e1 e2 e8 hz0 hxb ho hq x1 hg8 hg8b hz3 hPz
            go_wp2
            go_loopw [8, 11] (fun s8 s11 wr => ∃ (q : List Nat) (j : Nat) (A8 : Option Addr) (c8 : Nat) (L : List Int), j ≤ NL.length ∧ s8 = .slice A8 q.length c8 ∧ s11 = .int .i64 j ∧ Hid (Flood m xs i q t NL j) ∧ Hid (q[t]? = some x) ∧ Hid (L.length = xs.length ∧ ∀ x, x < xs.length → L.getD x 0 = labQ lab n q x) ∧
                Own wr (w.heap.size + 1) (.slice (some ⟨g, 0, none⟩) xs.length c') L ∧ Own wr P (.slice A8 q.length c8) (upI q) ∧ Own wr P (.slice A3 NL.length c3) (upI NL) ∧ Hid (∀ k k', (Value.slice A8 q.length c8).ownBlock = some k → (Value.slice A3 NL.length c3).ownBlock = some k' → k ≠ k') ∧ P ≤ wr.heap.size ∧ Cx w m k b off c B xs wr) (fun _ s11 _ => NL.length - (intOf s11).toNat)
            case atStart => exact ⟨q, 0, _, c8, L, Nat.zero_le _, rfl, rfl, HF0, HX, HL, ho3, hq3, own4, Lib.hid hnd, hz4, x3⟩
            case round =>
              clear HF0 HX HL ho3 hq3 own4 hnd hz4 x3 hq64 ht htl
              obtain ⟨q, j, A8, c8, L, hj, rfl, rfl, HF, HX, HL, ho, hq, hnx, HND, hPz, x1⟩ := hrel
              have hq64 : q.length ≤ 64 := Nat.le_trans (HF.out.len hlt) h64
              have htl : t < q.length := (List.getElem?_eq_some_iff.1 HX.out).1
              by_cases hjl : j < NL.length
              · obtain ⟨y, HY⟩ : ∃ y, Hid (NL[j]? = some y) := ⟨NL[j], List.getElem?_eq_getElem hjl⟩
                have hyN : y < xs.length := ((HNB.out y).1 (List.mem_of_getElem? HY.out)).2.1
                have HL1 : Hid (∀ y ∈ NL, Nb m xs.length x y) := fun y hy => (HNB.out y).1 hy
                obtain ⟨g3, rfl, _, _⟩ := hnx.some_ (by rw [upI_len]; omega)
                have e3 := own_at hnx (j := j) (by rw [upI_len]; exact hjl) (upI_get HY.out)
                obtain ⟨v2, hv2⟩ : ∃ v2, labQ lab n q y = v2 := ⟨_, rfl⟩
                have ev := own_at ho (j := y) (by rw [HL.out.1]; exact hyN) ((HL.out.2 y hyN).trans hv2)
                obtain ⟨ci, hci⟩ : ∃ ci, xs.getD i 0 = ci := ⟨_, rfl⟩
                obtain ⟨cy, hcy⟩ : ∃ cy, xs.getD y 0 = cy := ⟨_, rfl⟩
                have ei := x1.knot hlt hci
                have ey := x1.knot hyN hcy
                have HV2 := Lib.hid hv2
                have HCI := Lib.hid hci
                have HCY := Lib.hid hcy
                have e2 := x1.c2
                have hz0 := x1.sz
                clear hv2 hci hcy
                by_cases hv0 : v2 < 0
                · by_cases hcc : cy = ci
                  · have hcb : (cy == ci) = true := by simp [hcc]
                    have hyq : y ∉ q := fun hm => by have := HV2.out; rw [labQ_in hm] at this; omega
                    have HF1 := Lib.hid (HF.out.take HX.out HL1.out HY.out (by rw [HCI.out, HCY.out, hcc]) hyq)
                    have HX1 := Lib.hid (show (q ++ [y])[t]? = some x by rw [List.getElem?_append_left htl]; exact HX.out)
                    have HL2 := Lib.hid (show (L.set y n).length = xs.length ∧ ∀ x, x < xs.length → (L.set y n).getD x 0 = labQ lab n (q ++ [y]) x from ⟨by rw [List.length_set]; exact HL.out.1, labQ_set HL.out.1 HL.out.2 hyN⟩)
                    clear HF HX HL
                    subst hcc
                    go_wp2
                    go_quiet (fail)
                    have hoD := ho.drewN nq
                    have hqD := hq.drewN nq
                    have hnD := hnx.drewN nq
                    have xD := x1.drewN nq
                    have hPD : P ≤ (wr.drewN nq).heap.size := hPz
                    clear ho hq hnx x1 hPz e3 ev ei ey e2 hz0
                    generalize wr.drewN nq = wq at *
                    have e3 := own_at hnD (j := j) (by rw [upI_len]; exact hjl) (upI_get HY.out)
                    have ev := own_at hoD (j := y) (by rw [← HL2.out.1, List.length_set] at hyN; exact hyN) rfl
                    obtain ⟨hfz, ho', hgr⟩ := own_put hoD y (n : Int) ⟨by omega, by omega⟩
                    have x2 := xD.mark hgr (fun q hq => by cases hq; exact hg1)
                    have hq2 := hqD.far (a := ⟨g, y, none⟩) (fun e => by have := (hqD.bd g e).1; omega) (.int .i64 n)
                    have hn2 := hnD.far (a := ⟨g, y, none⟩) (fun e => by have := (hnD.bd g e).1; omega) (.int .i64 n)
                    have hP2 : P ≤ (wq.setCell ⟨g, y, none⟩ (.int .i64 n)).heap.size := by simpa [World.setCell] using hPD
                    have e4 := own_at hn2 (j := j) (by rw [upI_len]; exact hjl) (upI_get HY.out)
                    have hbd := hq2.bd
                    clear xD hoD hqD hnD hgr hPD
                    have hfz' := hfz
                    go_upto_region 22 with fail
                    clear e3 hfz hfz' ev
                    generalize wq.setCell ⟨g, y, none⟩ (.int .i64 n) = W1 at *
                    have hq30 : q.length ≤ 1073741824 := by omega
                    go_wp2_with (at_builtin; refine wpList_append_one_at W1 rfl (.tmp 89) (.tmp 94) 24 rfl Try.underlying24 info_int P q.length _ (upI q) (y : Int) (upI_len q) rfl rfl hq2 hq30 ⟨by omega, by omega⟩ hP2 ?_)
                    intro A9 c9 w9 ho9 hg9 hat9
                    have x9 := x2.mark hg9 (fun q hq => by have := (hbd q hq).1; omega)
                    have hoo := ho'.mark hg9 (nd_lt hbd hPg)
                    have hnn := hn2.mark hg9 HND.out
                    have hPP : P ≤ w9.heap.size := Nat.le_trans hP2 hg9.size
                    have hb3 := (hn2.bd _ rfl).2
                    have HND9 : Hid (∀ k k', (Value.slice A9 (q.length + 1) c9).ownBlock = some k → (Value.slice (some ⟨g3, 0, none⟩) NL.length c3).ownBlock = some k' → k ≠ k') := fun k k' e e' => by
                      rcases hat9 k e with h | h
                      · exact HND.out k k' h e'
                      · cases e'; omega
                    rw [← upI_app] at ho9
                    clear hat9 hg9 hbd hq2 hn2 ho' x2 e4 hb3 hP2 HND
                    go_wp2
                    go_roundw
                    case rel => exact ⟨q ++ [y], j + 1, A9, c9, _, hjl, by rw [List.length_append]; rfl, by go_num, HF1, HX1, HL2, hoo, by rw [List.length_append]; exact ho9, hnn, by rw [List.length_append]; exact HND9, hPP, x9⟩
                    case measure => simp [intOf]; omega
                  · have hcb : (cy == ci) = false := by simp [hcc]
                    have HF1 := Lib.hid (HF.out.skip HY.out (.inr (by rw [HCI.out, HCY.out]; exact fun e => hcc e.symm)))
                    clear HF
                    go_wp2
                    go_quiet (fail)
                    have hoD := ho.drewN nq
                    have hqD := hq.drewN nq
                    have hnD := hnx.drewN nq
                    have xD := x1.drewN nq
                    have hPD : P ≤ (wr.drewN nq).heap.size := hPz
                    clear ho hq hnx x1 hPz e3 ev ei ey e2 hz0
                    generalize wr.drewN nq = wq at *
                    go_wp2
                    go_roundw
                    case rel => exact ⟨q, j + 1, A8, c8, L, hjl, rfl, by go_num, HF1, HX, HL, hoD, hqD, hnD, HND, hPD, xD⟩
                    case measure => simp [intOf]; omega
                · have HF1 := Lib.hid (HF.out.skip HY.out (HLAB.out.flood hlt HVn.out HF.out HX.out HL1.out HY.out (by rw [HV2.out]; exact hv0)))
                  clear HF
                  have hvb : decide (v2 < 0) = false := by simp only [decide_eq_false_iff_not]; exact hv0
                  have hvg : 0 ≤ v2 := by omega
                  go_wp2
                  go_quiet (fail)
                  have hoD := ho.drewN nq
                  have hqD := hq.drewN nq
                  have hnD := hnx.drewN nq
                  have xD := x1.drewN nq
                  have hPD : P ≤ (wr.drewN nq).heap.size := hPz
                  clear ho hq hnx x1 hPz e3 ev ei ey e2 hz0
                  generalize wr.drewN nq = wq at *
                  go_wp2
                  go_roundw
                  case rel => exact ⟨q, j + 1, A8, c8, L, hjl, rfl, by go_num, HF1, HX, HL, hoD, hqD, hnD, HND, hPD, xD⟩
                  case measure => simp [intOf]; omega
              · have HF1 := Lib.hid (HF.out.next (L' := []) (by omega) HX.out (fun y hy => (HNB.out y).2 hy))
                clear HF hnx HND
                go_wp2
                go_roundw
                case rel => exact ⟨q, t + 1, A8, c8, L, htl, rfl, by go_num, HF1, HL, ho, hq, hPz, x1⟩
                case measure => simp [intOf]; omega
          · have HL2 := Lib.hid (HLAB.out.step hlt HVn.out (HF.out.all (by omega)))
            have hgz : g < wr.heap.size := by omega
            have hwn : IntKind.i64.wrap ((n : Int) + 1) = ((n + 1 : Nat) : Int) := by rw [IntWalk.i64_in _ (by omega)]; omega
            clear HF hq
            go_wp2
            go_roundw
            case rel => exact ⟨n + 1, i + 1, L, _, hlt, by go_num, by go_num, HL2, HL, ho, hgz, x1⟩
            case measure => simp [intOf]; omega
      · have HI := labs_of_lab HLAB.out (by omega) HL.out.1 HL.out.2
        obtain ⟨rfl, rfl⟩ := labs_eq HI
        go_wp2
        go_ret2
        exact ⟨_, c', rfl, ho.mono (Nat.le_succ _), x1.bel, HI⟩
end Go.Proofs.Ytpnmnkdnlajfiaa
