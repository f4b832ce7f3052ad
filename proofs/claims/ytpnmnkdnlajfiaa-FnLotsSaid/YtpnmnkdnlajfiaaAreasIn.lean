/- The walk of the program's areasIn: the places of all areas. Condition: a valid chart. -/
import Derived.Test.YtpnmnkdnlajfiaaAreaFrom
import Derived.Test.YtpnmnkdnlajfiaaOwn2
namespace Go.Proofs.Ytpnmnkdnlajfiaa
open Go.RowKit

theorem far_of {v : Value} {lo gt : Nat} (hb : ∀ k, v.ownBlock = some k → lo ≤ k) (hg : gt < lo) : v.ownBlock = none ∨ v.ownBlock ≠ some gt := by
  cases hv : v.ownBlock with
  | none => exact .inl rfl
  | some q =>
    refine .inr fun e => ?_
    have := hb q hv
    injection e with e
    omega
/-- append of a row that a call has made to rows of the call's own. -/
theorem wpList_pushOwn {P : Program} {ops : Array Oper} {rest : List Oper} {o : Oper} {a : Act} {Q : Exit → Act → World → Prop} (hgd : o.guard = none) (wo w : World) (s x : Operand) (T : TypeId)
    (ho : o.op = .call { callee := .builtin .append, args := #[s, x], argTypes := #[T, T] }) (ht : P.underlying T = some (.slice 24)) (hinfo : (P.info? 24).map (fun i => (i.zero, i.size, i.bytes)) = some (some (.slice none 0 0), 1, 24))
    (lo gt n : Nat) (v : Value) (yss : List (List Int)) (A1 : Option Addr) (n1 c1 : Nat) (ys : List Int) (hn : yss.length = n)
    (hs : a.eval s = v) (hx : a.eval x = .slice (some ⟨w.heap.size, 0, none⟩) 1 1) (hown : Own2 wo lo v yss) (hgr : wo.grownBy w (some gt)) (hgt : gt < lo) (hrow : Own w wo.heap.size (.slice A1 n1 c1) ys) (hlen : n ≤ 1048576) (hlo : lo ≤ wo.heap.size)
    (h : ∀ A' c' w', Own2 w' lo (.slice A' (n + 1) c') (yss ++ [ys]) → w.grownBy w' v.ownBlock → wpList P ops Q rest (a.put o.dst (.slice A' (n + 1) c')) w') :
    wpList P ops Q (o :: rest) a (w.alloc (.cells #[.slice A1 n1 c1] 24)) := by
  subst hn
  obtain ⟨i0, hi, hz0, hz1, hz2⟩ := info_parts hinfo
  obtain ⟨hs', l1, l2, l3, l4⟩ := hown
  have hb2 : Below w.heap.size w (w.alloc (.cells #[.slice A1 n1 c1] 24)) := (Below.refl _ _).alloc (Nat.le_refl _) _
  have hlt0 := l2.lt
  have m2 : w.ownsRow lo 24 1 v yss.length hs' := l2.kept hgr (far_of (fun k hk => (hlt0 k hk).1) hgt)
  have m3 : ∀ (i : Nat) (h : Value) (ys : List Int), hs'[i]? = some h → yss[i]? = some ys → Own w lo h ys := fun i h ys hi hy => (l3 i h ys hi hy).kept hgr (far_of (fun k hk => ((l3 i h ys hi hy).bd k hk).1) hgt)
  have hsz := hb2.size
  have hsz0 := hgr.size
  refine wpList_append_own _ hgd s x T ho lo 24 i0 (.slice none 0 0) 1 24 ht hi hz0 hz1 hz2 rfl (by decide) v yss.length _ hs (row_all' m2 hb2) ⟨w.heap.size, 0, none⟩ 1 1 [.slice A1 n1 c1] hx rfl ?_ ?_ ?_ ?_ ?_ ?_
  · intro j u hj
    match j, hj with
    | 0, hj =>
      simp at hj; subst hj
      rw [show (⟨w.heap.size, 0, none⟩ : Addr).add 0 = ⟨w.heap.size, 0, none⟩ from rfl]
      exact (Blk.new w #[.slice A1 n1 c1] 24).cell 0
  · intro u hu; simp at hu; subst hu; rfl
  · unfold maxLen; omega
  · omega
  · simp; omega
  · intro v' w' ho' hg' _
    have hO : Own2 w' lo v' (yss ++ [ys]) := Own2.push l1 (row_all' m2 hb2) (fun i h ys hi hy => (m3 i h ys hi hy).all hb2) l4 ((hrow.mono hlo).all hb2) (fun i h hi k hk e => by
      have h1 := (l3 i h _ hi (List.getElem?_eq_getElem (by have := (List.getElem?_eq_some_iff.1 hi).1; omega))).bd k hk
      have h2 := hrow.bd k e
      omega) hg' ho'
    obtain ⟨A', c', rfl, _⟩ := hO.form
    rw [List.length_append] at hO
    have := h A' c' w' hO ⟨hg'.os, hg'.tape, hg'.output, Nat.le_trans hsz hg'.size, fun k hk hne => (hg'.block k (by omega) hne).trans (hb2.block k hk)⟩
    rwa [List.length_append]
/-- The places of each area. -/
def Grp (xs : List Int) (lab : Nat → Int) (ass : List (List Nat)) : Prop := ∀ (a : Nat) (l : List Nat), ass[a]? = some l → l.Nodup ∧ (∀ x, x ∈ l ↔ x < xs.length ∧ lab x = (a : Int)) ∧ ∃ f, l[0]? = some f
theorem Grp.step {m i : Nat} {xs : List Int} {lab : Nat → Int} {ass : List (List Nat)} {q : List Nat} (h : Grp xs lab ass) (hL : Lab m xs lab ass.length i) (hi : i < xs.length) (hn : lab i < 0) (hq : ∀ x, x ∈ q ↔ Rch m xs i x) (hd : q.Nodup) (hf : q[0]? = some i) : Grp xs (labQ lab ass.length q) (ass ++ [q]) := by
  intro a l hl
  by_cases ha : a < ass.length
  · rw [List.getElem?_append_left ha] at hl
    obtain ⟨h1, h2, h3⟩ := h a l hl
    refine ⟨h1, fun x => ?_, h3⟩
    rw [h2 x]
    by_cases hxq : x ∈ q
    · rw [labQ_in hxq]
      have := hL.out hi hn ((hq x).1 hxq)
      exact ⟨fun g => by omega, fun g => by omega⟩
    · rw [labQ_out hxq]
  · have hl0 := (List.getElem?_eq_some_iff.1 hl).1
    rw [List.length_append, List.length_singleton] at hl0
    rw [List.getElem?_append_right (by omega), show a - ass.length = 0 by omega] at hl
    simp at hl
    subst hl
    refine ⟨hd, fun x => ?_, i, hf⟩
    by_cases hxq : x ∈ q
    · rw [labQ_in hxq]
      exact ⟨fun _ => ⟨((hq x).1 hxq).lt hi, by omega⟩, fun _ => hxq⟩
    · rw [labQ_out hxq]
      refine ⟨fun g => absurd g hxq, fun ⟨g1, g2⟩ => ?_⟩
      have := (hL.rng x g1).2
      omega
theorem info_bool : (Try.prog.info? 4).map (fun i => (i.zero, i.size, i.bytes)) = some (some (.bool false), 1, 1) := by kernel_rfl
/-- The places of all areas, for good. -/
def IsGrp (m : Nat) (xs : List Int) (ass : List (List Nat)) : Prop := ass.length = cntOf m xs ∧ Grp xs (fun x => (labsOf m xs).getD x 0) ass ∧ IsLabs m xs (labsOf m xs) (cntOf m xs)
theorem grp_end {m i : Nat} {xs : List Int} {lab : Nat → Int} {ass : List (List Nat)} (h : Grp xs lab ass) (hL : Lab m xs lab ass.length i) (hi : xs.length ≤ i) : IsGrp m xs ass := by
  have hI := labs_of_lab (L := (List.range xs.length).map lab) hL hi (by simp) (fun x hx => by simp [List.getD_eq_getElem?_getD, List.getElem?_range hx])
  have he := labs_eq hI
  refine ⟨he.2, fun a l hl => ?_, ?_⟩
  · obtain ⟨h1, h2, h3⟩ := h a l hl
    refine ⟨h1, fun x => ?_, h3⟩
    rw [h2 x]
    refine and_congr_right fun hx => ?_
    show lab x = (a : Int) ↔ (labsOf m xs).getD x 0 = (a : Int)
    rw [show (labsOf m xs).getD x 0 = lab x by rw [← he.1]; simp [List.getD_eq_getElem?_getD, List.getElem?_range hx]]
  · rw [← he.1, ← he.2]; exact hI
def InOut (w : World) (m : Nat) (xs : List Int) (e : Ending) (w' : World) : Prop :=
  ∃ (A : Option Addr) (c : Nat) (ass : List (List Nat)), e = .returned (.slice A ass.length c) ∧ Own2 w' w.heap.size (.slice A ass.length c) (ass.map upI) ∧ Below w.heap.size w w' ∧ Hid (IsGrp m xs ass)
set_option maxRecDepth 100000 in
set_option maxHeartbeats 8000000 in
theorem areasIn_any (m k b off c B : Nat) (xs : List Int) (w : World) (h : Rd w B (some ⟨b, off, none⟩) xs.length c xs) (hB : B ≤ w.heap.size) (hm : 1 ≤ m) (hm8 : m ≤ 8) (hk1 : 1 ≤ k) (hk8 : k ≤ 8) (hl : Hid (xs.length = m * k)) :
    Calls Try.prog 35 #[chartV m k (.slice (some ⟨b, off, none⟩) xs.length c)] w (InOut w m xs) := by
  have h64 : xs.length ≤ 64 := by have := Nat.mul_le_mul hm8 hk8; rw [hl.out]; omega
  obtain ⟨i0, hi, hz0, hz1, hz2⟩ := info_parts info_bool
  have x0 := Cx.start (m := m) (k := k) h hB
  have e2 := x0.c2
  have hsz : (w.alloc (.cells #[.int .i64 m, .int .i64 k, .slice (some ⟨b, off, none⟩) xs.length c] 26)).heap.size = w.heap.size + 1 := by simp
  clear h
  go_enter Try.func35, Try.ntmps35
  go_upto_region 2 with fail
  generalize w.alloc (.cells #[.int .i64 m, .int .i64 k, .slice (some ⟨b, off, none⟩) xs.length c] 26) = w1 at *
  go_wp2_with (at_make; refine wpList_make_full _ rfl _ _ 76 rfl (w.heap.size + 1) 4 i0 (.bool false) 1 Try.underlying76 hi hz0 hz1 _ _ _ _ xs.length rfl rfl rfl rfl (by rw [hz2]; omega) (by unfold maxLen; omega) (by omega) ?_)
  intro w2 hown0 hg0
  have hown1 : w2.ownsRow (w.heap.size + 1) 4 1 (.slice (some ⟨w.heap.size + 1, 0, none⟩) xs.length xs.length) xs.length ((List.replicate xs.length false).map Value.bool) := by
    have e : (madeCells #[Value.bool false] xs.length).toList = (List.replicate xs.length false).map Value.bool := by rw [toList_madeCells_one, List.map_replicate]
    rw [← e]; exact hown0
  have hT0 := row_blk hown1
  have x2 := x0.mark hg0 (fun q hq => by cases hq)
  have HTK := Lib.hid (show TkOk xs (List.replicate xs.length false) (fun _ => -1) 0 [] from ⟨by simp, fun x hx => by rw [labQ_nil, List.getD_eq_getElem?_getD, List.getElem?_replicate, if_pos hx]; rfl⟩)
  have HLAB := Lib.hid (Lab.start m xs)
  have HG := Lib.hid (show Grp xs (fun _ => -1) [] from fun a l hl => by simp at hl)
  obtain ⟨gt, hgt⟩ : ∃ gt, w.heap.size + 1 = gt := ⟨_, rfl⟩
  have hgte : w.heap.size + 1 ≤ gt := by omega
  obtain ⟨T0, hT0e⟩ : ∃ T, List.replicate xs.length false = T := ⟨_, rfl⟩
  rw [hT0e] at hT0 HTK
  have e2' := x2.c2
  clear hown0 hown1 hg0 x0 e2 hT0e hsz
  rw [hgt] at hT0 ⊢
  clear hgt
  go_wp2
  clear e2'
  go_loopw [3, 13] (fun s3 s13 wr => ∃ (i : Nat) (A : Option Addr) (c' : Nat) (ass : List (List Nat)) (T : List Bool) (lab : Nat → Int), i ≤ xs.length ∧ s13 = .int .i64 i ∧ s3 = .slice A ass.length c' ∧ Hid (Lab m xs lab ass.length i) ∧ Hid (TkOk xs T lab ass.length []) ∧ Hid (Grp xs lab ass) ∧
      Own2 wr (gt + 1) (.slice A ass.length c') (ass.map upI) ∧ Blk wr gt 4 (T.map Value.bool).toArray ∧ Cx w m k b off c B xs wr) (fun _ s13 _ => xs.length - (intOf s13).toNat)
  case atStart => exact ⟨0, none, 0, [], T0, _, Nat.zero_le _, rfl, rfl, HLAB, HTK, HG, Own2.nil _ _, hT0, x2⟩
  case round =>
    clear HLAB HTK HG hT0 x2
    obtain ⟨i, A, c', ass, T, lab, hi, rfl, rfl, HLAB, HTK, HG, ho, hT, x1⟩ := hrel
    have e2 := x1.c2
    have hzz := x1.sz
    by_cases hlt : i < xs.length
    · have hn64 : ass.length ≤ 64 := Nat.le_trans HLAB.out.le (by omega)
      obtain ⟨v, hv⟩ : ∃ v, decide (0 ≤ lab i) = v := ⟨_, rfl⟩
      have et := bl_at (v := v) hT (y := i) (by rw [HTK.out.1]; exact hlt) (by rw [HTK.out.2 i hlt, labQ_nil]; exact hv)
      have HV := Lib.hid hv
      clear hv
      have hgz := hT.lt
      cases v with
      | true =>
        have HL2 := Lib.hid (HLAB.out.skip (of_decide_eq_true HV.out))
        go_wp2
        go_roundw
        case rel => exact ⟨i + 1, A, c', ass, T, lab, hlt, by go_num, rfl, HL2, HTK, HG, ho, hT, x1⟩
        case measure => simp [intOf]; omega
      | false =>
        have HVn := Lib.hid (show lab i < 0 by have := of_decide_eq_false HV.out; omega)
        have e0 := x1.c0
        have e1 := x1.c1
        go_wp2_with fail
        refine (areaFrom_any m k b off c B gt ass.length i xs T lab wr x1.rd (by have := x1.lo; omega) hT hm hm8 hk1 hk8 hl hlt HLAB HVn HTK).mono ?_
        rintro e w3 ⟨A3, c3, q, T3, rfl, own3, hT3, HTK3, HQ, HQD, HQH, hgr3⟩
        have x3 := x1.mark hgr3 (fun q hq => by cases hq; exact hgte)
        have HL3 := Lib.hid (HLAB.out.step hlt HVn.out HQ.out)
        have HG3 := Lib.hid (HG.out.step HLAB.out hlt HVn.out HQ.out HQD.out HQH.out)
        have HTK4 := Lib.hid (show TkOk xs T3 (labQ lab ass.length q) (ass.length + 1) [] from ⟨HTK3.out.1, fun x hx => by rw [labQ_nil]; exact HTK3.out.2 x hx⟩)
        have hgz3 := hT3.lt
        have hml : (ass.map upI).length = ass.length := by simp
        have hl20 : ass.length ≤ 1048576 := by omega
        have hloz : gt + 1 ≤ wr.heap.size := hgz
        have hbd := ho.form
        clear hT x1 HLAB HTK HG HQ HQD HQH HTK3 et e0 e1 e2
        go_wp2_with (at_builtin; refine wpList_pushOwn rfl wr w3 (.tmp 21) (.tmp 26) 63 rfl Try.underlying63 info_ints (gt + 1) gt ass.length _ (ass.map upI) A3 q.length c3 (upI q) hml rfl rfl ho hgr3 (Nat.lt_succ_self _) own3 hl20 hloz ?_)
        intro A9 c9 w9 ho9 hg9
        have hrow : ∀ k, (Value.slice A ass.length c').ownBlock = some k → gt + 1 ≤ k := fun k hk => by
          obtain ⟨_, _, _, hb⟩ := hbd
          exact (hb k hk).1
        have x9 := x3.mark hg9 (fun q hq => by have := hrow q hq; omega)
        have hT9 := hT3.mark hg9 (fun q hq e => by have := hrow q hq; omega)
        have HO9 : Own2 w9 (gt + 1) (.slice A9 (ass.length + 1) c9) ((ass ++ [q]).map upI) := by rw [List.map_append]; exact ho9
        clear ho9 hg9 hT3 x3 own3 ho hgr3
        go_wp2
        go_roundw
        case rel => exact ⟨i + 1, A9, c9, ass ++ [q], T3, _, hlt, by go_num, by rw [List.length_append]; rfl, by rw [List.length_append]; exact HL3, by rw [List.length_append]; exact HTK4, HG3, by rw [List.length_append]; exact HO9, hT9, x9⟩
        case measure => simp [intOf]; omega
    · have HF := Lib.hid (grp_end HG.out HLAB.out (by omega))
      go_wp2
      go_ret
      exact ⟨A, c', ass, rfl, ho.mono (by omega), x1.bel, HF⟩
end Go.Proofs.Ytpnmnkdnlajfiaa
