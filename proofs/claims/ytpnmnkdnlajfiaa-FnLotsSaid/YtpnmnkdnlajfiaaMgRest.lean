/- Several texts of this proof in one: RestI, Chain, FirstI. No condition. -/
import Derived.Test.YtpnmnkdnlajfiaaMgStep
import Derived.Test.YtpnmnkdnlajfiaaMgFst
import Derived.Test.YtpnmnkdnlajfiaaFewS
import Derived.Deep.LoopGhost
import Derived.WalkMore
namespace Go.Proofs.Ytpnmnkdnlajfiaa
open Go.RowKit

theorem Rd.cut {w : World} {B n c b off q : Nat} {xs : List Int} (h : Rd w B (some ⟨b, off, none⟩) n c xs) (hq : q ≤ n) : Rd w B (some ⟨b, if c = q then off else off + q * 1, none⟩) (n - q) (c - q) (xs.drop q) := by
  refine ⟨by rw [List.length_drop, h.len], by have := h.cap; omega, by have := h.max; omega, fun hn => ?_, fun x hx => h.fits x (List.mem_of_mem_drop hx), fun e => by cases e⟩
  obtain ⟨_, _, e, hb, hc⟩ := h.cells (by omega)
  cases e
  have := h.cap
  rw [if_neg (by omega)]
  refine ⟨b, _, rfl, hb, fun j hj => ?_⟩
  have := hc (q + j) (by omega)
  rw [show off + q * 1 + j = off + (q + j) by omega, this, List.getD_eq_getElem?_getD, List.getD_eq_getElem?_getD, List.getElem?_drop]
set_option maxRecDepth 100000 in
theorem wpList_restI {ops : Array Oper} {rest : List Oper} {o : Oper} {a : Act} {w : World} {Q : Exit → Act → World → Prop} (hgd : o.guard = none) (x lo : Operand)
    (ho : o.op = .slice 24 x (some lo) none none) (b off : Nat) (B n c q : Nat) (xs : List Int) (i : Int) (hx : a.eval x = .slice (some ⟨b, off, none⟩) n c) (hl : a.eval lo = .int .i64 i) (hi : i = (q : Int)) (hq : q ≤ n) (h : Rd w B (some ⟨b, off, none⟩) n c xs)
    (hk : ∀ off', Rd w B (some ⟨b, off', none⟩) (n - q) (c - q) (xs.drop q) → wpList Try.prog ops Q rest (a.put o.dst (.slice (some ⟨b, off', none⟩) (n - q) (c - q))) w) : wpList Try.prog ops Q (o :: rest) a w := by
  subst hi
  refine wpList_plain hgd fun K hK => ?_
  have hcap := h.cap
  have hc := h.cut hq
  have hr : (Instr.sliceAt 24 (.slice (some ⟨b, off, none⟩) n c) (some (.int .i64 q)) none none).run Try.prog w = .ok (.slice (some ⟨b, if c = q then off else off + q * 1, none⟩) (n - q) (c - q)) w := by
    rw [run_sliceAt_slice _ _ _ _ _ _ Try.underlying24, run_slice_l _ _ _ _ _ Try.underlying24 _ _ (by omega) (by omega)]
    simp [go_sem]
    split <;> rfl
  unfold Oper.wp execOp
  simp only [ho, Option.map_some, Option.map_none, hx, hl, Sem.run_bind, Sem.run_pure, hr, Result.andThen_ok]
  exact hK _ _ (hk _ hc)
/-- append of one element, its literal made last. -/
theorem wpList_pushF {α : Type} (F : Flat α) {P : Program} {ops : Array Oper} {rest : List Oper} {o : Oper} {a : Act} {Q : Exit → Act → World → Prop} (hgd : o.guard = none) (w : World) (s x : Operand) (T : TypeId) (z : Value) (bytes : Nat)
    (ho : o.op = .call { callee := .builtin .append, args := #[s, x], argTypes := #[T, T] }) (ht : P.underlying T = some (.slice F.t)) (hinfo : (P.info? F.t).map (fun i => (i.zero, i.size, i.bytes)) = some (some z, F.k, bytes))
    (hzs : z.cells.size = F.k) (hk : 0 < F.k) (hby : bytes ≤ 1024)
    (lo n : Nat) (v : Value) (xs : List α) (y : α) (cs : Array Value) (he : cs.toList = F.enc y) (hy : F.ok y) (hn : xs.length = n)
    (hs : a.eval s = v) (hx : a.eval x = .slice (some ⟨w.heap.size, 0, none⟩) 1 1) (hown : OwnF F w lo v xs) (hlen : n ≤ 1073741000) (hlo : lo ≤ w.heap.size)
    (h : ∀ A' c' w', OwnF F w' lo (.slice A' (n + 1) c') (xs ++ [y]) → w.grownBy w' v.ownBlock → wpList P ops Q rest (a.put o.dst (.slice A' (n + 1) c')) w') :
    wpList P ops Q (o :: rest) a (w.alloc (.cells cs F.t)) := by
  subst hn
  refine wpList_appendF F hgd _ s x T z bytes ho ht hinfo hzs hk hby lo v xs [y] w.heap.size 0 1 1 (w.heap.size + 1) hs hx (hown.alloc _) (RdF.lit he hy) (by simp; omega) (by simp; omega) fun A' c' w' h1 h2 => ?_
  rw [show xs.length + [y].length = xs.length + 1 from rfl] at h1 ⊢
  exact h A' c' w' h1 ⟨h2.os, h2.tape, h2.output, Nat.le_trans (by simp) h2.size, fun k hk hne => (h2.block k (by simp; omega) hne).trans (Below.heap_alloc w _ k hk)⟩
end Go.Proofs.Ytpnmnkdnlajfiaa
namespace Go.Proofs.Ytpnmnkdnlajfiaa
open Go.RowKit

/-- p is the chain of some numbers. -/
def Chain (w : World) : List Nat → Value → Prop
  | [], p => p = .pointer none
  | l :: r, p => ∃ g q, p = .pointer (some ⟨g, 0, none⟩) ∧ Blk w g 52 #[.int .i64 l, q] ∧ Chain w r q
theorem Chain.all {w w' : World} (hb : Below w.heap.size w w') : ∀ {az : List Nat} {p : Value}, Chain w az p → Chain w' az p
  | [], _, h => h
  | _ :: _, _, ⟨g, q, h1, h2, h3⟩ => ⟨g, q, h1, h2.all hb, h3.all hb⟩
theorem Chain.far {w : World} {lo g n c : Nat} {xs : List Int} (ho : Own w lo (.slice (some ⟨g, 0, none⟩) n c) xs) (i : Nat) (u : Value) : ∀ {az : List Nat} {p : Value}, Chain w az p → Chain (w.setCell ⟨g, i, none⟩ u) az p
  | [], _, h => h
  | _ :: _, _, ⟨g', q, h1, h2, h3⟩ => ⟨g', q, h1, h2.far (fun e => row_ne ho.1 h2 (by decide) g rfl e.symm) u, h3.far ho i u⟩
theorem Chain.mark {w w' : World} {lo : Nat} {v : Value} {xs : List Int} (ho : Own w lo v xs) (hg : w.grownBy w' v.ownBlock) : ∀ {az : List Nat} {p : Value}, Chain w az p → Chain w' az p
  | [], _, h => h
  | _ :: _, _, ⟨g', q, h1, h2, h3⟩ => ⟨g', q, h1, h2.mark hg (row_ne ho.1 h2 (by decide)), h3.mark ho hg⟩
theorem Chain.ptr {w : World} : ∀ {az : List Nat} {p : Value}, Chain w az p → ∃ a, p = .pointer a
  | [], _, h => ⟨none, h⟩
  | _ :: _, _, ⟨g, _, h1, _⟩ => ⟨some ⟨g, 0, none⟩, h1⟩
theorem set_back {cur : Array Value} {l : Nat} {u v : Value} (h : cur[l]? = some v) : (cur.setIfInBounds l u).setIfInBounds l v = cur := by
  apply Array.ext_getElem?
  intro i
  by_cases e : l = i
  · subst e
    have hl : l < cur.size := (Array.getElem?_eq_some_iff.1 h).1
    rw [Array.getElem?_setIfInBounds_self_of_lt (by simpa using hl), h]
  · rw [Array.getElem?_setIfInBounds_ne e, Array.getElem?_setIfInBounds_ne e]
theorem below_restore {wr w2 : World} {g l lo n c : Nat} {left : List Int} {v : Int} {u : Value} (ho : Own wr lo (.slice (some ⟨g, 0, none⟩) n c) left) (hl : l < left.length) (hv : left.getD l 0 = v)
    (hb : Below (wr.setCell ⟨g, l, none⟩ u).heap.size (wr.setCell ⟨g, l, none⟩ u) w2) : Below wr.heap.size wr (w2.setCell ⟨g, l, none⟩ (.int .i64 v)) := by
  have hsz : (wr.setCell ⟨g, l, none⟩ u).heap.size = wr.heap.size := by simp [World.setCell]
  have hc := own_at ho hl hv
  rcases ho.1.2 with ⟨e, _⟩ | ⟨g', cap, cur, e, _, hg, _⟩
  · cases e
  · cases e
    rw [cell_of_row wr g l cur _ (0, 0) hg] at hc
    have hgl : g < wr.heap.size := (Array.getElem?_eq_some_iff.1 hg).1
    refine ⟨hb.os, hb.tape, hb.output, ?_, fun k hk => ?_⟩
    · have := hb.size
      rw [hsz] at this
      simpa [World.setCell] using this
    · by_cases ek : k = g
      · subst ek
        have h1 := heap_setCell_same wr k l cur _ u hg
        have h2 := (hb.block k (by rw [hsz]; exact hk)).trans h1
        have h3 := heap_setCell_same w2 k l _ _ (.int .i64 v) h2
        rw [h3, hg, set_back hc]
      · rw [heap_setCell_other w2 ⟨g, l, none⟩ k _ (fun e => ek e), hb.block k (by rw [hsz]; exact hk), heap_setCell_other wr ⟨g, l, none⟩ k _ (fun e => ek e)]
theorem contains_take (g c l B : Nat) (left : List Int) (v : Int) (d : Bool) (w : World) (h : Rd w B (some ⟨g, 0, none⟩) left.length c left) (hl : l ≤ left.length) (hd : decide (v ∈ left.take l) = d) :
    Calls Try.prog 43 #[.slice (some ⟨g, 0, none⟩) l c, .int .i64 v] w fun e w' => e = .returned (.bool d) ∧ w = w' := by
  have hll := h.len_lt
  have e : (left.take l).length = l := by rw [List.length_take]; omega
  refine (Try.slices_Contains_int g 0 l c (left.take l) v w (by omega) (by omega) (fun j hj => ?_)).mono ?_
  · obtain ⟨_, _, e', _, hc⟩ := h.cells (by omega)
    cases e'
    have hj' : j < l := by omega
    rw [hc j (by omega)]
    congr 2
    rw [List.getD_eq_getElem?_getD, List.getD_eq_getElem?_getD, List.getElem?_take, if_pos hj']
  · rintro e' w' ⟨rfl, rfl⟩
    refine ⟨?_, rfl⟩
    rw [List.take_of_length_le (by omega), ← hd]
    congr 2
    rw [Bool.eq_iff_iff]
    simp
def ChOut (w : World) (o : Option (List Nat)) (e : Ending) (w' : World) : Prop := ∃ p, e = .returned (.tuple #[p, .bool o.isSome]) ∧ Chain w' (o.getD []) p ∧ Below w.heap.size w w'
set_option maxRecDepth 100000 in
set_option maxHeartbeats 4000000 in
theorem firstChain_any : ∀ (sizes : List Int), sizes.length ≤ 64 → (∀ y ∈ sizes, 0 ≤ y ∧ y ≤ 64) → ∀ (left : List Int), left.length ≤ 6 → (∀ x ∈ left, 0 ≤ x ∧ x ≤ 100) → ∀ (A1 : Option Addr) (c1 B1 g c lo : Nat) (w : World), Rd w B1 A1 sizes.length c1 sizes →
    Own w lo (.slice (some ⟨g, 0, none⟩) left.length c) left → B1 ≤ lo → lo ≤ w.heap.size → Calls Try.prog 20 #[.slice A1 sizes.length c1, .slice (some ⟨g, 0, none⟩) left.length c] w (ChOut w (chn12 sizes left)) := by
  intro sizes
  induction sizes with
  | nil =>
    intro _ _ left _ _ A1 c1 B1 g c lo w h1 ho hB hlo
    go_enter Try.func20, Try.ntmps20
    go_wp2
    go_ret2
    exact ⟨.pointer none, rfl, rfl, Below.refl _ _⟩
  | cons s ss ih =>
    intro hs hsr left hl6 hlr A1 c1 B1 g c lo w h1 ho hB hlo
    have hsr' := hsr s (by simp)
    have hss : ss.length ≤ 64 := by simp at hs; omega
    have HIH := Lib.hid (ih hss (fun y hy => hsr y (by simp [hy])))
    have HLR := Lib.hid hlr
    have HX := Lib.hid (show chn12 (s :: ss) left = (List.range left.length).findSome? fun l => if left.getD l 0 < s ∨ left.getD l 0 ∈ left.take l then none else (chn12 ss (left.set l (left.getD l 0 - s))).map (l :: ·) from rfl)
    obtain ⟨F, hF⟩ : ∃ F : Nat → Option (List Nat), (fun l => if left.getD l 0 < s ∨ left.getD l 0 ∈ left.take l then none else (chn12 ss (left.set l (left.getD l 0 - s))).map (l :: ·)) = F := ⟨_, rfl⟩
    rw [hF] at HX
    have HF := Lib.hid (fun l => congrFun hF l)
    obtain ⟨b1, o1, y1, rfl, hb1, hcy, _, _, HY1⟩ := h1.at (k := 0) (by simp)
    obtain rfl : y1 = s := HY1.out.symm.trans rfl
    have hgb := (ho.bd g rfl).1
    have hn0 : (((y1 :: ss).length : Int) == 0) = false := by simp; omega
    have HLn := Lib.hid (show (y1 :: ss).length = ss.length + 1 from rfl)
    clear ih hF hs hsr hlr
    obtain ⟨N, hN⟩ : ∃ N, (y1 :: ss).length = N := ⟨_, rfl⟩
    have HNS := Lib.hid (show N = ss.length + 1 by rw [← hN]; rfl)
    have hN1 : 1 ≤ N := by rw [HNS.out]; omega
    have hN65 : N ≤ 65 := by rw [HNS.out]; omega
    rw [hN] at h1 hn0 ⊢
    have hn0' : ((N : Int) == 0) = false := by simp; omega
    clear hn0 hN HLn
    go_enter Try.func20, Try.ntmps20
    go_wp2
    go_loopw [15] (fun s15 wr => ∃ l : Nat, l ≤ left.length ∧ s15 = .int .i64 l ∧ Hid (∀ l', l' < l → F l' = none) ∧ Hid (Below w.heap.size w wr)) (fun s15 _ => left.length - (intOf s15).toNat)
    case atStart => exact ⟨0, Nat.zero_le _, rfl, Lib.hid (fun l' h => by omega), Lib.hid (Below.refl _ _)⟩
    case round =>
      obtain ⟨l, hl, rfl, HNO, HB⟩ := hrel
      by_cases hlt : l < left.length
      · obtain ⟨v, hv⟩ : ∃ v, left.getD l 0 = v := ⟨_, rfl⟩
        have hvr : 0 ≤ v ∧ v ≤ 100 := by rw [← hv, getD_at hlt]; exact HLR.out _ (List.getElem_mem hlt)
        have oR := ho.all HB.out
        have R1 := h1.all HB.out (by omega)
        have ev := own_at oR hlt hv
        have es : wr.cell? ⟨b1, o1, none⟩ = some (.int .i64 y1) := by simpa using cells_of HB.out hcy (by omega)
        have hlI : (l : Int) < (left.length : Int) := by omega
        have hN1I : (0 : Int) < (N : Int) := by omega
        have hcc := oR.rd.cap
        have hmm := oR.rd.max
        unfold maxLen at hmm
        have HV := Lib.hid hv
        clear hv
        by_cases hvs : v < y1
        · have HN2 := Lib.hid (show ∀ l', l' < l + 1 → F l' = none from fun l' h => by
            by_cases e : l' = l
            · subst e; rw [← HF.out l', HV.out, if_pos (.inl hvs)]
            · exact HNO.out l' (by omega))
          go_wp2
          go_roundw
          case rel => exact ⟨l + 1, hlt, by go_num, HN2, HB⟩
          case measure => simp [intOf]; omega
        · obtain ⟨dm, hdm⟩ : ∃ dm, decide (v ∈ left.take l) = dm := ⟨_, rfl⟩
          have hvd : decide (v < y1) = false := by simp; omega
          have hct := contains_take g c l wr.heap.size left v dm wr oR.rd hl hdm
          cases dm with
          | true =>
            have HN2 := Lib.hid (show ∀ l', l' < l + 1 → F l' = none from fun l' h => by
              by_cases e : l' = l
              · subst e; rw [← HF.out l', HV.out, if_pos (.inr (of_decide_eq_true hdm))]
              · exact HNO.out l' (by omega))
            clear hdm
            go_wp2_with ((go_at_call 43; (with_reducible refine (hct).mono ?_); rintro e w' ⟨rfl, rfl⟩))
            go_roundw
            case rel => exact ⟨l + 1, hlt, by go_num, HN2, HB⟩
            case measure => simp [intOf]; omega
          | false =>
            have HFl := Lib.hid (show F l = (chn12 ss (left.set l (v - y1))).map (l :: ·) by rw [← HF.out l, HV.out, if_neg (fun h => h.elim hvs (of_decide_eq_false hdm))])
            obtain ⟨hfz, oP, hgr⟩ := own_put oR l (v - y1) ⟨by omega, by omega⟩
            have R2 := R1.mark hgr (fun q hq => by cases hq; omega) (by have := HB.out.size; omega)
            have hz1 : (wr.setCell ⟨g, l, none⟩ (.int .i64 (v - y1))).heap.size = wr.heap.size := by simp [World.setCell]
            have hzr := HB.out.size
            have hres := fun w2 hb => below_restore (u := .int .i64 (v - y1)) (w2 := w2) oR hlt HV.out hb
            have HRES := Lib.hid hres
            have hlow : lo ≤ (wr.setCell ⟨g, l, none⟩ (.int .i64 (v - y1))).heap.size := by omega
            clear hdm hgr hres R1
            go_upto_region 8 with ((go_at_call 43; (with_reducible refine (hct).mono ?_); rintro e w' ⟨rfl, rfl⟩))
            clear hct hfz ev es oR
            generalize wr.setCell ⟨g, l, none⟩ (.int .i64 (v - y1)) = W1 at *
            go_wp2_with (refine wpList_restI rfl (.tmp 41) (.const (.int .i64 1)) rfl b1 o1 B1 N c1 1 (y1 :: ss) _ rfl rfl rfl hN1 R2 ?_)
            intro off' R3
            have hNe : N - 1 = ss.length := by rw [HNS.out]; omega
            rw [hNe] at R3 ⊢
            have oP' : Own W1 lo (.slice (some ⟨g, 0, none⟩) (left.set l (v - y1)).length c) (left.set l (v - y1)) := by rw [List.length_set]; exact oP
            have hcall := HIH.out (left.set l (v - y1)) (by rw [List.length_set]; exact hl6) (fun x hx => by
              rcases List.mem_or_eq_of_mem_set hx with h | rfl
              · exact HLR.out x h
              · omega) (some ⟨b1, off', none⟩) (c1 - 1) B1 g c lo W1 R3 oP' hB hlow
            rw [List.length_set] at hcall
            go_wp2_with fail
            refine hcall.mono ?_
            rintro e w2 ⟨p, rfl, hch, hb2⟩
            obtain ⟨pa, rfl⟩ := hch.ptr
            have oQ := oP.all hb2
            have HB3 := Lib.hid (HB.out.trans ((HRES.out w2 hb2).mono hzr))
            have ev2 := own_at oQ (j := l) (by rw [List.length_set]; exact hlt) rfl
            obtain ⟨hfz2, oR2, hgr2⟩ := own_put oQ l v ⟨by omega, by omega⟩
            have hch2 := hch.far oQ l (.int .i64 v)
            have hsz3 : (w2.setCell ⟨g, l, none⟩ (.int .i64 v)).heap.size = w2.heap.size := by simp [World.setCell]
            clear hcall hb2 oP oP' R2 R3 HRES hgr2 oR2 HB hch oQ
            cases hr : chn12 ss (left.set l (v - y1)) with
            | some r =>
              rw [hr] at hch2
              have HFin := Lib.hid (HX.out.trans (findSome_first HNO.out hlt (show F l = some (l :: r) by rw [HFl.out, hr]; rfl)))
              clear hr
              go_upto_region 10 with fail
              clear hfz2 ev2
              generalize w2.setCell ⟨g, l, none⟩ (.int .i64 v) = W3 at *
              have hb4 := Lib.hid (HB3.out.alloc HB3.out.size (.cells #[.int .i64 l, .pointer pa] 52))
              have x4 := Blk.new W3 #[.int .i64 l, .pointer pa] 52
              have hch4 := hch2.all ((Below.refl _ _).alloc (Nat.le_refl _) (.cells #[.int .i64 l, .pointer pa] 52))
              go_wp2
              go_ret2
              rw [HFin.out]
              exact ⟨_, rfl, ⟨_, _, rfl, x4.at_ hsz3, hch4⟩, hb4.out⟩
            | none =>
              have HN2 := Lib.hid (show ∀ l', l' < l + 1 → F l' = none from fun l' h => by
                by_cases e : l' = l
                · subst e; rw [HFl.out, hr]; rfl
                · exact HNO.out l' (by omega))
              clear hr hch2
              go_wp2
              go_roundw
              case rel => exact ⟨l + 1, hlt, by go_num, HN2, HB3⟩
              case measure => simp [intOf]; omega
      · have HFin := Lib.hid (HX.out.trans (findSome_none (fun l' h => HNO.out l' (by omega))))
        go_wp2
        go_ret2
        rw [HFin.out]
        exact ⟨.pointer none, rfl, rfl, HB.out⟩
end Go.Proofs.Ytpnmnkdnlajfiaa
namespace Go.Proofs.Ytpnmnkdnlajfiaa
open Go.RowKit

theorem findSome_of {f : Nat → Option (List Nat)} {r : List Nat} : ∀ {n : Nat}, (List.range n).findSome? f = some r → ∃ l, l < n ∧ f l = some r
  | 0, h => by simp at h
  | n + 1, h => by
    rw [List.range_succ, List.findSome?_append] at h
    cases hr : (List.range n).findSome? f with
    | some r' =>
      rw [hr] at h
      obtain ⟨l, hl, e⟩ := findSome_of hr
      refine ⟨l, by omega, e.trans ?_⟩
      simpa using h
    | none =>
      rw [hr] at h
      refine ⟨n, by omega, ?_⟩
      simpa using h
theorem fst_some : ∀ (sizes left : List Int) (r : List Nat), fst12 sizes left = some r → r.length = sizes.length ∧ ∀ x ∈ r, x < left.length
  | [], _, r, h => by
    simp only [fst12, Option.some.injEq] at h
    subst h
    simp
  | s :: ss, left, r, h => by
    rw [fst12] at h
    obtain ⟨l, hl, e⟩ := findSome_of h
    by_cases hv : left.getD l 0 < s
    · rw [if_pos hv] at e; cases e
    · rw [if_neg hv] at e
      obtain ⟨r', hr', rfl⟩ := Option.map_eq_some_iff.1 e
      obtain ⟨h1, h2⟩ := fst_some ss _ r' hr'
      refine ⟨by simp [h1], fun x hx => ?_⟩
      rcases List.mem_cons.1 hx with e | hx
      · rw [e]; exact hl
      · have := h2 x hx
        simpa using this
set_option maxRecDepth 100000 in
set_option maxHeartbeats 4000000 in
theorem sizesToAssign_any (W H : Int) (A : Option Addr) (n c B : Nat) (xs : List Int) (color : Int) (A2 : Option Addr) (n2 c2 B2 : Nat) (lots : List Int) (w : World) (h : Rd w B A n c xs) (hB : B ≤ w.heap.size) (h2 : Rd w B2 A2 n2 c2 lots) (hB2 : B2 ≤ w.heap.size) :
    Calls Try.prog 19 #[chartV W H (.slice A n c), .int .i64 color, .slice A2 n2 c2] w fun e w' => ∃ (A1 : Option Addr) (c1 : Nat) (S : List Int), e = .returned (.tuple #[.slice A1 S.length c1, .bool (srchOk W H xs color lots)]) ∧ Own w' w.heap.size (.slice A1 S.length c1) S ∧ Below w.heap.size w w' ∧ Hid (srchOk W H xs color lots = true → S = sizesX W H xs color) := by
  have hb0 : Below w.heap.size w (w.alloc (.cells #[.int .i64 W, .int .i64 H, .slice A n c] 26)) := (Below.refl _ _).alloc (Nat.le_refl _) _
  have h' := h.alloc hB (.cells #[.int .i64 W, .int .i64 H, .slice A n c] 26)
  have x0 := Blk.new w #[.int .i64 W, .int .i64 H, .slice A n c] 26
  have e0 := x0.cell 0
  have e1 := x0.cell 1
  have e2 := x0.cell 2
  obtain ⟨so, hso⟩ : ∃ so, sizesOk W H xs color = so := ⟨_, rfl⟩
  obtain ⟨lo, hlo⟩ : ∃ lo, lotsB lots = lo := ⟨_, rfl⟩
  obtain ⟨S, hS⟩ : ∃ S, sizesX W H xs color = S := ⟨_, rfl⟩
  obtain ⟨d8, hd8⟩ : ∃ d, decide (S.length ≤ 8) = d := ⟨_, rfl⟩
  have HXA := Lib.hid (show srchOk W H xs color lots = ((so && lo) && d8) by rw [srchOk, askOk, hso, hlo, hS, hd8])
  go_enter Try.func19, Try.ntmps19
  go_upto_region 1 with fail
  generalize w.alloc (.cells #[.int .i64 W, .int .i64 H, .slice A n c] 26) = w0 at *
  have hz0 := hb0.size
  go_wp2_with fail
  refine (implAreaSizes_any W H A n c B xs color _ h' (by omega)).mono ?_
  rintro e w1 ⟨A1, c1, rfl, oS, hb1⟩
  rw [hS] at oS ⊢
  rw [hso]
  have HB := Lib.hid (hb0.trans (hb1.mono hz0))
  have oS1 := oS.mono hz0
  clear hb0 hb1 h' x0 e0 e1 e2 hso oS
  have h21 := h2.all HB.out hB2
  cases so with
  | false =>
    have HF := Lib.hid (show srchOk W H xs color lots = false by rw [HXA.out]; rfl)
    clear hd8
    go_wp2
    go_ret2
    rw [HF.out]
    exact ⟨none, 0, [], rfl, Own.nil _ _, HB.out, Lib.hid (fun h => by cases h)⟩
  | true =>
    go_wp2_with fail
    refine (areLots_any A2 n2 c2 B2 lots _ h21).mono ?_
    rintro e w2 ⟨rfl, rfl⟩
    rw [hlo]
    cases lo with
    | false =>
      have HF := Lib.hid (show srchOk W H xs color lots = false by rw [HXA.out]; rfl)
      clear hd8
      go_wp2
      go_ret2
      rw [HF.out]
      exact ⟨none, 0, [], rfl, Own.nil _ _, HB.out, Lib.hid (fun h => by cases h)⟩
    | true =>
      by_cases h8 : S.length ≤ 8
      · have hdd : decide (8 < S.length) = false := by simp; omega
        have HF := Lib.hid (show srchOk W H xs color lots = true by rw [HXA.out, ← hd8, decide_eq_true h8]; rfl)
        have HSS := Lib.hid hS.symm
        clear hd8 hS
        go_wp2
        go_ret2
        rw [HF.out]
        exact ⟨A1, c1, S, rfl, oS1, HB.out, Lib.hid (fun _ => HSS.out)⟩
      · have hdd : decide (8 < S.length) = true := by simp; omega
        have HF := Lib.hid (show srchOk W H xs color lots = false by rw [HXA.out, ← hd8, decide_eq_false h8]; rfl)
        clear hd8 hS
        go_wp2
        go_ret2
        rw [HF.out]
        exact ⟨none, 0, [], rfl, Own.nil _ _, HB.out, Lib.hid (fun h => by cases h)⟩
set_option maxRecDepth 100000 in
set_option maxHeartbeats 4000000 in
theorem implFirstAssignment_any (W H : Int) (A : Option Addr) (n c B : Nat) (xs : List Int) (color : Int) (A2 : Option Addr) (n2 c2 B2 : Nat) (lots : List Int) (w : World) (h : Rd w B A n c xs) (hB : B ≤ w.heap.size) (h2 : Rd w B2 A2 n2 c2 lots) (hB2 : B2 ≤ w.heap.size) :
    Calls Try.prog 6 #[chartV W H (.slice A n c), .int .i64 color, .slice A2 n2 c2] w (OutInts w (srL (frst W H xs color lots)) (frst W H xs color lots).isSome) := by
  have hb0 : Below w.heap.size w (w.alloc (.cells #[.int .i64 W, .int .i64 H, .slice A n c] 26)) := (Below.refl _ _).alloc (Nat.le_refl _) _
  have h' := h.alloc hB (.cells #[.int .i64 W, .int .i64 H, .slice A n c] 26)
  have h2' := h2.alloc hB2 (.cells #[.int .i64 W, .int .i64 H, .slice A n c] 26)
  have x0 := Blk.new w #[.int .i64 W, .int .i64 H, .slice A n c] 26
  have e0 := x0.cell 0
  have e1 := x0.cell 1
  have e2 := x0.cell 2
  obtain ⟨so, hso⟩ : ∃ so, srchOk W H xs color lots = so := ⟨_, rfl⟩
  obtain ⟨FO, hFO⟩ : ∃ FO, frst W H xs color lots = FO := ⟨_, rfl⟩
  have HX1 := Lib.hid (show so = false → FO = none from fun e => by rw [← hFO]; exact frst_no (hso.trans e))
  have HX2 := Lib.hid (show so = true → FO = fst12 (sizesX W H xs color) lots ∧ lotsB lots = true from fun e => ⟨by rw [← hFO]; exact frst_yes (hso.trans e), by
    have := hso.trans e
    simp only [srchOk, askOk, Bool.and_eq_true] at this
    exact this.1.2⟩)
  obtain ⟨hs64, hsr⟩ := sizesX_rng (W := W) (H := H) (xs := xs) (color := color)
  rw [hFO]
  clear hFO
  go_enter Try.func6, Try.ntmps6
  go_upto_region 1 with fail
  generalize w.alloc (.cells #[.int .i64 W, .int .i64 H, .slice A n c] 26) = w0 at *
  have hz0 := hb0.size
  go_wp2_with fail
  refine (sizesToAssign_any W H A n c B xs color A2 n2 c2 B2 lots _ h' (by omega) h2' (by omega)).mono ?_
  rintro e w1 ⟨A1, c1, S, rfl, oS, hb1, HS⟩
  rw [hso] at HS ⊢
  have HB := Lib.hid (hb0.trans (hb1.mono hz0))
  have hz1 := HB.out.size
  clear hb0 hb1 h' h2' x0 e0 e1 e2 hso
  cases so with
  | false =>
    have HF := Lib.hid (HX1.out rfl)
    go_wp2
    go_ret2
    rw [HF.out]
    exact ⟨none, 0, rfl, Own.nil _ _, HB.out⟩
  | true =>
    obtain ⟨hfo, hlo⟩ := HX2.out rfl
    have hSe := HS.out rfl
    have HFO := Lib.hid (show chn12 S lots = FO by rw [chn_eq, hSe, hfo])
    rw [← hSe] at hs64 hsr
    have h21 := h2.all HB.out hB2
    obtain ⟨hl1, hl6, hlr⟩ := lotsB_yes hlo
    obtain ⟨bl, ol, rfl, rfl⟩ := lots_open hlo h21
    have hcl : lots.length ≤ 1048576 := by omega
    clear HX1 HX2 HS hfo hSe hlo
    go_wp2_with fail
    refine (cloneInts_any bl ol _ c2 B2 lots w1 h21 (by omega) hcl).mono ?_
    rintro e w2 ⟨A4, c4, rfl, oC, hb2⟩
    obtain ⟨G, rfl, hGw, _⟩ := oC.some_ (by omega)
    have HB2 := Lib.hid (HB.out.trans (hb2.mono hz1))
    have oS2 := oS.all hb2
    have R2 : Rd w2 w1.heap.size A1 S.length c1 S := oS.rd.all hb2 (Nat.le_refl _)
    have hz2 := hb2.size
    clear hb2 HB
    go_wp2_with fail
    refine (firstChain_any S hs64 hsr lots hl6 (fun x hx => by have := hlr x hx; omega) A1 c1 w1.heap.size G c4 w1.heap.size w2 R2 oC (Nat.le_refl _) hz2).mono ?_
    rintro e w3 ⟨p, rfl, hch, hb3⟩
    have HB3 := Lib.hid (HB2.out.trans (hb3.mono (by omega)))
    obtain ⟨ok, hok⟩ : ∃ ok, (chn12 S lots).isSome = ok := ⟨_, rfl⟩
    obtain ⟨az, haz⟩ : ∃ az, (chn12 S lots).getD [] = az := ⟨_, rfl⟩
    have HOK := Lib.hid (show FO.isSome = ok by rw [← HFO.out, hok])
    have HAZ := Lib.hid (show srL FO = upI az by rw [← haz, ← HFO.out]; cases chn12 S lots <;> rfl)
    have HLN := Lib.hid (show az.length ≤ 64 ∧ ∀ x ∈ az, x < lots.length by
      rw [← haz, chn_eq]
      cases hr : fst12 S lots with
      | none => simp
      | some r =>
        obtain ⟨g1, g2⟩ := fst_some S lots r hr
        exact ⟨by simp; omega, g2⟩)
    rw [hok]
    rw [haz] at hch
    have hP3 : w.heap.size ≤ w3.heap.size := HB3.out.size
    clear HB2 R2 hb3 hok haz oC oS2 oS h21
    go_wp2
    go_loopg [10, 11] az.length (fun gh s10 s11 wr => ∃ (dn rest : List Nat) (A9 : Option Addr) (c9 : Nat), Hid (az = dn ++ rest) ∧ rest.length ≤ gh ∧ s11 = .slice A9 dn.length c9 ∧ Chain wr rest s10 ∧ Own wr w.heap.size (.slice A9 dn.length c9) (upI dn) ∧ Hid (Below w.heap.size w wr))
    case atStart => exact ⟨[], az, none, 0, Lib.hid rfl, Nat.le_refl _, rfl, hch, Own.nil _ _, HB3⟩
    case round =>
      clear hch HB3
      obtain ⟨dn, rest, A9, c9, HAD, hgh, rfl, hch, oA, HB⟩ := hrel
      have hzr := HB.out.size
      have hdn : dn.length ≤ 64 := by
        have := HLN.out.1
        rw [HAD.out, List.length_append] at this
        omega
      cases rest with
      | nil =>
        obtain rfl : _ = Value.pointer none := hch
        have HF := Lib.hid (show srL FO = upI dn by rw [HAZ.out, HAD.out, List.append_nil])
        have HDL := Lib.hid (upI_len dn)
        go_wp2
        go_ret2
        rw [HF.out, HOK.out]
        exact ⟨A9, c9, by rw [HDL.out]; rfl, by rw [HDL.out]; exact oA, HB.out⟩
      | cons l r =>
        obtain ⟨gc, q, rfl, xB, hch'⟩ := hch
        obtain ⟨pa, rfl⟩ := hch'.ptr
        have e0 := xB.cell 0
        have e1 := xB.cell 1
        have hgl := xB.lt
        have hll : l < lots.length := HLN.out.2 l (by rw [HAD.out]; simp)
        have hd30 : dn.length ≤ 1073741824 := by omega
        have hgh' := hgh
        rw [List.length_cons] at hgh'
        have HA2 := Lib.hid (show az = (dn ++ [l]) ++ r by rw [HAD.out]; simp)
        have hbd := oA.bd
        clear hgh HAD
        go_wp2_with (at_builtin; refine wpList_append_one_at wr rfl (.tmp 34) (.tmp 39) 24 rfl Try.underlying24 info_int w.heap.size dn.length _ (upI dn) (l : Int) (upI_len dn) rfl rfl oA hd30 ⟨by omega, by omega⟩ hzr ?_)
        intro A10 c10 w9 ho9 hg9 _
        have x9 := xB.mark hg9 (row_ne oA.1 xB (by decide))
        have hch9 := hch'.mark oA hg9
        have HB9 := Lib.hid (HB.out.grown hg9 hzr (fun q hq => (hbd q hq).1))
        have g1 := x9.cell 1
        have g0 := x9.cell 0
        rw [← upI_app] at ho9
        clear hg9 hbd oA xB hch' HB e0 e1
        go_wp2
        go_roundg r.length
        case measure => omega
        case rel => exact ⟨dn ++ [l], r, A10, c10, HA2, Nat.le_refl _, by rw [List.length_append]; rfl, hch9, by rw [List.length_append]; exact ho9, HB9⟩
theorem frst_len (W H : Int) (xs : List Int) (color : Int) (lots : List Int) : (srL (frst W H xs color lots)).length ≤ 1048576 := by
  cases hs : srchOk W H xs color lots with
  | false => rw [frst_no hs]; simp [srL]
  | true =>
    rw [frst_yes hs]
    cases hr : fst12 (sizesX W H xs color) lots with
    | none => simp [srL]
    | some r =>
      have h1 := (fst_some _ _ _ hr).1
      have h2 := (sizesX_rng (W := W) (H := H) (xs := xs) (color := color)).1
      simp only [srL, upI_len]
      omega
end Go.Proofs.Ytpnmnkdnlajfiaa
