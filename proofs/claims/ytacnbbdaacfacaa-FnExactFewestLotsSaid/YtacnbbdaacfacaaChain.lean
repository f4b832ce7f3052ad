/- The walk of the program's firstChain. Condition: few lots and areas, with small numbers. -/
import Derived.Test.YtacnbbdaacfacaaMgSS
import Derived.Test.YtacnbbdaacfacaaRestI
namespace Go.Proofs.Ytacnbbdaacfacaa
open Go.RowKit

/-- p is the chain of some numbers. -/
def Chain (w : World) : List Nat → Value → Prop
  | [], p => p = .pointer none
  | l :: r, p => ∃ g q, p = .pointer (some ⟨g, 0, none⟩) ∧ Blk w g 71 #[.int .i64 l, q] ∧ Chain w r q
theorem Chain.all {w w' : World} (hb : Below w.heap.size w w') : ∀ {az : List Nat} {p : Value}, Chain w az p → Chain w' az p
  | [], _, h => h
  | _ :: _, _, ⟨g, q, h1, h2, h3⟩ => ⟨g, q, h1, h2.all hb, h3.all hb⟩
theorem Chain.far {w : World} {lo g n c : Nat} {xs : List Int} (ho : Own w lo (.slice (some ⟨g, 0, none⟩) n c) xs) (i : Nat) (u : Value) : ∀ {az : List Nat} {p : Value}, Chain w az p → Chain (w.setCell ⟨g, i, none⟩ u) az p
  | [], _, h => h
  | _ :: _, _, ⟨g', q, h1, h2, h3⟩ => ⟨g', q, h1, h2.far (fun e => row_ne ho.1 h2 (by decide) g rfl e.symm) u, h3.far ho i u⟩
theorem Chain.mark {w w' : World} {lo : Nat} {v : Value} {xs : List Int} (ho : Own w lo v xs) (hg : w.grownBy w' v.ownBlock) : ∀ {az : List Nat} {p : Value}, Chain w az p → Chain w' az p
  | [], _, h => h
  | _ :: _, _, ⟨g', q, h1, h2, h3⟩ => ⟨g', q, h1, h2.mark hg (row_ne ho.1 h2 (by decide)), h3.mark ho hg⟩
theorem Chain.ptr {w : World} : ∀ {az : List Nat} {p : Value}, Chain w az p → ∃ a, p = .pointer a
  | [], _, h => ⟨none, h⟩
  | _ :: _, _, ⟨g, _, h1, _⟩ => ⟨some ⟨g, 0, none⟩, h1⟩
theorem set_back {cur : Array Value} {l : Nat} {u v : Value} (h : cur[l]? = some v) : (cur.setIfInBounds l u).setIfInBounds l v = cur := by
  apply Array.ext_getElem?
  intro i
  by_cases e : l = i
  · subst e
    have hl : l < cur.size := (Array.getElem?_eq_some_iff.1 h).1
    rw [Array.getElem?_setIfInBounds_self_of_lt (by simpa using hl), h]
  · rw [Array.getElem?_setIfInBounds_ne e, Array.getElem?_setIfInBounds_ne e]
theorem below_restore {wr w2 : World} {g l lo n c : Nat} {left : List Int} {v : Int} {u : Value} (ho : Own wr lo (.slice (some ⟨g, 0, none⟩) n c) left) (hl : l < left.length) (hv : left.getD l 0 = v)
    (hb : Below (wr.setCell ⟨g, l, none⟩ u).heap.size (wr.setCell ⟨g, l, none⟩ u) w2) : Below wr.heap.size wr (w2.setCell ⟨g, l, none⟩ (.int .i64 v)) := by
  have hsz : (wr.setCell ⟨g, l, none⟩ u).heap.size = wr.heap.size := by simp [World.setCell]
  have hc := own_at ho hl hv
  rcases ho.1.2 with ⟨e, _⟩ | ⟨g', cap, cur, e, _, hg, _⟩
  · cases e
  · cases e
    rw [cell_of_row wr g l cur _ (0, 0) hg] at hc
    have hgl : g < wr.heap.size := (Array.getElem?_eq_some_iff.1 hg).1
    refine ⟨hb.os, hb.tape, hb.output, ?_, fun k hk => ?_⟩
    · have := hb.size
      rw [hsz] at this
      simpa [World.setCell] using this
    · by_cases ek : k = g
      · subst ek
        have h1 := heap_setCell_same wr k l cur _ u hg
        have h2 := (hb.block k (by rw [hsz]; exact hk)).trans h1
        have h3 := heap_setCell_same w2 k l _ _ (.int .i64 v) h2
        rw [h3, hg, set_back hc]
      · rw [heap_setCell_other w2 ⟨g, l, none⟩ k _ (fun e => ek e), hb.block k (by rw [hsz]; exact hk), heap_setCell_other wr ⟨g, l, none⟩ k _ (fun e => ek e)]
theorem contains_take (g c l B : Nat) (left : List Int) (v : Int) (d : Bool) (w : World) (h : Rd w B (some ⟨g, 0, none⟩) left.length c left) (hl : l ≤ left.length) (hd : decide (v ∈ left.take l) = d) :
    Calls Try.prog 81 #[.slice (some ⟨g, 0, none⟩) l c, .int .i64 v] w fun e w' => e = .returned (.bool d) ∧ w = w' := by
  have hll := h.len_lt
  have e : (left.take l).length = l := by rw [List.length_take]; omega
  refine (Try.slices_Contains_int g 0 l c (left.take l) v w (by omega) (by omega) (fun j hj => ?_)).mono ?_
  · obtain ⟨_, _, e', _, hc⟩ := h.cells (by omega)
    cases e'
    have hj' : j < l := by omega
    rw [hc j (by omega)]
    congr 2
    rw [List.getD_eq_getElem?_getD, List.getD_eq_getElem?_getD, List.getElem?_take, if_pos hj']
  · rintro e' w' ⟨rfl, rfl⟩
    refine ⟨?_, rfl⟩
    rw [List.take_of_length_le (by omega), ← hd]
    congr 2
    rw [Bool.eq_iff_iff]
    simp
def ChOut (w : World) (o : Option (List Nat)) (e : Ending) (w' : World) : Prop := ∃ p, e = .returned (.tuple #[p, .bool o.isSome]) ∧ Chain w' (o.getD []) p ∧ Below w.heap.size w w'
set_option maxRecDepth 100000 in
set_option maxHeartbeats 4000000 in
theorem firstChain_any : ∀ (sizes : List Int), sizes.length ≤ 64 → (∀ y ∈ sizes, 0 ≤ y ∧ y ≤ 64) → ∀ (left : List Int), left.length ≤ 6 → (∀ x ∈ left, 0 ≤ x ∧ x ≤ 100) → ∀ (A1 : Option Addr) (c1 B1 g c lo : Nat) (w : World), Rd w B1 A1 sizes.length c1 sizes →
    Own w lo (.slice (some ⟨g, 0, none⟩) left.length c) left → B1 ≤ lo → lo ≤ w.heap.size → Calls Try.prog 62 #[.slice A1 sizes.length c1, .slice (some ⟨g, 0, none⟩) left.length c] w (ChOut w (chn12 sizes left)) := by
  intro sizes
  induction sizes with
  | nil =>
    intro _ _ left _ _ A1 c1 B1 g c lo w h1 ho hB hlo
    go_enter Try.func62, Try.ntmps62
    go_wp2
    go_ret2
    exact ⟨.pointer none, rfl, rfl, Below.refl _ _⟩
  | cons s ss ih =>
    intro hs hsr left hl6 hlr A1 c1 B1 g c lo w h1 ho hB hlo
    have hsr' := hsr s (by simp)
    have hss : ss.length ≤ 64 := by simp at hs; omega
    have HIH := Lib.hid (ih hss (fun y hy => hsr y (by simp [hy])))
    have HLR := Lib.hid hlr
    have HX := Lib.hid (show chn12 (s :: ss) left = (List.range left.length).findSome? fun l => if left.getD l 0 < s ∨ left.getD l 0 ∈ left.take l then none else (chn12 ss (left.set l (left.getD l 0 - s))).map (l :: ·) from rfl)
    obtain ⟨F, hF⟩ : ∃ F : Nat → Option (List Nat), (fun l => if left.getD l 0 < s ∨ left.getD l 0 ∈ left.take l then none else (chn12 ss (left.set l (left.getD l 0 - s))).map (l :: ·)) = F := ⟨_, rfl⟩
    rw [hF] at HX
    have HF := Lib.hid (fun l => congrFun hF l)
    obtain ⟨b1, o1, y1, rfl, hb1, hcy, _, _, HY1⟩ := h1.at (k := 0) (by simp)
    obtain rfl : y1 = s := HY1.out.symm.trans rfl
    have hgb := (ho.bd g rfl).1
    have hn0 : (((y1 :: ss).length : Int) == 0) = false := by simp; omega
    have HLn := Lib.hid (show (y1 :: ss).length = ss.length + 1 from rfl)
    clear ih hF hs hsr hlr
    obtain ⟨N, hN⟩ : ∃ N, (y1 :: ss).length = N := ⟨_, rfl⟩
    have HNS := Lib.hid (show N = ss.length + 1 by rw [← hN]; rfl)
    have hN1 : 1 ≤ N := by rw [HNS.out]; omega
    have hN65 : N ≤ 65 := by rw [HNS.out]; omega
    rw [hN] at h1 hn0 ⊢
    have hn0' : ((N : Int) == 0) = false := by simp; omega
    clear hn0 hN HLn
    go_enter Try.func62, Try.ntmps62
    go_wp2
    go_loopw [15] (fun s15 wr => ∃ l : Nat, l ≤ left.length ∧ s15 = .int .i64 l ∧ Hid (∀ l', l' < l → F l' = none) ∧ Hid (Below w.heap.size w wr)) (fun s15 _ => left.length - (intOf s15).toNat)
    case atStart => exact ⟨0, Nat.zero_le _, rfl, Lib.hid (fun l' h => by omega), Lib.hid (Below.refl _ _)⟩
    case round =>
      obtain ⟨l, hl, rfl, HNO, HB⟩ := hrel
      by_cases hlt : l < left.length
      · obtain ⟨v, hv⟩ : ∃ v, left.getD l 0 = v := ⟨_, rfl⟩
        have hvr : 0 ≤ v ∧ v ≤ 100 := by rw [← hv, getD_at hlt]; exact HLR.out _ (List.getElem_mem hlt)
        have oR := ho.all HB.out
        have R1 := h1.all HB.out (by omega)
        have ev := own_at oR hlt hv
        have es : wr.cell? ⟨b1, o1, none⟩ = some (.int .i64 y1) := by simpa using cells_of HB.out hcy (by omega)
        have hlI : (l : Int) < (left.length : Int) := by omega
        have hN1I : (0 : Int) < (N : Int) := by omega
        have hcc := oR.rd.cap
        have hmm := oR.rd.max
        unfold maxLen at hmm
        have HV := Lib.hid hv
        clear hv
        by_cases hvs : v < y1
        · have HN2 := Lib.hid (show ∀ l', l' < l + 1 → F l' = none from fun l' h => by
            by_cases e : l' = l
            · subst e; rw [← HF.out l', HV.out, if_pos (.inl hvs)]
            · exact HNO.out l' (by omega))
          go_wp2
          go_roundw
          case rel => exact ⟨l + 1, hlt, by go_num, HN2, HB⟩
          case measure => simp [intOf]; omega
        · obtain ⟨dm, hdm⟩ : ∃ dm, decide (v ∈ left.take l) = dm := ⟨_, rfl⟩
          have hvd : decide (v < y1) = false := by simp; omega
          have hct := contains_take g c l wr.heap.size left v dm wr oR.rd hl hdm
          cases dm with
          | true =>
            have HN2 := Lib.hid (show ∀ l', l' < l + 1 → F l' = none from fun l' h => by
              by_cases e : l' = l
              · subst e; rw [← HF.out l', HV.out, if_pos (.inr (of_decide_eq_true hdm))]
              · exact HNO.out l' (by omega))
            clear hdm
            go_wp2_with ((go_at_call 81; (with_reducible refine (hct).mono ?_); rintro e w' ⟨rfl, rfl⟩))
            go_roundw
            case rel => exact ⟨l + 1, hlt, by go_num, HN2, HB⟩
            case measure => simp [intOf]; omega
          | false =>
            have HFl := Lib.hid (show F l = (chn12 ss (left.set l (v - y1))).map (l :: ·) by rw [← HF.out l, HV.out, if_neg (fun h => h.elim hvs (of_decide_eq_false hdm))])
            obtain ⟨hfz, oP, hgr⟩ := own_put oR l (v - y1) ⟨by omega, by omega⟩
            have R2 := R1.mark hgr (fun q hq => by cases hq; omega) (by have := HB.out.size; omega)
            have hz1 : (wr.setCell ⟨g, l, none⟩ (.int .i64 (v - y1))).heap.size = wr.heap.size := by simp [World.setCell]
            have hzr := HB.out.size
            have hres := fun w2 hb => below_restore (u := .int .i64 (v - y1)) (w2 := w2) oR hlt HV.out hb
            have HRES := Lib.hid hres
            have hlow : lo ≤ (wr.setCell ⟨g, l, none⟩ (.int .i64 (v - y1))).heap.size := by omega
            clear hdm hgr hres R1
            go_upto_region 8 with ((go_at_call 81; (with_reducible refine (hct).mono ?_); rintro e w' ⟨rfl, rfl⟩))
            clear hct hfz ev es oR
            generalize wr.setCell ⟨g, l, none⟩ (.int .i64 (v - y1)) = W1 at *
            go_wp2_with (refine wpList_restI rfl (.tmp 41) (.const (.int .i64 1)) rfl b1 o1 B1 N c1 1 (y1 :: ss) _ rfl rfl rfl hN1 R2 ?_)
            intro off' R3
            have hNe : N - 1 = ss.length := by rw [HNS.out]; omega
            rw [hNe] at R3 ⊢
            have oP' : Own W1 lo (.slice (some ⟨g, 0, none⟩) (left.set l (v - y1)).length c) (left.set l (v - y1)) := by rw [List.length_set]; exact oP
            have hcall := HIH.out (left.set l (v - y1)) (by rw [List.length_set]; exact hl6) (fun x hx => by
              rcases List.mem_or_eq_of_mem_set hx with h | rfl
              · exact HLR.out x h
              · omega) (some ⟨b1, off', none⟩) (c1 - 1) B1 g c lo W1 R3 oP' hB hlow
            rw [List.length_set] at hcall
            go_wp2_with fail
            refine hcall.mono ?_
            rintro e w2 ⟨p, rfl, hch, hb2⟩
            obtain ⟨pa, rfl⟩ := hch.ptr
            have oQ := oP.all hb2
            have HB3 := Lib.hid (HB.out.trans ((HRES.out w2 hb2).mono hzr))
            have ev2 := own_at oQ (j := l) (by rw [List.length_set]; exact hlt) rfl
            obtain ⟨hfz2, oR2, hgr2⟩ := own_put oQ l v ⟨by omega, by omega⟩
            have hch2 := hch.far oQ l (.int .i64 v)
            have hsz3 : (w2.setCell ⟨g, l, none⟩ (.int .i64 v)).heap.size = w2.heap.size := by simp [World.setCell]
            clear hcall hb2 oP oP' R2 R3 HRES hgr2 oR2 HB hch oQ
            cases hr : chn12 ss (left.set l (v - y1)) with
            | some r =>
              rw [hr] at hch2
              have HFin := Lib.hid (HX.out.trans (findSome_first HNO.out hlt (show F l = some (l :: r) by rw [HFl.out, hr]; rfl)))
              clear hr
              go_upto_region 10 with fail
              clear hfz2 ev2
              generalize w2.setCell ⟨g, l, none⟩ (.int .i64 v) = W3 at *
              have hb4 := Lib.hid (HB3.out.alloc HB3.out.size (.cells #[.int .i64 l, .pointer pa] 71))
              have x4 := Blk.new W3 #[.int .i64 l, .pointer pa] 71
              have hch4 := hch2.all ((Below.refl _ _).alloc (Nat.le_refl _) (.cells #[.int .i64 l, .pointer pa] 71))
              go_wp2
              go_ret2
              rw [HFin.out]
              exact ⟨_, rfl, ⟨_, _, rfl, x4.at_ hsz3, hch4⟩, hb4.out⟩
            | none =>
              have HN2 := Lib.hid (show ∀ l', l' < l + 1 → F l' = none from fun l' h => by
                by_cases e : l' = l
                · subst e; rw [HFl.out, hr]; rfl
                · exact HNO.out l' (by omega))
              clear hr hch2
              go_wp2
              go_roundw
              case rel => exact ⟨l + 1, hlt, by go_num, HN2, HB3⟩
              case measure => simp [intOf]; omega
      · have HFin := Lib.hid (HX.out.trans (findSome_none (fun l' h => HNO.out l' (by omega))))
        go_wp2
        go_ret2
        rw [HFin.out]
        exact ⟨.pointer none, rfl, rfl, HB.out⟩
end Go.Proofs.Ytacnbbdaacfacaa
