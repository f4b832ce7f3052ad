/- The walk of the program's SplitString: a loop over an iterator that collects copies of the parts. No condition. -/
import Derived.Test.YteiaanaljimghaaShelf
import Derived.Test.YteiaanaljimghaaSplitIter
namespace Go.Proofs.Yteiaanaljimghaa
open Go.RowKit Go.Shelf
attribute [local go_sem] Oper.semAt_some

theorem parts_stops (n : Nat) (hn : 1 ≤ n) (p : Nat) (s : ByteArray) (b : UInt8) (hs : s.size ≤ 4000) (w : World) (h1 : Blk w p 9 #[.string s]) (h2 : Blk w (p + 1) 5 #[.int .u8 (b.toNat : Int)]) :
    SeqStopsK Fence.wide n Try.prog 76 #[.pointer (some ⟨p, 0, none⟩), .pointer (some ⟨p + 1, 0, none⟩)] (fun x : Part => #[.string x.1]) (Kp2 p) (fun ys => partsD ys = splitL b s.data.toList) (fun _ => True) (s.size + 1) w := fun l J Jx W hW hJ _ hY h0 =>
  parts1_in n hn l p s b hs J Jx W hJ hY (h1.all hW) (h2.all hW) h0
theorem clone_any (s : ByteArray) (w : World) (hm : s.size ≤ 281474976710656) : Calls Try.prog 72 #[.string s] w (Out w (.string s)) := by
  go_enter Try.func72, Try.ntmps72
  go_wp2_with fail
  refine (Try.stringslite_Clone s _ hm).mono ?_
  rintro e w1 ⟨rfl, hb⟩
  go_wp2
  go_ret
  exact ⟨rfl, hb⟩
theorem keeps_below {W W' : World} (h : Below W.heap.size W W') : KeepsOthers W W' := ⟨h.size, fun k _ hk _ => (h.block k (Array.getElem?_eq_some_iff.1 hk).1).trans hk⟩

theorem row_low {w : World} {base lo e size n : Nat} {v : Value} {xs : List Value} (h : w.ownsRow base e size v n xs) (hl : lo ≤ base) : w.ownsRow lo e size v n xs := by
  refine ⟨h.1, ?_⟩
  rcases h.2 with h0 | ⟨g, cap, cur, hv, hb, r⟩
  · exact .inl h0
  · exact .inr ⟨g, cap, cur, hv, Nat.le_trans hl hb, r⟩
/-- What the store of the longer list leaves: the variable's box p, the two boxes behind it, the row beyond them. -/
theorem app3 {w1 w2 : World} {p k m : Nat} {v v' : Value} {xs ys : List Value} {tmp : Obj} (hv1 : Boxed w1 p 58 v) (hrow1 : w1.ownsRow (p + 3) 9 1 v k xs) (hz : p + 3 ≤ w1.heap.size)
    (hown' : w2.ownsRow (p + 3) 9 1 v' m ys) (hgrow : (w1.alloc tmp).grownBy w2 v.ownBlock) :
    Boxed w2 p 58 v ∧ Boxed (w2.setCell ⟨p, 0, none⟩ v') p 58 v' ∧ (w2.setCell ⟨p, 0, none⟩ v').ownsRow (p + 3) 9 1 v' m ys ∧ KeepsOthers w1 (w2.setCell ⟨p, 0, none⟩ v') ∧ Kp2 (p + 1) w1 (w2.setCell ⟨p, 0, none⟩ v') ∧ Below p w1 (w2.setCell ⟨p, 0, none⟩ v') := by
  obtain ⟨a1, a2, _, a4, a5⟩ := hv1.appended (by decide) (row_low hrow1 (show p ≤ p + 3 by omega)) (by omega) (Nat.le_refl _) (row_low hown' (show p ≤ p + 3 by omega)) hgrow
  have hk : ∀ j, p < j → j < p + 3 → (w2.setCell ⟨p, 0, none⟩ v').heap[j]? = w1.heap[j]? := by
    intro j h1 h2
    rw [heap_setCell_other _ _ _ _ (by show j ≠ p; omega)]
    rw [hgrow.block j (by simp; omega) (fun e => by
      rcases hrow1.2 with ⟨rfl, _⟩ | ⟨g, cap, cur, rfl, hb, _⟩
      · simp [Value.ownBlock] at e
      · obtain rfl : j = g := by simpa [Value.ownBlock] using e
        omega)]
    exact Below.heap_alloc w1 tmp j (by omega)
  exact ⟨a1, a2, hown'.kept (grownBy_setCell' w2 p v') (.inr (a1.not_row (by decide) hown').symm), a4, ⟨hk _ (by omega) (by omega), hk _ (by omega) (by omega)⟩, a5⟩

/-- append to an owned row, as one step of a region that draws its order, inside a fence. -/
theorem step_append_in {F : Fence} {n : Nat} {P : Program} {ops : Array Oper} {w : World} {o : Oper} {a : Act} {K : Act → World → Prop} {Q : Exit → Act → World → Prop} {E : Prop}
    (hg : o.guard = none) (s x : Operand) (t : TypeId) (hop : o.op = Op.call { callee := Callee.builtin Builtin.append, args := #[s, x], argTypes := #[t, t] })
    (base : Nat) (e : TypeId) (i : TypeInfo) (z : Value) (size bytes : Nat) (h1 : P.underlying t = some (.slice e)) (h2 : P.info? e = some i) (h3 : i.zero = some z) (h4 : i.size = size) (h5 : i.bytes = bytes) (h6 : z.cells.size = size) (h7 : 0 < size)
    (v : Value) (k : Nat) (xs : List Value) (hs : a.eval s = v) (hown : w.ownsRow base e size v k xs) (ad : Addr) (m c : Nat) (news : List Value) (hx : a.eval x = .slice (some ad) m c) (hn : news.length = m * size)
    (hc : ∀ j u, news[j]? = some u → w.cell? (ad.add j) = some u) (h1c : ∀ u ∈ news, u.oneCell' = true) (b1 : k + m ≤ maxLen) (b2 : (k + m) * bytes ≤ 140737488355328) (b3 : base ≤ w.heap.size)
    (hK : ∀ v' w', w'.ownsRow base e size v' (k + m) (xs ++ news) → w.grownBy w' v.ownBlock → K (a.put o.dst v') w') :
    if Region.wanted o (yielded ops a.tmps) = true then Oper.wpIn F n P o a w K Q else E := by
  rw [if_pos (show Region.wanted o (yielded ops a.tmps) = true by simp [Region.wanted, hg])]
  obtain ⟨v', w', hrun, r1, r2, _⟩ := run_append_own (P := P) w base t o.type e i z size bytes h1 h2 h3 h4 h5 h6 h7 v k xs hown ad m c news hn hc h1c b1 b2 b3
  unfold Oper.wpIn
  refine ⟨?_, ?_⟩
  · simp [Oper.about, hop, resolve, Target.leads, Sem.run_pure]
  · rw [Oper.semAt_plain F _ _ (by rw [hop]; intro c hc'; cases hc')]
    simp [execOp, hop, resolve, invoke, builtin, hs, hx, hrun, Result.andThen]
    exact hK _ _ r1 r2

set_option maxRecDepth 100000 in
set_option maxHeartbeats 4000000 in
theorem implSplitString_yes (s sep : ByteArray) (w : World) (hs : s.size ≤ 4000) (h1 : sep.size = 1) :
    Calls Try.prog 43 #[.string s, .string sep] w fun e w' => ∃ A c P, e = .returned (.tuple #[.slice A P.length c, .bool true]) ∧ OwnF strF w' w.heap.size (.slice A P.length c) P ∧ Below w.heap.size w w' ∧ P.map (·.data.toList) = splitL (sep[0]'(by omega)) s.data.toList := by
  have h0 : 0 < sep.size := by omega
  refine (callsIn_wide (n := 3)).1 ?_
  refine callsIn_of_wp_marks Try.func43 rfl trivial ?_ rfl
  simp only [Try.ntmps43, List.size_toArray, List.length_cons, List.length_nil, Nat.reduceAdd, Nat.reduceSub, Array.replicate_succ, Array.replicate_zero, List.push_toArray, List.append_toArray, List.nil_append, List.cons_append]
  have hdec : decide ((4000 : Int) < (s.size : Int)) = false := by simp; omega
  gi_wp2_with (refine ⟨trivial, ?_⟩; gi_at_call 71; refine (between_in Fence.wide _ trivial rfl _ _ _).mono ?_; rintro e w' ⟨rfl, rfl⟩)
  obtain ⟨i0, hi, hz0, hz1, hz2⟩ := info_parts info_str
  have bO := Boxed.new w 58 (.slice none 0 0)
  have bS := (Blk.new (w.alloc (.cells #[.slice none 0 0] 58)) #[.string s] 9).alloc (.cells #[.int .u8 (sep[0].toNat : Int)] 5)
  have bB := Blk.new ((w.alloc (.cells #[.slice none 0 0] 58)).alloc (.cells #[.string s] 9)) #[.int .u8 (sep[0].toNat : Int)] 5
  simp only [World.size_alloc] at bS bB
  have hB0 := (((Below.refl w.heap.size w).alloc (Nat.le_refl _) (.cells #[.slice none 0 0] 58)).alloc (by simp) (.cells #[.string s] 9)).alloc (by first | (simp; done) | (simp; omega)) (.cells #[.int .u8 (sep[0].toNat : Int)] 5)
  refine wpIn_rangeFunc_ownG rfl (by omega) (gf := 76) (lb := #[.pointer (some ⟨w.heap.size + 1, 0, none⟩), .pointer (some ⟨w.heap.size + 1 + 1, 0, none⟩)]) rfl trivial (enters_of Try.func76 (by kernel_rfl) rfl)
    (parts_stops 2 (by omega) (w.heap.size + 1) s sep[0] hs _ bS bB) kp2_t (kp2_b (by simp)) (Below.refl _ _) (fun _ => rfl)
    (fun pre W => (∃ v, Boxed W w.heap.size 58 v ∧ W.ownsRow (w.heap.size + 3) 9 1 v pre.length (pre.map fun x : Part => Value.string x.1) ∧ True) ∧ Below w.heap.size w W ∧ w.heap.size + 3 ≤ W.heap.size)
    (fun _ _ _ => False)
    (OwnFrom.and (Go.Own.from (holdsRow_own (w.heap.size + 3) w.heap.size 58 9 1 (fun pre : List Part => pre.length) (fun pre => pre.map fun x : Part => Value.string x.1) (fun _ _ => True)) _) (OwnFrom.and (ownFrom_below (Nat.le_refl _) (by simp; omega)) (fun _ _ _ _ hs hg _ => Nat.le_trans hs hg.size)))
    (fun _ _ _ _ _ hs _ _ => hs)
    ⟨⟨_, (bO.alloc _).alloc _, World.ownsRow_nil _ _ _ _, trivial⟩, hB0, by simp⟩
    (fun x : Part => { tmps := #[.string s, .string sep, undef, undef, .slice none 0 0, .bool false, .pointer (some ⟨w.heap.size, 0, none⟩), .string x.1, .string s, .int .i64 s.size, .bool false, .bool false, .string sep, .int .i64 1, .bool false, .bool false, .string s, .string sep, .int .u8 (sep[0].toNat : Int), .func (.func 76) #[] #[.pointer (some ⟨w.heap.size + 1, 0, none⟩), .pointer (some ⟨w.heap.size + 1 + 1, 0, none⟩)], .string x.1, undef, undef, undef, undef, undef, undef], defers := [] }) ?assign ?body ?done ?stop
  case assign =>
    intro l x W K hK
    gi_wp2
    exact hK
  case body =>
    rintro l pre x W ⟨⟨v, hv, hrow, _⟩, hB, hb5⟩ hlt
    have hx4 := x.2
    have hc := hv.cell
    have hf := hv.frozen
    have hbz := hB.size
    have hmx : Try.prog.follows .mixedOrders = true := by kernel_rfl
    have hd : 1 ≤ 3 - 1 - 1 := by omega
    gi_wp2
    refine wpIn_region_any (by assumption) ?_
    try (change wpAnyIn _ _ _ _ _ _ _ _ _ (World.drew _))
    refine wpAnyIn_ready (rs := [0, 1]) (by kernel_rfl) (by simp) ?_
    refine AllReadyIn.cons rfl (fun K hK => ?_) ?_
    · skip
      go_simp
      refine hK _ _ ?_
      clear hK K
      (try simp only [Act.put, List.getElem_toArray, List.getElem_cons_zero, List.setIfInBounds_toArray, List.set_cons_zero, List.set_cons_succ])
      refine wpAnyIn_ready (rs := [1]) (by kernel_rfl) (by simp) ?_
      refine AllReadyIn.cons rfl (fun K hK => ?_) ?_
      · skip
        go_simp
        refine hK _ _ ?_
        clear hK K
        (try simp only [Act.put, List.getElem_toArray, List.getElem_cons_zero, List.getElem_cons_succ, List.setIfInBounds_toArray, List.set_cons_zero, List.set_cons_succ])
        refine wpAnyIn_ready (rs := [2]) (by kernel_rfl) (by simp) ?_
        refine AllReadyIn.cons rfl (fun K hK => ?_) ?_
        · skip
          go_simp
          refine ⟨trivial, (CallsIn.inRound l (callsIn_wide.2 (clone_any _ _ (by omega)))).mono ?_⟩
          rintro e w1 ⟨rfl, hb1⟩
          (try replace hb1 := below_drew' hb1)
          have hv1 : Boxed w1 w.heap.size 58 v := Blk.all hv hb1
          have hrow1 := row_all hrow hb1
          have hc1 := hv1.cell
          have hz1' := hb1.size
          have hk1 := keeps_below hb1
          have hp1 : Kp2 (w.heap.size + 1) W w1 := ⟨hb1.block _ (by omega), hb1.block _ (by omega)⟩
          have hB1 := hB.trans (hb1.mono hbz)
          have hsz3 : w.heap.size + 3 ≤ w1.heap.size := by omega
          (try simp only [])
          refine hK _ _ ?_
          clear hK K
          (try simp only [Act.put, List.getElem_toArray, List.getElem_cons_zero, List.getElem_cons_succ, List.setIfInBounds_toArray, List.set_cons_zero, List.set_cons_succ])
          refine wpAnyIn_ready (rs := [3]) (by kernel_rfl) (by simp) ?_
          refine AllReadyIn.cons rfl (fun K hK => ?_) ?_
          · skip
            have hca := (Boxed.alloc hv1 (.cells #[.string x.1] 9)).cell
            go_simp
            refine hK _ _ ?_
            clear hK K
            (try simp only [Act.put, List.getElem_toArray, List.getElem_cons_zero, List.getElem_cons_succ, List.setIfInBounds_toArray, List.set_cons_zero, List.set_cons_succ])
            refine wpAnyIn_ready (rs := [4]) (by kernel_rfl) (by simp) ?_
            refine AllReadyIn.cons rfl (fun K hK => ?_) ?_
            · skip
              refine step_append_in rfl (.tmp 21) (.tmp 24) 58 rfl (w.heap.size + 3) 9 i0 (.string ⟨#[]⟩) 1 16 Try.underlying58 hi hz0 hz1 hz2 rfl (by decide) _ _ _ rfl (hrow1.alloc _) ⟨w1.heap.size, 0, none⟩ 1 1 [.string x.1] rfl rfl (cell_one_new _ _ _) (by simp [Value.oneCell']) (by unfold maxLen; omega) (by omega) (by simp; omega) ?_
              intro v' w2 hown' hgrow
              obtain ⟨g', cap', rfl⟩ := ownsRow_succ hown'
              obtain ⟨hv2, hv3, hr3, hk3, hp3, hb3⟩ := app3 hv1 hrow1 (by omega) hown' hgrow
              have hc2 := hv2.cell
              have hf2 := hv2.frozen
              refine hK _ _ ?_
              clear hK K
              (try simp only [Act.put, List.getElem_toArray, List.getElem_cons_zero, List.getElem_cons_succ, List.setIfInBounds_toArray, List.set_cons_zero, List.set_cons_succ])
              refine wpAnyIn_ready (rs := [5]) (by kernel_rfl) (by simp) ?_
              refine AllReadyIn.cons rfl (fun K hK => ?_) ?_
              · skip
                go_simp
                refine hK _ _ ?_
                clear hK K
                (try simp only [Act.put, List.getElem_toArray, List.getElem_cons_zero, List.getElem_cons_succ, List.setIfInBounds_toArray, List.set_cons_zero, List.set_cons_succ])
                refine wpAnyIn_done (by kernel_rfl) ?_ _
                gi_wp2
                exact ⟨(hk1.trans hk3).from _, kp2_t hp1 hp3, ⟨_, hv3, by simpa using hr3, trivial⟩, hB1.trans hb3, Nat.le_trans hb5 (Nat.le_trans hk1.size hk3.size)⟩
              exact AllReadyIn.nil
            exact AllReadyIn.nil
          exact AllReadyIn.nil
        exact AllReadyIn.nil
      exact AllReadyIn.nil
    refine AllReadyIn.cons rfl (fun K hK => ?_) ?_
    · skip
      go_simp
      refine hK _ _ ?_
      clear hK K
      (try simp only [Act.put, List.getElem_toArray, List.getElem_cons_zero, List.getElem_cons_succ, List.setIfInBounds_toArray, List.set_cons_zero, List.set_cons_succ])
      refine wpAnyIn_ready (rs := [0, 2]) (by kernel_rfl) (by simp) ?_
      refine AllReadyIn.cons rfl (fun K hK => ?_) ?_
      · skip
        go_simp
        refine hK _ _ ?_
        clear hK K
        (try simp only [Act.put, List.getElem_toArray, List.getElem_cons_zero, List.setIfInBounds_toArray, List.set_cons_zero, List.set_cons_succ])
        refine wpAnyIn_ready (rs := [2]) (by kernel_rfl) (by simp) ?_
        refine AllReadyIn.cons rfl (fun K hK => ?_) ?_
        · skip
          go_simp
          refine ⟨trivial, (CallsIn.inRound l (callsIn_wide.2 (clone_any _ _ (by omega)))).mono ?_⟩
          rintro e w1 ⟨rfl, hb1⟩
          (try replace hb1 := below_drew' hb1)
          have hv1 : Boxed w1 w.heap.size 58 v := Blk.all hv hb1
          have hrow1 := row_all hrow hb1
          have hc1 := hv1.cell
          have hz1' := hb1.size
          have hk1 := keeps_below hb1
          have hp1 : Kp2 (w.heap.size + 1) W w1 := ⟨hb1.block _ (by omega), hb1.block _ (by omega)⟩
          have hB1 := hB.trans (hb1.mono hbz)
          have hsz3 : w.heap.size + 3 ≤ w1.heap.size := by omega
          (try simp only [])
          refine hK _ _ ?_
          clear hK K
          (try simp only [Act.put, List.getElem_toArray, List.getElem_cons_zero, List.getElem_cons_succ, List.setIfInBounds_toArray, List.set_cons_zero, List.set_cons_succ])
          refine wpAnyIn_ready (rs := [3]) (by kernel_rfl) (by simp) ?_
          refine AllReadyIn.cons rfl (fun K hK => ?_) ?_
          · skip
            have hca := (Boxed.alloc hv1 (.cells #[.string x.1] 9)).cell
            go_simp
            refine hK _ _ ?_
            clear hK K
            (try simp only [Act.put, List.getElem_toArray, List.getElem_cons_zero, List.getElem_cons_succ, List.setIfInBounds_toArray, List.set_cons_zero, List.set_cons_succ])
            refine wpAnyIn_ready (rs := [4]) (by kernel_rfl) (by simp) ?_
            refine AllReadyIn.cons rfl (fun K hK => ?_) ?_
            · skip
              refine step_append_in rfl (.tmp 21) (.tmp 24) 58 rfl (w.heap.size + 3) 9 i0 (.string ⟨#[]⟩) 1 16 Try.underlying58 hi hz0 hz1 hz2 rfl (by decide) _ _ _ rfl (hrow1.alloc _) ⟨w1.heap.size, 0, none⟩ 1 1 [.string x.1] rfl rfl (cell_one_new _ _ _) (by simp [Value.oneCell']) (by unfold maxLen; omega) (by omega) (by simp; omega) ?_
              intro v' w2 hown' hgrow
              obtain ⟨g', cap', rfl⟩ := ownsRow_succ hown'
              obtain ⟨hv2, hv3, hr3, hk3, hp3, hb3⟩ := app3 hv1 hrow1 (by omega) hown' hgrow
              have hc2 := hv2.cell
              have hf2 := hv2.frozen
              refine hK _ _ ?_
              clear hK K
              (try simp only [Act.put, List.getElem_toArray, List.getElem_cons_zero, List.getElem_cons_succ, List.setIfInBounds_toArray, List.set_cons_zero, List.set_cons_succ])
              refine wpAnyIn_ready (rs := [5]) (by kernel_rfl) (by simp) ?_
              refine AllReadyIn.cons rfl (fun K hK => ?_) ?_
              · skip
                go_simp
                refine hK _ _ ?_
                clear hK K
                (try simp only [Act.put, List.getElem_toArray, List.getElem_cons_zero, List.getElem_cons_succ, List.setIfInBounds_toArray, List.set_cons_zero, List.set_cons_succ])
                refine wpAnyIn_done (by kernel_rfl) ?_ _
                gi_wp2
                exact ⟨(hk1.trans hk3).from _, kp2_t hp1 hp3, ⟨_, hv3, by simpa using hr3, trivial⟩, hB1.trans hb3, Nat.le_trans hb5 (Nat.le_trans hk1.size hk3.size)⟩
              exact AllReadyIn.nil
            exact AllReadyIn.nil
          exact AllReadyIn.nil
        exact AllReadyIn.nil
      refine AllReadyIn.cons rfl (fun K hK => ?_) ?_
      · skip
        go_simp
        refine ⟨trivial, (CallsIn.inRound l (callsIn_wide.2 (clone_any _ _ (by omega)))).mono ?_⟩
        rintro e w1 ⟨rfl, hb1⟩
        (try replace hb1 := below_drew' hb1)
        have hv1 : Boxed w1 w.heap.size 58 v := Blk.all hv hb1
        have hrow1 := row_all hrow hb1
        have hc1 := hv1.cell
        have hz1' := hb1.size
        have hk1 := keeps_below hb1
        have hp1 : Kp2 (w.heap.size + 1) W w1 := ⟨hb1.block _ (by omega), hb1.block _ (by omega)⟩
        have hB1 := hB.trans (hb1.mono hbz)
        have hsz3 : w.heap.size + 3 ≤ w1.heap.size := by omega
        (try simp only [])
        refine hK _ _ ?_
        clear hK K
        (try simp only [Act.put, List.getElem_toArray, List.getElem_cons_zero, List.getElem_cons_succ, List.setIfInBounds_toArray, List.set_cons_zero, List.set_cons_succ])
        refine wpAnyIn_ready (rs := [0, 3]) (by kernel_rfl) (by simp) ?_
        refine AllReadyIn.cons rfl (fun K hK => ?_) ?_
        · skip
          go_simp
          refine hK _ _ ?_
          clear hK K
          (try simp only [Act.put, List.getElem_toArray, List.getElem_cons_zero, List.setIfInBounds_toArray, List.set_cons_zero, List.set_cons_succ])
          refine wpAnyIn_ready (rs := [3]) (by kernel_rfl) (by simp) ?_
          refine AllReadyIn.cons rfl (fun K hK => ?_) ?_
          · skip
            have hca := (Boxed.alloc hv1 (.cells #[.string x.1] 9)).cell
            go_simp
            refine hK _ _ ?_
            clear hK K
            (try simp only [Act.put, List.getElem_toArray, List.getElem_cons_zero, List.getElem_cons_succ, List.setIfInBounds_toArray, List.set_cons_zero, List.set_cons_succ])
            refine wpAnyIn_ready (rs := [4]) (by kernel_rfl) (by simp) ?_
            refine AllReadyIn.cons rfl (fun K hK => ?_) ?_
            · skip
              refine step_append_in rfl (.tmp 21) (.tmp 24) 58 rfl (w.heap.size + 3) 9 i0 (.string ⟨#[]⟩) 1 16 Try.underlying58 hi hz0 hz1 hz2 rfl (by decide) _ _ _ rfl (hrow1.alloc _) ⟨w1.heap.size, 0, none⟩ 1 1 [.string x.1] rfl rfl (cell_one_new _ _ _) (by simp [Value.oneCell']) (by unfold maxLen; omega) (by omega) (by simp; omega) ?_
              intro v' w2 hown' hgrow
              obtain ⟨g', cap', rfl⟩ := ownsRow_succ hown'
              obtain ⟨hv2, hv3, hr3, hk3, hp3, hb3⟩ := app3 hv1 hrow1 (by omega) hown' hgrow
              have hc2 := hv2.cell
              have hf2 := hv2.frozen
              refine hK _ _ ?_
              clear hK K
              (try simp only [Act.put, List.getElem_toArray, List.getElem_cons_zero, List.getElem_cons_succ, List.setIfInBounds_toArray, List.set_cons_zero, List.set_cons_succ])
              refine wpAnyIn_ready (rs := [5]) (by kernel_rfl) (by simp) ?_
              refine AllReadyIn.cons rfl (fun K hK => ?_) ?_
              · skip
                go_simp
                refine hK _ _ ?_
                clear hK K
                (try simp only [Act.put, List.getElem_toArray, List.getElem_cons_zero, List.getElem_cons_succ, List.setIfInBounds_toArray, List.set_cons_zero, List.set_cons_succ])
                refine wpAnyIn_done (by kernel_rfl) ?_ _
                gi_wp2
                exact ⟨(hk1.trans hk3).from _, kp2_t hp1 hp3, ⟨_, hv3, by simpa using hr3, trivial⟩, hB1.trans hb3, Nat.le_trans hb5 (Nat.le_trans hk1.size hk3.size)⟩
              exact AllReadyIn.nil
            exact AllReadyIn.nil
          exact AllReadyIn.nil
        refine AllReadyIn.cons rfl (fun K hK => ?_) ?_
        · skip
          have hca := (Boxed.alloc hv1 (.cells #[.string x.1] 9)).cell
          go_simp
          refine hK _ _ ?_
          clear hK K
          (try simp only [Act.put, List.getElem_toArray, List.getElem_cons_zero, List.getElem_cons_succ, List.setIfInBounds_toArray, List.set_cons_zero, List.set_cons_succ])
          refine wpAnyIn_ready (rs := [0]) (by kernel_rfl) (by simp) ?_
          refine AllReadyIn.cons rfl (fun K hK => ?_) ?_
          · skip
            go_simp
            refine hK _ _ ?_
            clear hK K
            (try simp only [Act.put, List.getElem_toArray, List.getElem_cons_zero, List.setIfInBounds_toArray, List.set_cons_zero, List.set_cons_succ])
            refine wpAnyIn_ready (rs := [4]) (by kernel_rfl) (by simp) ?_
            refine AllReadyIn.cons rfl (fun K hK => ?_) ?_
            · skip
              refine step_append_in rfl (.tmp 21) (.tmp 24) 58 rfl (w.heap.size + 3) 9 i0 (.string ⟨#[]⟩) 1 16 Try.underlying58 hi hz0 hz1 hz2 rfl (by decide) _ _ _ rfl (hrow1.alloc _) ⟨w1.heap.size, 0, none⟩ 1 1 [.string x.1] rfl rfl (cell_one_new _ _ _) (by simp [Value.oneCell']) (by unfold maxLen; omega) (by omega) (by simp; omega) ?_
              intro v' w2 hown' hgrow
              obtain ⟨g', cap', rfl⟩ := ownsRow_succ hown'
              obtain ⟨hv2, hv3, hr3, hk3, hp3, hb3⟩ := app3 hv1 hrow1 (by omega) hown' hgrow
              have hc2 := hv2.cell
              have hf2 := hv2.frozen
              refine hK _ _ ?_
              clear hK K
              (try simp only [Act.put, List.getElem_toArray, List.getElem_cons_zero, List.getElem_cons_succ, List.setIfInBounds_toArray, List.set_cons_zero, List.set_cons_succ])
              refine wpAnyIn_ready (rs := [5]) (by kernel_rfl) (by simp) ?_
              refine AllReadyIn.cons rfl (fun K hK => ?_) ?_
              · skip
                go_simp
                refine hK _ _ ?_
                clear hK K
                (try simp only [Act.put, List.getElem_toArray, List.getElem_cons_zero, List.getElem_cons_succ, List.setIfInBounds_toArray, List.set_cons_zero, List.set_cons_succ])
                refine wpAnyIn_done (by kernel_rfl) ?_ _
                gi_wp2
                exact ⟨(hk1.trans hk3).from _, kp2_t hp1 hp3, ⟨_, hv3, by simpa using hr3, trivial⟩, hB1.trans hb3, Nat.le_trans hb5 (Nat.le_trans hk1.size hk3.size)⟩
              exact AllReadyIn.nil
            exact AllReadyIn.nil
          exact AllReadyIn.nil
        exact AllReadyIn.nil
      exact AllReadyIn.nil
    exact AllReadyIn.nil
  case done =>
    rintro D ys W hD hys ⟨⟨v, hv, hrow, _⟩, hB, _⟩ hK
    have HO : OwnF strF W (w.heap.size + 3) v (ys.map fun x : Part => x.1) := own_strs (by simpa using hrow) (fun y hy => by
      obtain ⟨q, _, rfl⟩ := List.mem_map.1 hy
      have := q.2; unfold maxLen; omega)
    obtain ⟨A', c', rfl, _, _⟩ := HO.form
    have hrow' := ownsRow_putObj HO.1 (.deferred none) hK rfl
    have hc := hv.cell
    gi_wp2
    refine ⟨by simp, .inl ⟨_, _, rfl, run_takeDeferred hK, ?_⟩⟩
    refine ⟨.tuple #[.slice A' (ys.map fun x : Part => x.1).length c', .bool true], (by simp [results, Try.results43, go_sem]), A', c', ys.map fun x : Part => x.1, rfl, ⟨row_low hrow' (by omega), HO.2⟩, hB.trans (belowK_b (w := w) (Nat.le_refl _) W D _ _ (by simp at hD; omega) hK rfl rfl), ?_⟩
    rw [← hys, partsD, List.map_map]
    rfl
  case stop =>
    rintro D c pre W _ _ h _
    exact h.elim
end Go.Proofs.Yteiaanaljimghaa
