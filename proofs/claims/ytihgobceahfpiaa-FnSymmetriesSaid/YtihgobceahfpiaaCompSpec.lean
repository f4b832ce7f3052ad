/- The walk of the model's l4Complete. Condition: a valid chart, a symmetry that keeps its size. -/
import Derived.Test.YtihgobceahfpiaaCompMath
namespace Go.Proofs.Ytihgobceahfpiaa
open Go.RowKit

/-- append of a list to a slice of the call's own. -/
theorem wpList_append_list {P : Program} {ops : Array Oper} {rest : List Oper} {o : Oper} {a : Act} {Q : Exit → Act → World → Prop} (w : World) (hgd : o.guard = none) (s x : Operand) (T : TypeId)
    (ho : o.op = .call { callee := .builtin .append, args := #[s, x], argTypes := #[T, T] }) (ht : P.underlying T = some (.slice 3)) (hinfo : (P.info? 3).map (fun i => (i.zero, i.size, i.bytes)) = some (some (.int .i64 0), 1, 8))
    (lo : Nat) (v : Value) (xs ys : List Int) (b off m c B : Nat)
    (hs : a.eval s = v) (hx : a.eval x = .slice (some ⟨b, off, none⟩) m c) (hown : Own w lo v xs) (hy : Rd w B (some ⟨b, off, none⟩) m c ys) (hpos : 0 < m) (hlen : xs.length + ys.length ≤ 1073741824) (hlo : lo ≤ w.heap.size)
    (h : ∀ A' c' w', Own w' lo (.slice A' (xs.length + ys.length) c') (xs ++ ys) → w.grownBy w' v.ownBlock → wpList P ops Q rest (a.put o.dst (.slice A' (xs.length + ys.length) c')) w') :
    wpList P ops Q (o :: rest) a w := by
  obtain ⟨i0, hi, hz0, hz1, hz2⟩ := info_parts hinfo
  obtain rfl := hy.len
  have hc : ∀ j u, (ys.map (Value.int .i64))[j]? = some u → w.cell? ((⟨b, off, none⟩ : Addr).add j) = some u := by
    intro j u hu
    have hj : j < ys.length := by have := (List.getElem?_eq_some_iff.1 hu).1; simpa using this
    obtain ⟨_, _, e, _, hc⟩ := hy.cells (by omega)
    cases e
    have e : (⟨b, off, none⟩ : Addr).add j = ⟨b, off + j, none⟩ := by unfold Addr.add; split <;> simp_all
    rw [e, hc j hj, getD_at hj]
    rw [List.getElem?_map, List.getElem?_eq_getElem hj] at hu
    exact hu
  refine wpList_append_own _ hgd s x T ho lo 3 i0 (.int .i64 0) 1 8 ht hi hz0 hz1 hz2 rfl (by decide) v xs.length _ hs hown.1 ⟨b, off, none⟩ ys.length c (ys.map (Value.int .i64)) hx (by simp) hc (ints_oneCell _ _) (by unfold maxLen; omega) (by omega) hlo ?_
  intro v' w' ho' hg' _
  have hO : Own w' lo v' (xs ++ ys) := ⟨by simpa using ho', fun y hy' => by
    rcases List.mem_append.1 hy' with hy' | hy'
    · exact hown.2 y hy'
    · exact hy.fits y hy'⟩
  obtain ⟨A', c', rfl, _, _⟩ := hO.form
  rw [List.length_append] at hO
  have := h A' c' w' hO hg'
  rwa [List.length_append]
/-- What the model's completion leaves. -/
def Completed (w : World) (m k : Nat) (ys : List Int) (ch : Nat) (e : Ending) (w' : World) : Prop :=
  ∃ A c, e = .returned (.tuple #[chartV m k (.slice A ys.length c), .int .i64 ((ch : Nat) : Int)]) ∧ Own w' w.heap.size (.slice A ys.length c) ys ∧ Below w.heap.size w w'
set_option maxRecDepth 100000 in
set_option maxHeartbeats 16000000 in
theorem l4Complete_any (m k b off cc B s : Nat) (xs : List Int) (w : World) (hR : Rd w B (some ⟨b, off, none⟩) xs.length cc xs) (hB : B ≤ w.heap.size) (hok : (⟨m, k, xs⟩ : Pic).Ok) (hs7 : s ≤ 7) (hg : Ring4 xs.length (org m k s)) (hcol : Hid (∀ x ∈ xs, 0 ≤ x ∧ x < 6)) :
    Calls Try.prog 85 #[chartV m k (.slice (some ⟨b, off, none⟩) xs.length cc), .int .i64 s] w (Completed w m k (compL (dest m k s) xs xs.length) (chTo xs (compL (dest m k s) xs xs.length) xs.length)) := by
  have hb0 := Lib.hid (((Below.refl w.heap.size w).alloc (Nat.le_refl _) (.cells #[.int .i64 m, .int .i64 k, .slice (some ⟨b, off, none⟩) xs.length cc] 26)).alloc (by simp) (.cells #[.int .i64 0, .int .i64 0, .slice none 0 0] 26))
  have h' := Lib.hid ((hR.alloc hB (.cells #[.int .i64 m, .int .i64 k, .slice (some ⟨b, off, none⟩) xs.length cc] 26)).alloc (by simp; omega) (.cells #[.int .i64 0, .int .i64 0, .slice none 0 0] 26))
  have r0 := (Blk.new (w.alloc (.cells #[.int .i64 m, .int .i64 k, .slice (some ⟨b, off, none⟩) xs.length cc] 26)) #[.int .i64 0, .int .i64 0, .slice none 0 0] 26).at_ (q := w.heap.size + 1) (by simp)
  have x0 := (Blk.new w #[.int .i64 m, .int .i64 k, .slice (some ⟨b, off, none⟩) xs.length cc] 26).alloc (.cells #[.int .i64 0, .int .i64 0, .slice none 0 0] 26)
  obtain ⟨hx64, hl1⟩ : xs.length ≤ 64 ∧ 1 ≤ xs.length := hok.len
  have hf : Ring4 xs.length (dest m k s) := ringn hg
  obtain ⟨f, hfe⟩ : ∃ f, f = dest m k s := ⟨_, rfl⟩
  rw [← hfe] at hf ⊢
  have HFE := Lib.hid hfe
  clear hR hfe
  go_enter Try.func85, Try.ntmps85
  go_wp2_with fail
  refine (l2Own_any m k _ _ cc B xs _ h'.out (by simp; omega) (by omega)).mono ?_
  rintro e w1 ⟨A', c', rfl, own, hb⟩
  obtain ⟨g, rfl, hg1, hg2⟩ := own.some_ (by omega)
  have r1 := r0.all hb
  have x1 := x0.all hb
  have R1 := h'.out.all hb (by simp; omega)
  have HB1 := Lib.hid (hb0.out.trans (hb.mono (by simp; omega)))
  have hs1 : w.heap.size + 2 ≤ w1.heap.size := by have := hb.size; simp at this; omega
  have hg3 : w.heap.size + 2 ≤ g := by simp at hg1; omega
  replace own := own.mono (show w.heap.size ≤ _ by simp; omega)
  clear hb r0 x0 h' hb0 hg1
  have o2 := own.alloc (.cells #[.int .i64 m, .int .i64 k, .slice (some ⟨g, 0, none⟩) xs.length c'] 26)
  have r2 := r1.alloc (.cells #[.int .i64 m, .int .i64 k, .slice (some ⟨g, 0, none⟩) xs.length c'] 26)
  have x2 := x1.alloc (.cells #[.int .i64 m, .int .i64 k, .slice (some ⟨g, 0, none⟩) xs.length c'] 26)
  have R2 := R1.alloc (by omega) (.cells #[.int .i64 m, .int .i64 k, .slice (some ⟨g, 0, none⟩) xs.length c'] 26)
  have HB2 := Lib.hid (HB1.out.alloc (by omega) (.cells #[.int .i64 m, .int .i64 k, .slice (some ⟨g, 0, none⟩) xs.length c'] 26))
  have q2 := Blk.new w1 #[.int .i64 m, .int .i64 k, .slice (some ⟨g, 0, none⟩) xs.length c'] 26
  have e0 := x1.cell 0
  have e1 := x1.cell 1
  have e2 := x1.cell 2
  have hxl := x1.lt
  clear own r1 R1 HB1
  go_wp2_with fail
  refine (l4Places_any m k b off cc s xs _ hok hs7 hg).mono ?_
  rw [← HFE.out]
  rintro e w2 ⟨Ap, cp, rfl, ownp, hb⟩
  rw [orgL_len] at ownp ⊢
  obtain ⟨gp, rfl, hgp1, hgp2⟩ := ownp.some_ (by rw [orgL_len]; omega)
  have o3 := o2.all hb
  have r3 := r2.all hb
  have x3 := x2.all hb
  have q3 := q2.all hb
  have R3 := R2.all hb (by simp; omega)
  have HB3 := Lib.hid (HB2.out.trans (hb.mono (by simp; omega)))
  have hs2 : w1.heap.size + 1 ≤ w2.heap.size := by have := hb.size; simp at this; omega
  have P3 := ownp.rd
  have hgw : g < w2.heap.size := by omega
  have hgp3 : w1.heap.size + 1 ≤ gp := by simpa using hgp1
  clear hb o2 r2 x2 q2 R2 HB2 e0 e1 e2 hxl x1 ownp
  have o4 := o3.alloc (.cells #[] 3)
  have r4 := r3.alloc (.cells #[] 3)
  have x4 := x3.alloc (.cells #[] 3)
  have q4 := q3.alloc (.cells #[] 3)
  have R4 := R3.alloc (by omega) (.cells #[] 3)
  have P4 := P3.alloc (Nat.le_refl _) (.cells #[] 3)
  have HB4 := Lib.hid (HB3.out.alloc (by omega) (.cells #[] 3))
  have s4 := Own.empty (w := w2) (Nat.le_refl w2.heap.size)
  clear o3 r3 x3 q3 R3 P3 HB3
  go_wp2
  go_loopw [7, 9, 10, 11, 12, 13, 14, 15, 16, 17, 18] (fun s7 s9 s10 _ _ _ _ _ _ _ _ wr => ∃ (i : Nat) (L : List Nat) (zs : List Int) (A : Option Addr) (c : Nat), i ≤ xs.length ∧ s10 = .int .i64 i ∧ s7 = .int .i64 ((chL f xs L : Nat) : Int) ∧ s9 = .slice A L.length c ∧
      Own wr w2.heap.size (.slice A L.length c) (castL L) ∧ Hid (SeenInv xs.length f i L) ∧ L.length ≤ 4 * i ∧ Hid (OutInv f xs L zs) ∧ Own wr w.heap.size (.slice (some ⟨g, 0, none⟩) xs.length c') zs ∧
      Blk wr (w.heap.size + 1) 26 #[.int .i64 0, .int .i64 0, .slice none 0 0] ∧ Blk wr w1.heap.size 26 #[.int .i64 m, .int .i64 k, .slice (some ⟨g, 0, none⟩) xs.length c'] ∧ Blk wr w.heap.size 26 #[.int .i64 m, .int .i64 k, .slice (some ⟨b, off, none⟩) xs.length cc] ∧
      Rd wr B (some ⟨b, off, none⟩) xs.length cc xs ∧ Rd wr w2.heap.size (some ⟨gp, 0, none⟩) xs.length cp (orgL f xs.length) ∧ Below w.heap.size w wr ∧ w2.heap.size ≤ wr.heap.size)
    (fun _ _ s10 _ _ _ _ _ _ _ _ _ => xs.length - (intOf s10).toNat)
  case atStart => exact ⟨0, [], xs, _, 0, Nat.zero_le _, rfl, rfl, rfl, s4, Lib.hid (seen_start _ _), Nat.le_refl _, Lib.hid (out_start _ _), o4, r4, q4, x4, R4, P4, HB4.out, by simp⟩
  case round =>
    obtain ⟨i, L, zs, A, c, hi, rfl, rfl, rfl, oS, hseen, hL4, hout, oZ, r5, q5, x5, R5, P5, hbl, hw2⟩ := hrel
    have HB5 := Lib.hid hbl
    have hbz := hbl.size
    have hchl := chL_le f xs L
    have e2 := x5.cell 2
    clear hbl o4 r4 q4 x4 R4 P4 HB4 s4
    obtain ⟨wo, rfl⟩ : ∃ wo : World, wo = wr := ⟨_, rfl⟩
    by_cases hlt : i < xs.length
    · have hSrd := oS.rd
      by_cases hin : i ∈ L
      · have hd : decide (((i : Nat) : Int) ∈ castL L) = true := decide_eq_true (castL_mem.2 hin)
        have HS := Lib.hid (seen_skip hseen.out hin)
        go_wp2_with (go_at_call 97; (with_reducible refine (l1Has_eq A L.length c _ (castL L) i _ hSrd true hd).mono ?_); rintro e w' ⟨rfl, rfl⟩)
        go_roundw
        case rel => exact ⟨i + 1, L, zs, A, c, by omega, by go_num, rfl, rfl, oS, HS, by omega, hout, oZ, r5, q5, x5, R5, P5, HB5.out, hw2⟩
        case measure => simp [intOf]; omega
      · have hd : decide (((i : Nat) : Int) ∈ castL L) = false := decide_eq_false (fun h => hin (castL_mem.1 h))
        have hper := per_le f i
        have e0' := Own.empty (w := wo) (Nat.le_refl wo.heap.size)
        have hb1 := (Below.refl wo.heap.size wo).alloc (Nat.le_refl _) (.cells #[] 3)
        go_wp2_with (go_at_call 97; (with_reducible refine (l1Has_eq A L.length c _ (castL L) i _ hSrd false hd).mono ?_); rintro e w' ⟨rfl, rfl⟩)
        go_loopg [11, 12] 4 (fun gh s11 s12 wx => ∃ (t : Nat) (A2 : Option Addr) (c2 : Nat), t ≤ per f i ∧ 4 - t ≤ gh ∧ s11 = .slice A2 t c2 ∧ s12 = .int .i64 ((iter f t i : Nat) : Int) ∧ Own wx wo.heap.size (.slice A2 t c2) (castL (orbN f i t)) ∧ Below wo.heap.size wo wx)
        case atStart => exact ⟨0, _, 0, by omega, Nat.le_refl _, rfl, rfl, e0', hb1⟩
        case round =>
          obtain ⟨t, A2, c2, ht, hgh, rfl, rfl, oR, hbR⟩ := hrel
          have HBR := Lib.hid hbR
          have hzR := hbR.size
          have hRrd := oR.rd
          clear e0' hb1 hbR
          by_cases htp : t < per f i
          · have hd2 := hf.orb_new hlt htp
            have hil := hf.iter_lt hlt t
            have P6 := P5.below HBR.out hw2
            obtain ⟨I, hI⟩ : ∃ I, I = iter f t i := ⟨_, rfl⟩
            have HI := Lib.hid (show iter f (t + 1) i = f I by rw [hI]; rfl)
            have HO := Lib.hid (castL_orb f i t)
            have hol : (castL (orbN f i t)).length = t := by rw [castL_len, orbN_len]
            rw [← hI] at hd2 hil HO ⊢
            clear hI
            go_wp2_with (first | (go_at_call 97; (with_reducible refine (l1Has_eq A2 t c2 _ (castL (orbN f i t)) ((I : Nat) : Int) _ hRrd false hd2).mono ?_); rintro e w' ⟨rfl, rfl⟩) | (at_builtin; refine wpList_append_one wr rfl (.tmp 45) (.tmp 47) 24 rfl Try.underlying24 info_int wo.heap.size _ _ ((I : Nat) : Int) rfl rfl oR (by omega) ⟨by omega, by omega⟩ hzR ?_))
            intro A3 c3 w6 o6 hg6
            rw [← HO.out] at o6
            have HB6 := Lib.hid (HBR.out.grown hg6 hzR (fun z hz => (oR.bd z hz).1))
            have P7 := P6.mark hg6 (fun z hz => Nat.le_trans hw2 (oR.bd z hz).1) (Nat.le_trans hw2 hzR)
            obtain ⟨_, _, hee, _, hpc⟩ := P7.cells (by omega)
            cases hee
            have hpI := hpc I hil
            rw [orgL_get hil, Nat.zero_add] at hpI
            clear hpc hol
            go_wp2
            go_roundg (4 - (t + 1))
            case measure => omega
            case rel => exact ⟨t + 1, A3, c3, by omega, Nat.le_refl _, rfl, by rw [HI.out], o6, HB6.out⟩
          · obtain rfl : t = per f i := by omega
            have hd3 := hf.orb_old hlt
            obtain ⟨N, hN⟩ : ∃ N, N = per f i := ⟨_, rfl⟩
            have HN := Lib.hid hN
            have hol : (castL (orbN f i N)).length = N := by rw [castL_len, orbN_len]
            rw [← hN] at hd3 oR hRrd hper ⊢
            have hIN := hf.iter_lt hlt N
            obtain ⟨g2, rfl, hg21, hg22⟩ := oR.some_ (by omega)
            have oSb := oS.bd
            have oS6 := oS.all HBR.out
            have hSl : (castL L).length = L.length := castL_len L
            clear hN
            go_wp2_with (first | (go_at_call 97; (with_reducible refine (l1Has_eq _ N c2 _ (castL (orbN f i N)) ((iter f N i : Nat) : Int) _ hRrd true hd3).mono ?_); rintro e w' ⟨rfl, rfl⟩) | (at_builtin; refine wpList_append_list wr rfl (.tmp 49) (.tmp 50) 24 rfl Try.underlying24 info_int w2.heap.size _ _ _ g2 0 N c2 _ rfl rfl oS6 hRrd (by omega) (by rw [hSl, hol]; omega) (Nat.le_trans hw2 hzR) ?_))
            intro A7 c7 w7 o7 hg7
            rw [← castL_append] at o7
            have hzo : wo.heap.size ≤ w7.heap.size := Nat.le_trans hzR hg7.size
            have oZ7 := (oZ.all HBR.out).mark hg7 (fun z z' hz hz' => by simp [Value.ownBlock] at hz'; have := (oSb z hz).1; omega)
            have r7 := (r5.all HBR.out).mark hg7 (fun z hz => by have := (oSb z hz).1; omega)
            have q7 := (q5.all HBR.out).mark hg7 (fun z hz => by have := (oSb z hz).1; omega)
            have x7 := (x5.all HBR.out).mark hg7 (fun z hz => by have := (oSb z hz).1; omega)
            have R7 := (R5.all HBR.out (by omega)).mark hg7 (fun z hz => by have := (oSb z hz).1; omega) (by omega)
            have P7 := (P5.all HBR.out hw2).mark hg7 (fun z hz => (oSb z hz).1) (Nat.le_trans hw2 hzR)
            have oR7 := oR.mark hg7 (fun z z' hz hz' => by have := (oSb z hz).2; have := (oR.bd z' hz').1; omega)
            have HB7 := Lib.hid ((HB5.out.trans (HBR.out.mono hbz)).grown hg7 (Nat.le_trans hbz hzR) (fun z hz => by have := (oSb z hz).1; omega))
            obtain ⟨F, hF⟩ : ∃ F : Nat → Nat, F = fun j : Nat => cnt f xs i (j : Int) := ⟨_, rfl⟩
            have HF := Lib.hid (show ∀ j : Nat, cntTo f xs i N (j : Int) = F j from fun j => by rw [hF, HN.out]; rfl)
            have HBst := Lib.hid (show bestC f xs i = bestTo F 6 by rw [hF]; rfl)
            have hF4 : ∀ j, F j ≤ 4 := fun j => by rw [hF]; exact cnt_le f xs i _
            have HF4 := Lib.hid hF4
            have x72 := x7.cell 2
            clear hF hF4 oS oS6 oZ r5 q5 x5 R5 P5 HB5 hRrd oR HBR hg7 hol hSl hd3 e2
            go_wp2
            go_loopw [13, 14, 15, 16, 17] (fun s13 s14 s15 _ _ wx => ∃ j q : Nat, j ≤ 6 ∧ s15 = .int .i64 j ∧ s13 = .int .i64 ((bestTo F j : Nat) : Int) ∧ s14 = .int .i64 ((mostV F j : Nat) : Int) ∧ wx = w7.drewN q) (fun _ _ s15 _ _ _ => 6 - (intOf s15).toNat)
            case atStart => exact ⟨0, 0, Nat.zero_le _, rfl, rfl, rfl, rfl⟩
            case round =>
              obtain ⟨j, q, hj, rfl, rfl, rfl, rfl⟩ := hrel
              by_cases hj6 : j < 6
              · go_wp2
                go_loopw [16, 17] (fun s16 s17 wx => ∃ u q : Nat, u ≤ N ∧ s17 = .int .i64 u ∧ s16 = .int .i64 ((cntTo f xs i u (j : Int) : Nat) : Int) ∧ wx = w7.drewN q) (fun _ s17 _ => N - (intOf s17).toNat)
                case atStart => exact ⟨0, q, Nat.zero_le _, rfl, rfl, rfl⟩
                case round =>
                  obtain ⟨u, q, hu, rfl, rfl, rfl⟩ := hrel
                  have hcu := cntTo_le f xs i (j : Int) u
                  by_cases hul : u < N
                  · have hil := hf.iter_lt hlt u
                    have hOc := own_at oR7 (by rw [castL_len, orbN_len]; exact hul) (orbN_get hul)
                    obtain ⟨_, _, hee, _, hxc⟩ := R7.cells (by omega)
                    cases hee
                    obtain ⟨col, hcol6, hcv⟩ := color_nat hcol.out hil
                    have hXc := hxc _ hil
                    rw [hcv] at hXc
                    obtain ⟨I, hI⟩ : ∃ I, I = iter f u i := ⟨_, rfl⟩
                    have HS := Lib.hid (show cntTo f xs i (u + 1) (j : Int) = cntTo f xs i u (j : Int) + if col = j then 1 else 0 by
                      show cntTo f xs i u (j : Int) + cntE xs (j : Int) (iter f u i) = _
                      unfold cntE
                      rw [hcv]
                      congr 1
                      by_cases e : col = j
                      · rw [if_pos e, if_pos (by rw [e])]
                      · rw [if_neg e, if_neg (by omega)])
                    rw [← hI] at hil hOc hXc
                    obtain ⟨C, hC⟩ : ∃ C, C = cntTo f xs i u (j : Int) := ⟨_, rfl⟩
                    rw [← hC] at hcu HS ⊢
                    clear hxc hcv hI hC
                    by_cases ec : col = j
                    · have heq : ((col : Int) == (j : Int)) = true := by simp; omega
                      have EC := Lib.hid ec
                      clear ec
                      go_wp2
                      go_quiet (fail)
                      go_wp2
                      go_roundw
                      case rel => exact ⟨u + 1, _, by omega, by go_num, by rw [HS.out, if_pos EC.out]; go_num, rfl⟩
                      case measure => simp [intOf]; omega
                    · have hne : ((col : Int) == (j : Int)) = false := by simp; omega
                      go_wp2
                      go_quiet (fail)
                      go_wp2
                      go_roundw
                      case rel => exact ⟨u + 1, _, by omega, by go_num, by rw [HS.out, if_neg ec]; rfl, rfl⟩
                      case measure => simp [intOf]; omega
                  · obtain rfl : u = N := by omega
                    rw [HF.out]
                    have hf4 := HF4.out j
                    by_cases hgt : mostV F j < F j
                    · obtain ⟨m1, m2⟩ := most_up hgt
                      have M1 := Lib.hid m1
                      have M2 := Lib.hid m2
                      have hgt' : ((mostV F j : Nat) : Int) < ((F j : Nat) : Int) := by omega
                      clear m1 m2 hgt hcu
                      go_wp2
                      go_roundw
                      case rel => exact ⟨j + 1, _, by omega, by go_num, by rw [M1.out], by rw [M2.out], rfl⟩
                      case measure => simp [intOf]; omega
                    · obtain ⟨m1, m2⟩ := most_stay hgt
                      have M1 := Lib.hid m1
                      have M2 := Lib.hid m2
                      have hgt' : ((F j : Nat) : Int) ≤ ((mostV F j : Nat) : Int) := by omega
                      clear m1 m2 hgt hcu
                      go_wp2
                      go_roundw
                      case rel => exact ⟨j + 1, _, by omega, by go_num, by rw [M1.out], by rw [M2.out], rfl⟩
                      case measure => simp [intOf]; omega
              · obtain rfl : j = 6 := by omega
                have hD := low_drewN w7 q
                have oZ8 := oZ7.all hD
                have r8 := r7.all hD
                have q8 := q7.all hD
                have x8 := x7.all hD
                have R8 := R7.all hD (by omega)
                have P8 := P7.all hD (by omega)
                have oR8 := oR7.all hD
                have o8 := o7.all hD
                have HB8 := Lib.hid (HB7.out.trans (hD.mono (by omega)))
                have hzo8 : wo.heap.size ≤ (w7.drewN q).heap.size := hzo
                clear hD oZ7 r7 q7 x7 R7 P7 oR7 o7 HB7 hzo x72
                generalize w7.drewN q = w8 at *
                have HMO := Lib.hid (show chL f xs L + N - mostV F 6 = chL f xs (L ++ orbN f i N) by
                  have h1 := chL_orb hf hlt xs N
                  rw [HBst.out, HF.out] at h1
                  have h2 : mostV F 6 = F (bestTo F 6) := rfl
                  rw [chL_append, h2]
                  omega)
                have hmv : mostV F 6 ≤ N := by
                  have h1 := chL_orb hf hlt xs N
                  rw [HBst.out, HF.out] at h1
                  have h2 : mostV F 6 = F (bestTo F 6) := rfl
                  omega
                obtain ⟨BV, hBV⟩ : ∃ BV, BV = bestTo F 6 := ⟨_, rfl⟩
                have hb6 : BV < 6 := by rw [hBV]; exact bestTo_lt F 5
                have HBV := Lib.hid (show ((bestC f xs i : Nat) : Int) = (BV : Int) by rw [HBst.out, hBV])
                rw [← hBV]
                obtain ⟨MV, hMV⟩ : ∃ MV, MV = mostV F 6 := ⟨_, rfl⟩
                rw [← hMV] at HMO hmv ⊢
                clear hBV hMV
                go_wp2
                go_loopw [18] (fun s18 wx => ∃ (u : Nat) (zs : List Int), u ≤ N ∧ s18 = .int .i64 u ∧ Hid (OutInv f xs (L ++ orbN f i u) zs) ∧ Own wx w.heap.size (.slice (some ⟨g, 0, none⟩) xs.length c') zs ∧
                    Blk wx (w.heap.size + 1) 26 #[.int .i64 0, .int .i64 0, .slice none 0 0] ∧ Blk wx w1.heap.size 26 #[.int .i64 m, .int .i64 k, .slice (some ⟨g, 0, none⟩) xs.length c'] ∧ Blk wx w.heap.size 26 #[.int .i64 m, .int .i64 k, .slice (some ⟨b, off, none⟩) xs.length cc] ∧
                    Rd wx B (some ⟨b, off, none⟩) xs.length cc xs ∧ Rd wx w2.heap.size (some ⟨gp, 0, none⟩) xs.length cp (orgL f xs.length) ∧ Own wx w2.heap.size (.slice A7 (L.length + N) c7) (castL (L ++ orbN f i N)) ∧ Own wx wo.heap.size (.slice (some ⟨g2, 0, none⟩) N c2) (castL (orbN f i N)) ∧
                    Below w.heap.size w wx ∧ wo.heap.size ≤ wx.heap.size)
                  (fun s18 _ => N - (intOf s18).toNat)
                case atStart => exact ⟨0, zs, Nat.zero_le _, rfl, Lib.hid (by have := hout.out; unfold orbN; simpa using this), oZ8, r8, q8, x8, R8, P8, o8, oR8, HB8.out, hzo8⟩
                case round =>
                  obtain ⟨u, zs9, hu, rfl, hout9, oZ9, r9, q9, x9, R9, P9, o9, oR9, hbl9, hzo9⟩ := hrel
                  have HB9 := Lib.hid hbl9
                  have hbz9 := hbl9.size
                  have q92 := q9.cell 2
                  clear hbl9 oZ8 r8 q8 x8 R8 P8 o8 oR8 HB8 hzo8
                  by_cases hul : u < N
                  · have hil := hf.iter_lt hlt u
                    have hOc := own_at oR9 (by rw [castL_len, orbN_len]; exact hul) (orbN_get hul)
                    have hzl : zs9.length = xs.length := hout9.out.1
                    have HSP := Lib.hid (out_step (x := (BV : Int)) hout9.out hil (by rw [hf.best_iter hlt xs u]; exact HBV.out))
                    have HLE := Lib.hid (show L ++ orbN f i (u + 1) = (L ++ orbN f i u) ++ [iter f u i] by rw [orbN_succ, List.append_assoc])
                    obtain ⟨I, hI⟩ : ∃ I, I = iter f u i := ⟨_, rfl⟩
                    rw [← hI] at hil hOc HSP HLE
                    obtain ⟨old, HO⟩ : ∃ y, Hid (zs9.getD I 0 = y) := ⟨_, rfl⟩
                    have hold := own_at oZ9 (by rw [hzl]; exact hil) HO.out
                    obtain ⟨hfz, oZ10, hg10⟩ := own_put oZ9 I (BV : Int) ⟨by omega, by omega⟩
                    have hdrew : wr.drew.cell? ⟨g, I, none⟩ = some (.int .i64 old) := hold
                    have hD1 : wr.grownBy wr.drew (some g) := ⟨rfl, rfl, rfl, Nat.le_refl _, fun _ _ _ => rfl⟩
                    have hS1 : wr.drew.grownBy (wr.drew.setCell ⟨g, I, none⟩ (.int .i64 (BV : Int))) (some g) := grown_setCell _ _ _
                    have hg10d := grown_trans hD1 hS1
                    have oZd : Own (wr.drew.setCell ⟨g, I, none⟩ (.int .i64 (BV : Int))) w.heap.size (.slice (some ⟨g, 0, none⟩) xs.length c') (zs9.set I (BV : Int)) := oZ10
                    have r10 := r9.mark hg10d (fun z hz => by cases hz; omega)
                    have q10 := q9.mark hg10d (fun z hz => by cases hz; exact fun e => row_ne' oZ9.1 q9 (by decide) (by rw [← e]; rfl))
                    have x10 := x9.mark hg10d (fun z hz => by cases hz; omega)
                    have R10 := R9.keep (w' := wr.drew.setCell ⟨g, I, none⟩ (.int .i64 (BV : Int))) (fun b o hb => World.cell?_setCell_other wr.drew _ _ _ (by first | (simp; done) | (simp; omega)))
                    obtain ⟨_, _, hee, _, hpc⟩ := P9.cells (by omega)
                    cases hee
                    have P10 : Rd (wr.drew.setCell ⟨g, I, none⟩ (.int .i64 (BV : Int))) w2.heap.size (some ⟨gp, 0, none⟩) xs.length cp (orgL f xs.length) :=
                      ⟨P9.len, P9.cap, P9.max, fun hn => ⟨gp, 0, rfl, hgp2, fun j hj => (World.cell?_setCell_other wr.drew _ _ _ (by first | (simp; done) | (simp; omega))).trans (hpc j hj)⟩, P9.fits, P9.nil⟩
                    have o9b := o9.bd
                    have o10 := o9.mark hg10d (fun z z' hz hz' => by cases hz; have := (o9b z' hz').1; omega)
                    have oR10 := oR9.mark hg10d (fun z z' hz hz' => by cases hz; have := (oR9.bd z' hz').1; omega)
                    have HB10 := Lib.hid (HB9.out.grown hg10d hbz9 (fun z hz => by cases hz; omega))
                    have hfzd : wr.drew.frozen? ⟨g, I, none⟩ = false := hfz
                    have hOcd : wr.drew.cell? ⟨g2, u, none⟩ = some (.int .i64 ((I : Nat) : Int)) := hOc
                    have q92d : wr.drew.cell? ⟨w1.heap.size, 2, none⟩ = some (.slice (some ⟨g, 0, none⟩) xs.length c') := q92
                    clear hpc hold hfz hOc q92 hI HO
                    go_wp2
                    go_region
                    go_wp2
                    go_roundw
                    case rel => exact ⟨u + 1, _, by omega, by go_num, by rw [HLE.out]; exact HSP, oZd, r10, q10, x10, R10, P10, o10, oR10, HB10.out, Nat.le_trans hzo9 hg10d.size⟩
                    case measure => simp [intOf]; omega
                  · obtain rfl : u = N := by omega
                    have HSN := Lib.hid (seen_add hf hseen.out hlt hin)
                    rw [← HN.out] at HSN
                    have HLL := Lib.hid (show (L ++ orbN f i u).length = L.length + u by rw [List.length_append, orbN_len])
                    go_wp2
                    go_roundw
                    case rel => exact ⟨i + 1, L ++ orbN f i u, zs9, A7, c7, by omega, by go_num, by rw [← HMO.out]; go_num, by rw [HLL.out], by rw [HLL.out]; exact o9, HSN, by rw [HLL.out]; omega, hout9, oZ9, r9, q9, x9, R9, P9, HB9.out, Nat.le_trans hw2 hzo9⟩
                    case measure => simp [intOf]; omega
    · obtain rfl : i = xs.length := by omega
      have hze := out_end hout.out hseen.out
      have HCE := Lib.hid (ch_end hseen.out)
      subst hze
      have f0 := q5.cell 0
      have f1 := q5.cell 1
      have f2 := q5.cell 2
      have g0 := r5.cell 0
      have g1 := r5.cell 1
      have g2 := r5.cell 2
      have z0 := r5.frozen 0
      have z1 := r5.frozen 1
      have z2 := r5.frozen 2
      have HML := Lib.hid (compL_len f xs xs.length)
      have F := fin3 (p := w.heap.size + 1) (a := .int .i64 m) (b := .int .i64 k) (c := .slice (some ⟨g, 0, none⟩) xs.length c') oZ (row_ne' oZ.1 r5 (by decide)) HB5.out (by omega)
      go_wp2
      exact bodyPost_ret (v := .tuple #[chartV m k (.slice (some ⟨g, 0, none⟩) xs.length c'), .int .i64 ((chL f xs L : Nat) : Int)]) (by simp [results, Try.results85, go_sem, g0, g1, g2]) rfl ⟨some ⟨g, 0, none⟩, c', by rw [HML.out, HCE.out], by rw [HML.out]; exact F.1, F.2⟩
end Go.Proofs.Ytihgobceahfpiaa
