/- The walks of AreaNeighbors, both texts. No condition. -/
import Derived.Test.YtgahompcejbjoaaPlacesA
import Derived.Test.YtgahompcejbjoaaSortInt
import Derived.Test.YtgahompcejbjoaaHas1
import Derived.Test.YtgahompcejbjoaaPut1
namespace Go.Proofs.Ytgahompcejbjoaa
open Go.RowKit

set_option maxRecDepth 100000 in
set_option maxHeartbeats 8000000 in
theorem implAreaNeighbors_any (W H : Int) (A : Option Addr) (n c B : Nat) (xs : List Int) (a : Int) (w : World) (h : Rd w B A n c xs) (hB : B ≤ w.heap.size) :
    Calls Try.prog 15 #[chartV W H (.slice A n c), .int .i64 a] w (OutInts w (nbrsX W H xs a) (hasArea W H xs a)) := by
  cases hg : goodB W H xs with
  | false =>
    have H2 := Lib.hid (hasArea_no1 (a := a) hg)
    have HX := Lib.hid (nbrsX_no H2.out)
    have hb0 := Lib.hid (show Below w.heap.size w (w.alloc (.cells #[.int .i64 W, .int .i64 H, .slice A n c] 26)) from (Below.refl _ _).alloc (Nat.le_refl _) _)
    have h' := h.alloc hB (.cells #[.int .i64 W, .int .i64 H, .slice A n c] 26)
    go_enter Try.func15, Try.ntmps15
    go_wp2_with fail
    refine (placesOfArea_bad W H A n c B xs a _ h' (by simp; omega) hg).mono ?_
    rintro e w1 ⟨rfl, hb⟩
    go_wp2
    go_ret2
    rw [HX.out, H2.out]
    exact ⟨none, 0, rfl, Own.nil _ _, hb0.out.trans (hb.mono (by simp))⟩
  | true =>
    obtain ⟨m, k, b, off, rfl, rfl, rfl, rfl, hm, hm8, hk1, hk8, hl, h64, hN, _⟩ := good_open hg h
    obtain ⟨d, hd⟩ : ∃ d, inB a 0 (((cntOf m xs : Nat) : Int) - 1) = d := ⟨_, rfl⟩
    have H2 := Lib.hid ((hasArea_eq (a := a) hg).trans hd)
    have x0 := Cx.start (m := m) (k := k) h hB
    clear h
    go_enter Try.func15, Try.ntmps15
    go_upto_region 1 with fail
    generalize w.alloc (.cells #[.int .i64 m, .int .i64 k, .slice (some ⟨b, off, none⟩) xs.length c] 26) = w0 at *
    have e0 := x0.c0
    have e1 := x0.c1
    have e2 := x0.c2
    have hz0 := x0.sz
    go_wp2_with fail
    refine (placesOfArea_good m k b off c B xs a d _ x0.rd (by omega) hg hm hm8 hk1 hk8 hl hd).mono ?_
    rintro e w1 ⟨A1, c1, l, rfl, oL, hb, HLL⟩
    have x1 := x0.all hb
    clear hb e0 e1 e2 x0
    cases d with
    | false =>
      have HX := Lib.hid (nbrsX_no H2.out)
      have hb4 := x1.bel
      clear HLL oL x1
      go_wp2
      go_ret2
      rw [HX.out, H2.out]
      exact ⟨none, 0, rfl, Own.nil _ _, hb4⟩
    | true =>
      have HX := Lib.hid (nbrsX_yes H2.out)
      have HLM := Lib.hid (HLL.out rfl)
      clear HLL
      have e0 := x1.c0
      have e1 := x1.c1
      have e2 := x1.c2
      have hz1 := x1.sz
      have hzb : w.heap.size < w1.heap.size := hz1
      have x1d := x1.all (show Below w1.heap.size w1 w1.drew from ⟨rfl, rfl, rfl, Nat.le_refl _, fun _ _ => rfl⟩)
      have hBd : B ≤ w1.drew.heap.size := by show B ≤ w1.heap.size; omega
      go_wp2
      go_region_held3 (fun w' => w'.cell? ⟨w.heap.size, 0, none⟩ = some (.int .i64 m) ∧ w'.cell? ⟨w.heap.size, 1, none⟩ = some (.int .i64 k) ∧ w'.cell? ⟨w.heap.size, 2, none⟩ = some (.slice (some ⟨b, off, none⟩) xs.length c)) (first | exact ⟨e0, e1, e2⟩ | go_keep) (first | (go_at_call 27; (with_reducible refine (areasIn_any m k b off c B xs _ x1d.rd hBd hm hm8 hk1 hk8 hl).mono ?_); rintro e w3 ⟨A3, c3, ass, rfl, own3, hb3, HG⟩; (try replace hb3 := below_drew' hb3); have x3 := x1.all hb3; have oL3 := oL.all hb3; have hz3 := Nat.le_trans (Nat.le_of_lt hzb) hb3.size; have hB3 := Nat.le_trans hB hz3; replace e0 := cells_of hb3 e0 hzb; replace e1 := cells_of hb3 e1 hzb; replace e2 := cells_of hb3 e2 hzb; have hzb3 := Nat.lt_of_lt_of_le hzb hb3.size; clear hb3) | (go_at_call 26; (with_reducible refine (numbersIn_any m k b off c B _ c3 A3 xs ass _ x3.rd hB3 h64 hN own3 HG).mono ?_); rintro e w4 ⟨A4, c4, rfl, own4, hb4⟩; have x4 := x3.all hb4; have oL4 := oL3.all hb4; replace e0 := cells_of hb4 e0 hzb3; replace e1 := cells_of hb4 e1 hzb3; replace e2 := cells_of hb4 e2 hzb3; have hz4 := hb4.size; clear hb4))
      clear e0 e1 e2 x1 x1d x3 own3 oL oL3
      have hLl := Lib.hid (labs_len m xs)
      have oN := own4.mono hz3
      have oP := oL4.mono (show w.heap.size ≤ w0.heap.size by omega)
      obtain ⟨gn, rfl, hgn, _⟩ := oN.some_ (by rw [hLl.out]; omega)
      have hlN := Lib.hid (nodup_le xs.length l HLM.out.1 (fun x hx => ((HLM.out.2 x).1 hx).1))
      have hgnP := Lib.hid (own4.bd _ rfl)
      clear own4 oL4
      obtain ⟨P, hP⟩ : ∃ P, w4.heap.size = P := ⟨_, rfl⟩
      have hgP : gn < P := by rw [← hP]; exact hgnP.out.2
      have hlP : ∀ q, (Value.slice A1 l.length c1).ownBlock = some q → q < P := fun q hq => by rw [← hP]; exact (oP.bd q hq).2
      have hPw : w.heap.size + 1 ≤ P := by have := x4.sz; omega
      have hP4 : P ≤ w4.heap.size := by omega
      have HS := Lib.hid (NbS.start m xs a (O := fun x => ∃ s, s < 0 ∧ l[s]? = some x) (NL := []) (fun x ⟨s, h, _⟩ => by omega))
      have HLP := Lib.hid hlP
      clear hlP hgnP hP hz4 hz3 hB3 hzb3 hz1 hzb hBd
      go_wp2
      go_loopw [9, 28] (fun s9 s28 wr => ∃ (t : Nat) (A9 : Option Addr) (c9 : Nat) (L : List Int), t ≤ l.length ∧ s28 = .int .i64 t ∧ s9 = .slice A9 L.length c9 ∧ Hid (NbS m xs a (fun x => ∃ s, s < t ∧ l[s]? = some x) [] 0 L) ∧ L.length ≤ 4 * t ∧ Own wr P (.slice A9 L.length c9) L ∧ P ≤ wr.heap.size ∧
          Own wr w.heap.size (.slice (some ⟨gn, 0, none⟩) xs.length c4) (labsOf m xs) ∧ Own wr w.heap.size (.slice A1 l.length c1) (upI l) ∧ Cx w m k b off c B xs wr) (fun _ s28 _ => l.length - (intOf s28).toNat)
      case atStart => exact ⟨0, none, 0, [], Nat.zero_le _, rfl, rfl, HS, by simp, Own.nil _ _, hP4, oN, oP, x4⟩
      case round =>
        clear HS hP4 oN oP x4
        obtain ⟨t, A9, c9, L, ht, rfl, rfl, HS, hL4, oO, hPz, oN, oP, x1⟩ := hrel
        have hl64 : l.length ≤ 64 := Nat.le_trans hlN.out h64
        by_cases htl : t < l.length
        · obtain ⟨x, HX1⟩ : ∃ x, Hid (l[t]? = some x) := ⟨l[t], List.getElem?_eq_getElem htl⟩
          have hxN := ((HLM.out.2 x).1 (List.mem_of_getElem? HX1.out)).1
          have hxk : x < m * k := by rw [← hl.out]; exact hxN
          obtain ⟨g1, hA1, _, _⟩ := oP.some_ (by rw [upI_len]; omega)
          subst hA1
          have e8 := own_at oP (j := t) (by rw [upI_len]; exact htl) (upI_get HX1.out)
          obtain ⟨NL, HNL⟩ : ∃ NL, Hid (nextP m k x = NL) := ⟨_, rfl⟩
          have hNL4 : NL.length ≤ 4 := by rw [← HNL.out]; exact nextP_len _ _ _
          have HNB := Lib.hid (show ∀ y, y ∈ NL ↔ Nb m xs.length x y by rw [← HNL.out, hl.out]; exact fun y => (mem_nextP y).trans (mem_nextM hm hm8 hxk y))
          have HS0 := Lib.hid (HS.out.any NL)
          have e0 := x1.c0
          have e1 := x1.c1
          have e2 := x1.c2
          have hz0 := x1.sz
          clear HS
          go_wp2_with fail
          refine (placesNextTo_eq m k x NL _ _ hm hm8 hk1 hk8 hxk HNL.out).mono ?_
          rintro e w3 ⟨A3, c3, rfl, own3, hb3⟩
          have x3 := x1.all hb3
          have oO3 := oO.all hb3
          have oN3 := oN.all hb3
          have oP3 := oP.all hb3
          have hP3 := Nat.le_trans hPz hb3.size
          have hnd : ∀ k k', (Value.slice A9 L.length c9).ownBlock = some k → (Value.slice A3 NL.length c3).ownBlock = some k' → k ≠ k' := fun k k' e e' => by
            have := (oO.bd k e).2
            have := (own3.bd k' e').1
            omega
          have own4 := own3.mono hPz
          clear own3 e0 e1 e2 e8 x1 oO oN oP hPz hb3 hz0
          go_wp2
          go_loopw [9, 36] (fun s9 s36 wr => ∃ (j : Nat) (A9 : Option Addr) (c9 : Nat) (L : List Int), j ≤ NL.length ∧ s36 = .int .i64 j ∧ s9 = .slice A9 L.length c9 ∧ Hid (NbS m xs a (fun x => ∃ s, s < t ∧ l[s]? = some x) NL j L) ∧ L.length ≤ 4 * t + j ∧ Own wr P (.slice A9 L.length c9) L ∧ P ≤ wr.heap.size ∧
              Own wr w.heap.size (.slice (some ⟨gn, 0, none⟩) xs.length c4) (labsOf m xs) ∧ Own wr w.heap.size (.slice (some ⟨g1, 0, none⟩) l.length c1) (upI l) ∧ Own wr P (.slice A3 NL.length c3) (upI NL) ∧ Hid (∀ k k', (Value.slice A9 L.length c9).ownBlock = some k → (Value.slice A3 NL.length c3).ownBlock = some k' → k ≠ k') ∧ Cx w m k b off c B xs wr) (fun _ s36 _ => NL.length - (intOf s36).toNat)
          case atStart => exact ⟨0, A9, c9, L, Nat.zero_le _, rfl, rfl, HS0, by omega, oO3, hP3, oN3, oP3, own4, Lib.hid hnd, x3⟩
          case round =>
            clear HS0 oO3 hP3 oN3 oP3 own4 hnd x3 hL4
            obtain ⟨j, A9, c9, L, hj, rfl, rfl, HS, hL4, oO, hPz, oN, oP, hnx, HND, x1⟩ := hrel
            by_cases hjl : j < NL.length
            · obtain ⟨y, HY⟩ : ∃ y, Hid (NL[j]? = some y) := ⟨NL[j], List.getElem?_eq_getElem hjl⟩
              have hyN : y < xs.length := ((HNB.out y).1 (List.mem_of_getElem? HY.out)).2.1
              obtain ⟨g3, rfl, _, _⟩ := hnx.some_ (by rw [upI_len]; omega)
              have e3 := own_at hnx (j := j) (by rw [upI_len]; exact hjl) (upI_get HY.out)
              have hr := labAt_rng (m := m) hyN
              obtain ⟨v, hv⟩ : ∃ v, labAt m xs y = v := ⟨_, rfl⟩
              have ev := own_at oN (j := y) (by rw [hLl.out]; exact hyN) (show (labsOf m xs).getD y 0 = v from hv)
              have hvi : I64 v := by
                have := cnt_le m xs
                rw [hv] at hr
                exact ⟨by omega, by omega⟩
              have HV := Lib.hid hv
              clear hv hr
              by_cases hva : v = a
              · have hvb : (v == a) = true := by simp [hva]
                have HS2 := Lib.hid (HS.out.skip HY.out (.inl (by rw [HV.out, hva])))
                subst hva
                clear HS
                go_wp2
                go_roundw
                case rel => exact ⟨j + 1, A9, c9, L, hjl, by go_num, rfl, HS2, by omega, oO, hPz, oN, oP, hnx, HND, x1⟩
                case measure => simp [intOf]; omega
              · have hvb : (v == a) = false := by simp [hva]
                have HS2 := Lib.hid (HS.out.put (M' := L ++ [v]) HY.out (fun u => by
                  rw [List.mem_append, List.mem_singleton, HV.out]
                  exact ⟨fun g => g.elim .inr (fun e => .inl ⟨e, hva⟩), fun g => g.elim (fun e => .inr e.1) .inl⟩))
                have hbd := oO.bd
                have hlen : L.length ≤ 1073741824 := by omega
                clear HS
                go_wp2_with (at_builtin; refine wpList_append_one_at wr rfl (.tmp 46) (.tmp 51) 24 rfl Try.underlying24 info_int P L.length _ L v rfl rfl rfl oO hlen hvi hPz ?_)
                intro A10 c10 w9 ho9 hg9 hat9
                have x9 := x1.mark hg9 (fun q hq => by have := (hbd q hq).1; omega)
                have oN9 := oN.mark hg9 (nd_lt hbd hgP)
                have oP9 := oP.mark hg9 (fun k k' e e' => by have h1 := HLP.out k' e'; have := (hbd k e).1; omega)
                have hnn := hnx.mark hg9 HND.out
                have hPP : P ≤ w9.heap.size := Nat.le_trans hPz hg9.size
                have hb3 := (hnx.bd _ rfl).2
                have HND9 : Hid (∀ k k', (Value.slice A10 (L.length + 1) c10).ownBlock = some k → (Value.slice (some ⟨g3, 0, none⟩) NL.length c3).ownBlock = some k' → k ≠ k') := fun k k' e e' => by
                  rcases hat9 k e with h | h
                  · exact HND.out k k' h e'
                  · cases e'; omega
                clear hat9 hg9 hbd oO oN oP hnx x1 hb3 hPz HND e3 ev
                go_wp2
                go_roundw
                case rel => exact ⟨j + 1, A10, c10, _, hjl, by go_num, by rw [List.length_append]; rfl, HS2, by rw [List.length_append]; simp; omega, by rw [List.length_append]; exact ho9, hPP, oN9, oP9, hnn, by rw [List.length_append]; exact HND9, x9⟩
                case measure => simp [intOf]; omega
            · have HS2 := Lib.hid (HS.out.next (NL' := []) (O' := fun x => ∃ s, s < t + 1 ∧ l[s]? = some x) (by omega) HNB.out (fun z => by
                constructor
                · rintro ⟨s, hs, hz⟩
                  by_cases e : s = t
                  · subst e; rw [HX1.out] at hz; cases hz; exact .inr rfl
                  · exact .inl ⟨s, by omega, hz⟩
                · rintro (⟨s, hs, hz⟩ | rfl)
                  · exact ⟨s, by omega, hz⟩
                  · exact ⟨t, by omega, HX1.out⟩))
              clear HS hnx HND
              go_wp2
              go_roundw
              case rel => exact ⟨t + 1, A9, c9, L, htl, by go_num, rfl, HS2, by omega, oO, hPz, oN, oP, x1⟩
              case measure => simp [intOf]; omega
        · have HE := Lib.hid (HS.out.congr (NL' := []) (O' := fun x => x < xs.length ∧ labAt m xs x = a) (fun z => by
            rw [← HLM.out.2 z]
            constructor
            · intro hz
              obtain ⟨s, hs, hsz⟩ := List.mem_iff_getElem.1 hz
              exact ⟨s, by omega, by rw [List.getElem?_eq_getElem hs, hsz]⟩
            · rintro ⟨s, _, hz⟩
              exact List.mem_of_getElem? hz))
          have HF := Lib.hid (show setI L = nbrsL m xs a from (setI_eq (nbrsL_asc m xs a) (fun y => ((HE.out.end_ (fun z => Iff.rfl) y)).symm)).symm)
          have hlen : L.length ≤ 1000000 := by omega
          have hbl := x1.bel
          clear HS oN oP x1
          go_wp2_with fail
          refine (sortInts_any A9 _ c9 P L _ oO hlen hPz).mono ?_
          rintro e w2' ⟨rfl, ho2, hb2⟩
          go_wp2_with fail
          refine (compactInts_any A9 _ c9 P (sortI L) _ ho2 (by rw [sortI_len]; exact hlen)).mono ?_
          rintro e w3' ⟨rfl, ho3, hb3⟩
          rw [show Lib.compact (sortI L) = nbrsL m xs a from HF.out] at ho3 ⊢
          have hbz := (hbl.trans (hb2.mono (by omega))).trans (hb3.mono (by omega))
          go_wp2
          go_ret2
          rw [HX.out, H2.out]
          exact ⟨A9, c9, rfl, ho3.mono (by omega), hbz⟩
end Go.Proofs.Ytgahompcejbjoaa
