/- The walk of the model's ParseChart. No condition. -/
import Derived.Test.YteiaanaljimghaaParseMath
import Derived.Test.YteiaanaljimghaaText
import Derived.Test.YteiaanaljimghaaStep
namespace Go.Proofs.Yteiaanaljimghaa
open Go.RowKit

/-- The knots of the first bytes. -/
def kn (s : ByteArray) (i : Nat) : List Int := ((s.data.toList.take i).filter (· != 47)).map colorOf
theorem kn_hit {s : ByteArray} {i : Nat} (h : i < s.size) (hc : s[i] ≠ 47) : kn s (i + 1) = kn s i ++ [colorOf s[i]] := by
  unfold kn
  rw [takeS s i h, List.filter_append, List.filter_cons_of_pos (by simpa using hc)]
  simp
theorem kn_miss {s : ByteArray} {i : Nat} (h : i < s.size) (hc : s[i] = 47) : kn s (i + 1) = kn s i := by
  unfold kn
  rw [takeS s i h, List.filter_append, List.filter_cons_of_neg (by simp [hc])]
  simp
theorem kn_end (s : ByteArray) : kn s s.size = readK s := by
  unfold kn readK
  rw [List.take_of_length_le (by rw [sizeL]; exact Nat.le_refl _)]
theorem kn_len (s : ByteArray) (i : Nat) : (kn s i).length ≤ s.size := by
  unfold kn
  rw [List.length_map]
  refine Nat.le_trans (List.length_filter_le _ _) ?_
  rw [List.length_take, sizeL]; omega
theorem readRows_head (s : ByteArray) {P : List ByteArray} (h : P.map (·.data.toList) = readRows s) : ∃ x, P[0]? = some x ∧ x.size = readM s ∧ P.length = readH s := by
  have h0 := readRows_ne s
  have hl : P.length = (readRows s).length := by rw [← h, List.length_map]
  refine ⟨P[0]'(by omega), List.getElem?_eq_getElem (by omega), ?_, hl⟩
  unfold readM
  rw [← h]
  cases P with
  | nil => simp at hl; omega
  | cons x r =>
    show x.size = x.data.toList.length
    rw [sizeL]

set_option maxRecDepth 100000 in
set_option maxHeartbeats 4000000 in
theorem specParseChart_any (s : ByteArray) (w : World) (hs : s.size ≤ maxLen) : Calls Try.prog 14 #[.string s] w (OutChart w (orZero (readOk s) (readM s)) (orZero (readOk s) (readH s)) (readX s) (readOk s)) := by
  unfold maxLen at hs
  by_cases h72 : s.size ≤ 72
  · have hi72 : (s.size : Int) ≤ 72 := by omega
    have hb0 := (Below.refl w.heap.size w).alloc (Nat.le_refl _) (.cells #[.int .i64 0, .int .i64 0, .slice none 0 0] 26)
    have r0 := Blk.new w #[.int .i64 0, .int .i64 0, .slice none 0 0] 26
    go_enter Try.func14, Try.ntmps14
    go_wp2_with fail
    refine (l1Split_any s 47 _ (by omega)).mono ?_
    rintro e w1 ⟨v, P, rfl, hO, hP⟩
    obtain ⟨x0, hx0, hxm, hPl⟩ := readRows_head s hP
    have hmem : ∀ y ∈ P, y.size ≤ 72 := fun y hy => by
      have := (splitGo_bd 47 s.data.toList []).1 y.data.toList (by have : y.data.toList ∈ P.map (·.data.toList) := List.mem_map_of_mem hy; rw [hP] at this; exact this)
      rw [sizeL, sizeL] at this
      simp only [List.length_nil, Nat.zero_add] at this
      omega
    have HO : OwnF strF w1 (w.alloc (.cells #[.int .i64 0, .int .i64 0, .slice none 0 0] 26)).heap.size v P := own_strs hO.own (fun y hy => by have := hmem y hy; unfold maxLen; omega)
    obtain ⟨A, c, rfl, hR, _⟩ := HO.form
    have hP1 : 1 ≤ P.length := by have := readRows_ne s; have : readH s = (readRows s).length := rfl; omega
    obtain ⟨b, off, y0, rfl, hbB, hy0, hc0, HY⟩ := strs_at hR (j := 0) (by omega)
    obtain rfl : x0 = y0 := Option.some.inj (hx0.symm.trans HY.out)
    have hM72 : readM s ≤ 72 := by rw [← hxm]; exact hmem _ (List.mem_of_getElem? hx0)
    have hb1 := hb0.trans (hO.below.mono (by simp))
    have r1 := r0.all hO.below
    have hz1 := r1.lt
    obtain ⟨M, hM⟩ : ∃ M, readM s = M := ⟨_, rfl⟩
    obtain ⟨H, hH⟩ : ∃ H, readH s = H := ⟨_, rfl⟩
    rw [hM] at hxm hM72
    rw [hH] at hPl
    have hH1 : 1 ≤ H := by omega
    rw [Nat.add_zero] at hc0
    have HM := Lib.hid hM
    have HH := Lib.hid hH
    clear HO hO hP hR r0 hb0 hmem hM hH hx0 HY
    have o2 : Own ((w1.alloc (.cells #[] 3)).alloc (.cells #[.int .i64 M, .int .i64 H, .slice (some ⟨w1.heap.size, 0, none⟩) 0 0] 26)) w.heap.size (.slice (some ⟨w1.heap.size, 0, none⟩) 0 0) [] := (Own.empty (w := w1) (lo := w.heap.size) (by omega)).alloc _
    have x2 := (Blk.new (w1.alloc (.cells #[] 3)) #[.int .i64 M, .int .i64 H, .slice (some ⟨w1.heap.size, 0, none⟩) 0 0] 26).at_ (q := w1.heap.size + 1) (by simp)
    have r2 := (r1.alloc (.cells #[] 3)).alloc (.cells #[.int .i64 M, .int .i64 H, .slice (some ⟨w1.heap.size, 0, none⟩) 0 0] 26)
    have hb2 := (hb1.alloc (by omega) (.cells #[] 3)).alloc (by simp; omega) (.cells #[.int .i64 M, .int .i64 H, .slice (some ⟨w1.heap.size, 0, none⟩) 0 0] 26)
    obtain ⟨g, hg⟩ : ∃ g, w1.heap.size + 1 = g := ⟨_, rfl⟩
    rw [hg] at x2
    have hgw : w.heap.size < g := by omega
    go_wp2
    go_loopw [6] (fun i wr => ∃ (k : Nat) (A : Option Addr) (c : Nat), k ≤ s.size ∧ i = .int .i64 k ∧ Own wr w.heap.size (.slice A (kn s k).length c) (kn s k) ∧
        Blk wr g 26 #[.int .i64 M, .int .i64 H, .slice A (kn s k).length c] ∧ Blk wr w.heap.size 26 #[.int .i64 0, .int .i64 0, .slice none 0 0] ∧ Below w.heap.size w wr)
      (fun i _ => s.size - (intOf i).toNat)
    case atStart => exact ⟨0, _, _, Nat.zero_le _, rfl, o2, x2, r2, hb2⟩
    case round =>
      obtain ⟨k, A3, c3, hk, rfl, ho3, x3, r3, hbl⟩ := hrel
      have HB3 := Lib.hid hbl
      have hbz := hbl.size
      clear hbl o2 x2 r2 hb2 hc0 hb1 r1
      by_cases hlt : k < s.size
      · by_cases hc : s[k] = 47
        · have hq : ((s[k].toNat : Int) != 47) = false := by rw [hc]; rfl
          have HK := Lib.hid (kn_miss hlt hc)
          clear hc
          go_wp2
          go_roundw
          case rel => exact ⟨k + 1, A3, c3, by omega, by go_num, by rw [HK.out]; exact ho3, by rw [HK.out]; exact x3, r3, HB3.out⟩
          case measure => simp [intOf]; omega
        · have hq : ((s[k].toNat : Int) != 47) = true := by
            have := byteNe hc
            simpa using this
          have HK := Lib.hid (kn_hit hlt hc)
          have hkl := kn_len s k
          have h256 := s[k].toNat_lt
          have hx256 : (s[k].toNat : Int) < 256 := by omega
          have hx00 : 0 ≤ (s[k].toNat : Int) := by omega
          obtain ⟨x, hx⟩ : ∃ x, (s[k].toNat : Int) - 97 = x := ⟨_, rfl⟩
          have HX := Lib.hid (show colorOf s[k] = x from hx)
          have hxx : I64 x := ⟨by omega, by omega⟩
          have hw1 : IntKind.i64.wrap (s[k].toNat : Int) = (s[k].toNat : Int) := IntWalk.i64_in _ (by omega)
          have hw2 : IntKind.i64.wrap ((s[k].toNat : Int) - 97) = x := by rw [IntWalk.i64_in _ (by omega), hx]
          have f2 := x3.cell 2
          have z2 := x3.frozen 2
          have hzx := x3.lt
          have hzr := r3.lt
          obtain ⟨T, hT⟩ : ∃ T, (kn s k).length = T := ⟨_, rfl⟩
          rw [hT] at ho3 x3 f2 hkl
          have HT := Lib.hid hT
          clear hc hT hx
          have hdr : Below wr.heap.size wr wr.drew := ⟨rfl, rfl, rfl, Nat.le_refl _, fun _ _ => rfl⟩
          have oa := ho3.all hdr
          have xa := x3.all hdr
          have ra := r3.all hdr
          have hza : w.heap.size ≤ wr.drew.heap.size := hbz
          have HBa := Lib.hid (HB3.out.trans (hdr.mono hbz))
          have hlr : T ≤ 1073741824 := by omega
          clear hdr
          go_wp2
          go_region_law (refine step_append_one wr.drew rfl (.tmp 32) (.tmp 38) 24 rfl Try.underlying24 info_int w.heap.size T _ _ _ HT.out rfl rfl oa hlr hxx hza ?_; intro A5 c5 w5 o5 hg5; have x5 := xa.mark hg5 (row_ne oa.1 xa (by decide)); have r5 := ra.mark hg5 (row_ne oa.1 ra (by decide)); have HB5 := Lib.hid (HBa.out.grown hg5 hza (fun q hq => (oa.bd q hq).1)); have f5 := x5.cell 2; have z5 := x5.frozen 2)
          all_goals
            have HL5 := Lib.hid (show (kn s (k + 1)).length = T + 1 by rw [HK.out, List.length_append, HT.out]; rfl)
            rw [← HX.out, ← HK.out] at o5
            clear hw1 hw2
            go_wp2
            go_roundw
            case rel => exact ⟨k + 1, A5, c5, by omega, by go_num, by rw [HL5.out]; exact o5.far (row_ne' o5.1 x5 (by decide)) _, by rw [HL5.out]; have := x5.set_ 2 (.slice A5 (T + 1) c5); simpa using this, r5.far (by simp; omega) _, HB5.out.setCell (by show w.heap.size ≤ g; omega) _⟩
            case measure => simp [intOf]; omega
      · obtain rfl : k = s.size := by omega
        rw [kn_end] at ho3 x3
        have hKl := kn_len s s.size
        rw [kn_end] at hKl
        obtain ⟨K, hK⟩ : ∃ K, readK s = K := ⟨_, rfl⟩
        have hspec := read_spec s
        rw [hK, HM.out, HH.out] at hspec
        rw [hK] at ho3 x3 hKl
        have hX : readX s = if readOk s = true then K else [] := by unfold readX; rw [hK]
        have HX := Lib.hid hX
        have f0 := x3.cell 0
        have f1 := x3.cell 1
        have f2 := x3.cell 2
        obtain ⟨gd, hgd⟩ : ∃ gd, goodB M H K = gd := ⟨_, rfl⟩
        have hgood := l2Good_any M H A3 K.length c3 _ K wr ho3.rd (Nat.le_refl _)
        rw [hgd] at hgood hspec
        have HS := Lib.hid hspec
        have HGD := Lib.hid hgd
        clear hX hspec hgd hK
        go_wp2_with fail
        refine hgood.mono ?_
        rintro e w4 ⟨rfl, hb4⟩
        have ho4 := ho3.all hb4
        have x4 := x3.all hb4
        have r4 := r3.all hb4
        have HB4 := Lib.hid (HB3.out.trans (hb4.mono hbz))
        have hz4 := HB4.out.size
        clear hgood ho3 x3 r3 hb4 f0 f1 f2
        have f0 := x4.cell 0
        have f1 := x4.cell 1
        have f2 := x4.cell 2
        have g0 := r4.cell 0
        have g1 := r4.cell 1
        have g2 := r4.cell 2
        have y0 := r4.frozen 0
        have y1 := r4.frozen 1
        have y2 := r4.frozen 2
        cases gd
        · have hno : readOk s = false := by rw [HS.out]; simp
          have F := fin3 (p := w.heap.size) (lo := w.heap.size) (a := .int .i64 0) (b := .int .i64 0) (c := .slice none 0 0) (Own.nil w4 w.heap.size) (by simp [Value.ownBlock]) HB4.out (Nat.le_refl _)
          go_wp2
          exact bodyPost_ret (v := .tuple #[chartV 0 0 (.slice none 0 0), .bool false]) (by simp [results, Try.results14, go_sem, g0, g1, g2]) rfl (by
            rw [HX.out, hno]; exact ⟨none, 0, rfl, F.1, F.2⟩)
        · obtain ⟨m, k, em, ek, m1, m8, k1, k8, hl, h64, hl1, hcol⟩ := good_nat HGD.out
          obtain rfl : m = M := by omega
          obtain ⟨q, rfl, _, _⟩ := ho4.some_ (by omega)
          obtain ⟨T, hT⟩ : ∃ T : ByteArray, (⟨(tx m K K.length).toArray⟩ : ByteArray) = T := ⟨_, rfl⟩
          have htext := l2Text_any m H q 0 c3 _ K w4 ho4.rd (Nat.le_refl _) m1 m8 h64 hcol
          rw [hT] at htext
          have HTX := Lib.hid htext
          have HT := Lib.hid hT
          clear htext hT hl em ek
          by_cases ht : tx m K K.length = s.data.toList
          · obtain rfl : T = s := by rw [← HT.out, ht]
            have hyes : readOk T = true := by rw [HS.out, decide_eq_true ht, decide_eq_true h72]; rfl
            clear ht
            go_wp2_with fail
            refine HTX.out.mono ?_
            rintro e w5 ⟨rfl, hb5⟩
            have ho5 := ho4.all hb5
            have x5 := x4.all hb5
            have r5 := r4.all hb5
            have HB5 := Lib.hid (HB4.out.trans (hb5.mono hz4))
            clear ho4 x4 r4 hb5 HTX f0 f1 f2 g0 g1 g2 y0 y1 y2
            have f0 := x5.cell 0
            have f1 := x5.cell 1
            have f2 := x5.cell 2
            have g0 := r5.cell 0
            have g1 := r5.cell 1
            have g2 := r5.cell 2
            have y0 := r5.frozen 0
            have y1 := r5.frozen 1
            have y2 := r5.frozen 2
            have F := fin3 (p := w.heap.size) (a := .int .i64 m) (b := .int .i64 H) (c := .slice (some ⟨q, 0, none⟩) K.length c3) ho5 (row_ne' ho5.1 r5 (by decide)) HB5.out (Nat.le_refl _)
            go_wp2
            exact bodyPost_ret (v := .tuple #[chartV m H (.slice (some ⟨q, 0, none⟩) K.length c3), .bool true]) (by simp [results, Try.results14, go_sem, g0, g1, g2]) rfl (by
              rw [HX.out, hyes, HM.out, HH.out]; exact ⟨some ⟨q, 0, none⟩, c3, rfl, F.1, F.2⟩)
          · have hno : readOk s = false := by rw [HS.out, decide_eq_false ht]; simp
            have hne : (T.toList == s.toList) = false := by
              rw [beq_eq_false_iff_ne]
              intro e
              rw [Lib.toList_data, Lib.toList_data, ← HT.out] at e
              exact ht e
            clear ht
            have F : ∀ w5, Below w4.heap.size w4 w5 → _ := fun w5 hb5 => fin3 (p := w.heap.size) (lo := w.heap.size) (a := .int .i64 0) (b := .int .i64 0) (c := .slice none 0 0) (Own.nil w5 w.heap.size) (by simp [Value.ownBlock]) (HB4.out.trans (hb5.mono hz4)) (Nat.le_refl _)
            go_wp2_with fail
            refine HTX.out.mono ?_
            rintro e w5 ⟨rfl, hb5⟩
            have r5 := r4.all hb5
            have F5 := F w5 hb5
            clear ho4 x4 r4 hb5 HTX f0 f1 f2 g0 g1 g2 y0 y1 y2 F
            have g0 := r5.cell 0
            have g1 := r5.cell 1
            have g2 := r5.cell 2
            have y0 := r5.frozen 0
            have y1 := r5.frozen 1
            have y2 := r5.frozen 2
            go_wp2
            exact bodyPost_ret (v := .tuple #[chartV 0 0 (.slice none 0 0), .bool false]) (by simp [results, Try.results14, go_sem, g0, g1, g2]) rfl (by
            rw [HX.out, hno]; exact ⟨none, 0, rfl, F5.1, F5.2⟩)
  · have hno : readOk s = false := by rw [read_spec, decide_eq_false h72]; simp
    have hX : readX s = [] := by unfold readX; rw [hno]; rfl
    have hi72 : (72 : Int) < (s.size : Int) := by omega
    rw [hno, hX]
    go_enter Try.func14, Try.ntmps14
    go_wp2
    exact bodyPost_ret (v := .tuple #[chartV 0 0 (.slice none 0 0), .bool false]) (by simp [results, Try.results14, go_sem]) rfl ⟨none, 0, rfl, Own.nil _ _, ((Below.refl _ _).alloc (Nat.le_refl _) _)⟩
end Go.Proofs.Yteiaanaljimghaa
