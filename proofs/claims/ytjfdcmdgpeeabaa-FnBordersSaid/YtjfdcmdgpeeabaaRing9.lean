/- The walks of NearestMeeting, the program's and the model's. No condition. -/
import Derived.Test.YtjfdcmdgpeeabaaRing5
import Derived.Test.YtjfdcmdgpeeabaaPlaceMath
import Derived.Test.YtjfdcmdgpeeabaaAppF
import Derived.Deep.CutRange
namespace Go.Proofs.Ytjfdcmdgpeeabaa
open Go.RowKit

/-- The t-th size, in lexicographic order. -/
def candP (t : Nat) : PairR := ⟨((t / 7 + 2 : Nat) : Int), ((t % 7 + 2 : Nat) : Int)⟩
def meetB (L t : Nat) : Bool := decide (ringN (t / 7 + 2) (t % 7 + 2) % L = 0)
def sizesTo (L n : Nat) : List PairR := ((List.range n).filter (meetB L)).map candP
def distP (W H : Int) (p : PairR) : Int := mostI (p.f0 - W) (W - p.f0) + mostI (p.f1 - H) (H - p.f1)
def stepN (d : PairR → Int) (o : Option PairR) (a : PairR) : Option PairR := match o with | none => some a | some m => if d a < d m then some a else some m
def bestN (d : PairR → Int) (xs : List PairR) : Option PairR := xs.foldl (stepN d) none
theorem bestN_snoc (d : PairR → Int) (xs : List PairR) (a : PairR) : bestN d (xs ++ [a]) = stepN d (bestN d xs) a := by unfold bestN; rw [List.foldl_append]; rfl
theorem sizes_yes {L n : Nat} (h : meetB L n = true) : sizesTo L (n + 1) = sizesTo L n ++ [candP n] := by unfold sizesTo; rw [List.range_succ, List.filter_append, List.map_append, List.filter_cons, if_pos h]; rfl
theorem sizes_no {L n : Nat} (h : meetB L n = false) : sizesTo L (n + 1) = sizesTo L n := by unfold sizesTo; rw [List.range_succ, List.filter_append, List.filter_cons, if_neg (by rw [h]; decide), List.filter_nil, List.append_nil]
theorem sizes_len {L n : Nat} : (sizesTo L n).length ≤ n := by unfold sizesTo; rw [List.length_map]; exact Nat.le_trans (List.length_filter_le _ _) (by simp)
theorem cand_of {w h : Nat} (h2 : 2 ≤ h) (h8 : h ≤ 8) (w2 : 2 ≤ w) : ((w - 2) * 7 + (h - 2)) / 7 = w - 2 ∧ ((w - 2) * 7 + (h - 2)) % 7 = h - 2 := by omega
theorem candP_at {w h : Nat} (h2 : 2 ≤ h) (h8 : h ≤ 8) (w2 : 2 ≤ w) : candP ((w - 2) * 7 + (h - 2)) = ⟨(w : Int), (h : Int)⟩ := by
  obtain ⟨a, b⟩ := cand_of h2 h8 w2
  unfold candP
  rw [a, b, Nat.sub_add_cancel w2, Nat.sub_add_cancel h2]
theorem meetB_at {L w h : Nat} (h2 : 2 ≤ h) (h8 : h ≤ 8) (w2 : 2 ≤ w) : meetB L ((w - 2) * 7 + (h - 2)) = decide (ringN w h % L = 0) := by
  obtain ⟨a, b⟩ := cand_of h2 h8 w2
  unfold meetB
  rw [a, b, Nat.sub_add_cancel w2, Nat.sub_add_cancel h2]
theorem sizes_in {L n : Nat} {a : PairR} (h : a ∈ sizesTo L n) (hn : n ≤ 49) : ∃ w h : Nat, a = ⟨(w : Int), (h : Int)⟩ ∧ 2 ≤ w ∧ w ≤ 8 ∧ 2 ≤ h ∧ h ≤ 8 := by
  unfold sizesTo at h
  obtain ⟨t, ht, rfl⟩ := List.mem_map.1 h
  have ht2 := List.mem_range.1 (List.mem_filter.1 ht).1
  exact ⟨t / 7 + 2, t % 7 + 2, rfl, by omega, by omega, by omega, by omega⟩
theorem bestN_none {d : PairR → Int} : ∀ {xs : List PairR}, bestN d xs = none → xs = [] := by
  intro xs h
  rcases xs.eq_nil_or_concat with rfl | ⟨l, a, rfl⟩
  · rfl
  · rw [List.concat_eq_append, bestN_snoc] at h
    unfold stepN at h
    split at h
    · cases h
    · split at h <;> cases h
theorem bestN_fold {d : PairR → Int} : ∀ (xs : List PairR) (o : Option PairR) (m : PairR), xs.foldl (stepN d) o = some m → m ∈ xs ∨ o = some m := by
  intro xs
  induction xs with
  | nil => intro o m h; exact Or.inr h
  | cons x xs ih =>
    intro o m h
    rcases ih _ _ h with h1 | h1
    · exact Or.inl (List.mem_cons_of_mem _ h1)
    · unfold stepN at h1
      cases o with
      | none => cases h1; exact Or.inl List.mem_cons_self
      | some p =>
        simp only at h1
        split at h1
        · cases h1; exact Or.inl List.mem_cons_self
        · exact Or.inr h1
theorem bestN_in {d : PairR → Int} {xs : List PairR} {m : PairR} (h : bestN d xs = some m) : m ∈ xs := by
  rcases bestN_fold _ _ _ h with h1 | h1
  · exact h1
  · cases h1
/-- What the model keeps. -/
def encA (o : Option PairR) : Int := match o with | none => 0 | some p => p.f0
def encB (o : Option PairR) : Int := match o with | none => 0 | some p => p.f1
def encL (d : PairR → Int) (o : Option PairR) : Int := match o with | none => -1 | some p => d p
def nearO (W H L : Nat) : Option PairR := bestN (distP W H) (sizesTo L 49)
def nearSides (W H L : Int) : Bool := ringSideB W && ringSideB H && inB L 1 8
def nearF (W H L : Int) : Option PairR := if nearSides W H L = true then nearO W.toNat H.toNat L.toNat else none
theorem distP_bd {W H : Nat} {w h : Nat} (W2 : 2 ≤ W) (W8 : W ≤ 8) (H2 : 2 ≤ H) (H8 : H ≤ 8) (w2 : 2 ≤ w) (w8 : w ≤ 8) (h2 : 2 ≤ h) (h8 : h ≤ 8) : 0 ≤ distP W H ⟨(w : Int), (h : Int)⟩ ∧ distP W H ⟨(w : Int), (h : Int)⟩ ≤ 12 := by
  unfold distP mostI
  simp only
  omega
theorem most_eq (a b v : Int) (w : World) (h : mostI a b = v) : Calls Try.prog 60 #[.int .i64 a, .int .i64 b] w fun e w' => e = .returned (.int .i64 v) ∧ w = w' := by
  subst h
  exact l1Most_any a b w
theorem info_Pt : (Try.prog.info? 72).map (fun i => (i.zero, i.size, i.bytes)) = some (some (.agg #[.int .i64 0, .int .i64 0]), 2, 16) := by kernel_rfl
theorem pair_ok {w h : Nat} (w8 : w ≤ 8) (h8 : h ≤ 8) : pairF.ok ⟨(w : Int), (h : Int)⟩ := ⟨⟨by simp only; omega, by simp only; omega⟩, ⟨by simp only; omega, by simp only; omega⟩⟩
theorem difference8_eq (a b v : Int) (w : World) (ha : -1000 ≤ a ∧ a ≤ 1000) (hb : -1000 ≤ b ∧ b ≤ 1000) (hv : mostI (a - b) (b - a) = v) :
    Calls Try.prog 57 #[.int .i64 a, .int .i64 b] w fun e w' => e = .returned (.int .i64 v) ∧ w = w' := by
  have h1 : IntKind.i64.wrap (a - b) = a - b := IntWalk.i64_in _ (by omega)
  have h2 : IntKind.i64.wrap (b - a) = b - a := IntWalk.i64_in _ (by omega)
  go_enter Try.func57, Try.ntmps57
  go_wp2
  all_goals
    go_ret
    exact ⟨ret_int (by rw [← hv]; unfold mostI; omega), by first | rfl | trivial⟩
set_option maxRecDepth 100000 in
set_option maxHeartbeats 4000000 in
theorem meetingSizes_any (L : Nat) (w : World) (l1 : 1 ≤ L) (l8 : L ≤ 8) : Calls Try.prog 54 #[.int .i64 L] w fun e w' => ∃ A c, e = .returned (.slice A (sizesTo L 49).length c) ∧ OwnF pairF w' w.heap.size (.slice A (sizesTo L 49).length c) (sizesTo L 49) ∧ Below w.heap.size w w' := by
  have HB := Lib.hid (Below.refl w.heap.size w)
  have O : OwnF pairF w w.heap.size (.slice none 0 0) [] := OwnF.nil _ _ _
  go_enter Try.func54, Try.ntmps54
  go_wp2
  go_loopw [4, 3] (fun s4 s3 wr => ∃ (a : Nat) (A : Option Addr) (c : Nat) (xs : List PairR), 2 ≤ a ∧ a ≤ 9 ∧ s4 = .int .i64 a ∧ s3 = .slice A xs.length c ∧ Hid (xs = sizesTo L ((a - 2) * 7)) ∧ OwnF pairF wr w.heap.size (.slice A xs.length c) xs ∧ Hid (Below w.heap.size w wr)) (fun s4 _ _ => 9 - (intOf s4).toNat)
  case atStart => exact ⟨2, none, 0, [], by omega, by omega, rfl, rfl, Lib.hid rfl, O, HB⟩
  case round =>
    clear O HB
    obtain ⟨a, A, c, xs, a2, a9, rfl, rfl, HX, O, HB⟩ := hrel
    by_cases ha : a ≤ 8
    · have hai : (a : Int) ≤ 8 := by omega
      go_wp2
      obtain ⟨wp, hwp⟩ : ∃ v, v = wr := ⟨_, rfl⟩
      subst hwp
      go_loopw [5, 3] (fun s5 s3 wr => ∃ (b : Nat) (A : Option Addr) (c : Nat) (xs : List PairR), 2 ≤ b ∧ b ≤ 9 ∧ s5 = .int .i64 b ∧ s3 = .slice A xs.length c ∧ Hid (xs = sizesTo L ((a - 2) * 7 + (b - 2))) ∧ OwnF pairF wr w.heap.size (.slice A xs.length c) xs ∧ Hid (Below w.heap.size w wr)) (fun s5 _ _ => 9 - (intOf s5).toNat)
      case atStart => exact ⟨2, A, c, xs, by omega, by omega, rfl, rfl, HX, O, HB⟩
      case round =>
        clear O HB HX
        obtain ⟨b, A, c, xs, b2, b9, rfl, rfl, HX, O, HB⟩ := hrel
        have hzw := HB.out.size
        by_cases hb : b ≤ 8
        · have hbi : (b : Int) ≤ 8 := by omega
          have hidx : (a - 2) * 7 + (b + 1 - 2) = (a - 2) * 7 + (b - 2) + 1 := by omega
          have hxl : xs.length ≤ 49 := by
            have h1 := sizes_len (L := L) (n := (a - 2) * 7 + (b - 2))
            rw [HX.out]; omega
          cases hm : decide (ringN a b % L = 0) with
          | true =>
            have HN := Lib.hid (show xs ++ [⟨(a : Int), (b : Int)⟩] = sizesTo L ((a - 2) * 7 + (b + 1 - 2)) by
              rw [hidx, sizes_yes (by rw [meetB_at b2 hb a2]; exact hm), HX.out, candP_at b2 hb a2])
            have HM := Lib.hid (fun W => meetsIn_any a b L W a2 ha b2 hb l1 l8)
            rw [hm] at HM
            have oz := O.alloc (.cells #[.int .i64 a, .int .i64 b] 72)
            have hlit : RdF pairF (wr.alloc (.cells #[.int .i64 (a : Int), .int .i64 (b : Int)] 72)) (wr.heap.size + 1) (some ⟨wr.heap.size, 0, none⟩) 1 1 [⟨(a : Int), (b : Int)⟩] := RdF.lit rfl (pair_ok ha hb)
            have hlen2 : xs.length + [(⟨(a : Int), (b : Int)⟩ : PairR)].length ≤ 1073741824 := by simp; omega
            have hlo : w.heap.size ≤ (wr.alloc (.cells #[.int .i64 (a : Int), .int .i64 (b : Int)] 72)).heap.size := by simp; omega
            go_wp2_with (first | (go_at_call 29; (with_reducible refine (HM.out _).mono ?_); rintro e w' ⟨rfl, rfl⟩) | (at_builtin; refine wpList_appendF pairF rfl _ (.tmp 18) (.tmp 22) 70 (.agg #[.int .i64 0, .int .i64 0]) 16 rfl Try.underlying70 info_Pt rfl (by decide) (by decide) w.heap.size _ xs [⟨(a : Int), (b : Int)⟩] wr.heap.size 0 1 1 (wr.heap.size + 1) rfl rfl oz hlit hlen2 hlo ?_))
            intro A' c' w2 hown2 hg2
            rw [HN.out] at hown2
            have HL := Lib.hid (congrArg List.length HN.out)
            have hl2 : xs.length + 1 = (sizesTo L ((a - 2) * 7 + (b + 1 - 2))).length := by rw [← HL.out]; simp
            have HB2 := Lib.hid (((HB.out.alloc hzw (.cells #[.int .i64 (a : Int), .int .i64 (b : Int)] 72))).grown hg2 hlo (fun z hz => (O.bd z hz).1))
            have hown3 : OwnF pairF w2 w.heap.size (.slice A' (xs.length + 1) c') (sizesTo L ((a - 2) * 7 + (b + 1 - 2))) := hown2
            rw [hl2] at hown3
            clear hown2
            have HL2 := Lib.hid hl2
            clear oz hlit hlen2 hlo HL hl2 O HB
            go_wp2
            go_roundw
            case rel => exact ⟨b + 1, A', c', _, by omega, by omega, by go_num, by first | rfl | rw [← HL2.out], Lib.hid rfl, hown3, HB2⟩
            case measure => simp [intOf]; omega
          | false =>
            have HN := Lib.hid (show xs = sizesTo L ((a - 2) * 7 + (b + 1 - 2)) by
              rw [hidx, sizes_no (by rw [meetB_at b2 hb a2]; exact hm), HX.out])
            have HM := Lib.hid (fun W => meetsIn_any a b L W a2 ha b2 hb l1 l8)
            rw [hm] at HM
            go_wp2_with (go_at_call 29; (with_reducible refine (HM.out _).mono ?_); rintro e w' ⟨rfl, rfl⟩)
            go_roundw
            case rel => exact ⟨b + 1, A, c, xs, by omega, by omega, by go_num, rfl, HN, O, HB⟩
            case measure => simp [intOf]; omega
        · obtain rfl : b = 9 := by omega
          have HN := Lib.hid (show xs = sizesTo L ((a + 1 - 2) * 7) by rw [HX.out]; congr 1; omega)
          go_wp2
          go_roundw
          case rel => exact ⟨a + 1, A, c, xs, by omega, by omega, by go_num, rfl, HN, O, HB⟩
          case measure => simp [intOf]; omega
    · obtain rfl : a = 9 := by omega
      have HN := Lib.hid (show xs = sizesTo L 49 from HX.out)
      go_wp2
      go_ret
      rw [HN.out] at O
      exact ⟨A, c, by rw [HN.out]; rfl, O, HB.out⟩
set_option maxRecDepth 100000 in
set_option maxHeartbeats 4000000 in
theorem closer_eq (W H q0 q1 : Nat) (a0 a1 b0 b1 : Nat) (w : World) (x : Blk w q0 3 #[.int .i64 W]) (y : Blk w q1 3 #[.int .i64 H]) (W8 : W ≤ 8) (H8 : H ≤ 8) (ha0 : a0 ≤ 8) (ha1 : a1 ≤ 8) (hb0 : b0 ≤ 8) (hb1 : b1 ≤ 8) (d : Int) (hd : distP W H ⟨(a0 : Int), (a1 : Int)⟩ - distP W H ⟨(b0 : Int), (b1 : Int)⟩ = d) :
    Calls Try.prog 56 #[.agg #[.int .i64 (a0 : Int), .int .i64 (a1 : Int)], .agg #[.int .i64 (b0 : Int), .int .i64 (b1 : Int)], .pointer (some ⟨q0, 0, none⟩), .pointer (some ⟨q1, 0, none⟩)] w (Out w (.int .i64 d)) := by
  have HB := Lib.hid (((Below.refl w.heap.size w).alloc (Nat.le_refl _) (.cells #[.int .i64 (a0 : Int), .int .i64 (a1 : Int)] 72)).alloc (by simp) (.cells #[.int .i64 (b0 : Int), .int .i64 (b1 : Int)] 72))
  obtain ⟨v1, h1⟩ : ∃ v, mostI ((a0 : Int) - (W : Int)) ((W : Int) - (a0 : Int)) = v := ⟨_, rfl⟩
  obtain ⟨v2, h2⟩ : ∃ v, mostI ((a1 : Int) - (H : Int)) ((H : Int) - (a1 : Int)) = v := ⟨_, rfl⟩
  obtain ⟨v3, h3⟩ : ∃ v, mostI ((b0 : Int) - (W : Int)) ((W : Int) - (b0 : Int)) = v := ⟨_, rfl⟩
  obtain ⟨v4, h4⟩ : ∃ v, mostI ((b1 : Int) - (H : Int)) ((H : Int) - (b1 : Int)) = v := ⟨_, rfl⟩
  have k1 : 0 ≤ v1 ∧ v1 ≤ 8 := by unfold mostI at h1; omega
  have k2 : 0 ≤ v2 ∧ v2 ≤ 8 := by unfold mostI at h2; omega
  have k3 : 0 ≤ v3 ∧ v3 ≤ 8 := by unfold mostI at h3; omega
  have k4 : 0 ≤ v4 ∧ v4 ≤ 8 := by unfold mostI at h4; omega
  have HD := Lib.hid (show v1 + v2 - v3 - v4 = d by
    unfold distP at hd
    simp only at hd
    rw [h1, h2, h3, h4] at hd
    omega)
  have H1 := Lib.hid h1
  have H2 := Lib.hid h2
  have H3 := Lib.hid h3
  have H4 := Lib.hid h4
  have hw1 : IntKind.i64.wrap (v1 + v2) = v1 + v2 := IntWalk.i64_in _ (by omega)
  have hw2 : IntKind.i64.wrap (v1 + v2 - v3) = v1 + v2 - v3 := IntWalk.i64_in _ (by omega)
  have hw3 : IntKind.i64.wrap (v1 + v2 - v3 - v4) = v1 + v2 - v3 - v4 := IntWalk.i64_in _ (by omega)
  have r0 : -1000 ≤ (W : Int) ∧ (W : Int) ≤ 1000 := by omega
  have r1 : -1000 ≤ (H : Int) ∧ (H : Int) ≤ 1000 := by omega
  have ra0 : -1000 ≤ (a0 : Int) ∧ (a0 : Int) ≤ 1000 := by omega
  have ra1 : -1000 ≤ (a1 : Int) ∧ (a1 : Int) ≤ 1000 := by omega
  have rb0 : -1000 ≤ (b0 : Int) ∧ (b0 : Int) ≤ 1000 := by omega
  have rb1 : -1000 ≤ (b1 : Int) ∧ (b1 : Int) ≤ 1000 := by omega
  have x0 := x.cell 0
  have y0 := y.cell 0
  have zx := x.lt
  have zy := y.lt
  clear hd h1 h2 h3 h4 x y W8 H8 ha0 ha1 hb0 hb1 k1 k2 k3 k4
  go_enter Try.func56, Try.ntmps56
  go_wp2
  go_quiet (first | (go_at_call 57; (with_reducible refine (difference8_eq (a0 : Int) (W : Int) v1 _ ra0 r0 H1.out).mono ?_); rintro e wy ⟨rfl, rfl⟩; exact ⟨rfl, _, rfl⟩) | (go_at_call 57; (with_reducible refine (difference8_eq (a1 : Int) (H : Int) v2 _ ra1 r1 H2.out).mono ?_); rintro e wy ⟨rfl, rfl⟩; exact ⟨rfl, _, rfl⟩) | (go_at_call 57; (with_reducible refine (difference8_eq (b0 : Int) (W : Int) v3 _ rb0 r0 H3.out).mono ?_); rintro e wy ⟨rfl, rfl⟩; exact ⟨rfl, _, rfl⟩) | (go_at_call 57; (with_reducible refine (difference8_eq (b1 : Int) (H : Int) v4 _ rb1 r1 H4.out).mono ?_); rintro e wy ⟨rfl, rfl⟩; exact ⟨rfl, _, rfl⟩))
  go_wp2
  go_ret
  exact ⟨ret_int HD.out, belowN HB.out _⟩
section
variable {w w0 : World} {p q B n c : Nat} {t : TypeId} {a b : Value} {A : Option Addr} {cs : Array Value} {xs : List PairR}
theorem Blk.far2b (h : Blk w q t cs) (hp : q ≠ p) : Blk ((w.setCell ⟨p, 0, none⟩ a).setCell ⟨p, 1, none⟩ b) q t cs := (h.far (a := ⟨p, 0, none⟩) hp _).far (a := ⟨p, 1, none⟩) hp _
theorem below_far2 (h : Below B w0 w) (hp : B ≤ p) : Below B w0 ((w.setCell ⟨p, 0, none⟩ a).setCell ⟨p, 1, none⟩ b) := (h.setCell (p := ⟨p, 0, none⟩) hp a).setCell (p := ⟨p, 1, none⟩) hp b
theorem rdf_far2 (h : RdF pairF w B A n c xs) (hp : B ≤ p) : RdF pairF ((w.setCell ⟨p, 0, none⟩ a).setCell ⟨p, 1, none⟩ b) B A n c xs :=
  h.keep fun b' o hb => by
    rw [World.cell?_setCell_other _ _ _ _ (by first | (simp; done) | (simp; omega)), World.cell?_setCell_other _ _ _ _ (by first | (simp; done) | (simp; omega))]
end
set_option maxRecDepth 100000 in
set_option maxHeartbeats 8000000 in
theorem nearMin_any (W H q0 q1 b off n c B : Nat) (xs : List PairR) (w : World) (h : RdF pairF w B (some ⟨b, off, none⟩) n c xs) (hB : B ≤ w.heap.size) (x : Blk w q0 3 #[.int .i64 W]) (y : Blk w q1 3 #[.int .i64 H]) (W8 : W ≤ 8) (H8 : H ≤ 8) (hn0 : 0 < n) (hn8 : n ≤ 49) (hin : ∀ a ∈ xs, ∃ u v : Nat, a = ⟨(u : Int), (v : Int)⟩ ∧ 2 ≤ u ∧ u ≤ 8 ∧ 2 ≤ v ∧ v ≤ 8) (r : PairR) (hr : bestN (distP W H) xs = some r) :
    Calls Try.prog 55 #[.slice (some ⟨b, off, none⟩) n c, .func (.func 56) #[] #[.pointer (some ⟨q0, 0, none⟩), .pointer (some ⟨q1, 0, none⟩)]] w (Out w (.agg #[.int .i64 r.f0, .int .i64 r.f1])) := by
  have hcap := h.cap
  have hmx := h.max
  obtain rfl := h.len
  have HR := Lib.hid hr
  have HIN := Lib.hid hin
  clear hr hin
  obtain ⟨_, _, a, e0, hbB, _, HX0, hc0, hc1⟩ := Pair_at (h.alloc hB (.cells #[.int .i64 0, .int .i64 0] 72)) hn0
  cases e0
  obtain ⟨u, v, hau, u2, u8, v2, v8⟩ := HIN.out a (List.mem_of_getElem? HX0.out)
  subst hau
  simp only [Nat.zero_mul, Nat.add_zero] at hc0 hc1
  have x4 := (Blk.new w #[.int .i64 0, .int .i64 0] 72).alloc (.cells #[.int .i64 (u : Int), .int .i64 (v : Int)] 72)
  have x5 := (Blk.new (w.alloc (.cells #[.int .i64 0, .int .i64 0] 72)) #[.int .i64 (u : Int), .int .i64 (v : Int)] 72).at_ (q := w.heap.size + 1) (by simp)
  have HH := ((Below.refl w.heap.size w).alloc (Nat.le_refl _) (.cells #[.int .i64 0, .int .i64 0] 72)).alloc (by simp) (.cells #[.int .i64 (u : Int), .int .i64 (v : Int)] 72)
  have X := (h.alloc hB (.cells #[.int .i64 0, .int .i64 0] 72)).alloc (by simp; omega) (.cells #[.int .i64 (u : Int), .int .i64 (v : Int)] 72)
  have zq0 := x.lt
  have zq1 := y.lt
  replace x := (x.alloc (.cells #[.int .i64 0, .int .i64 0] 72)).alloc (.cells #[.int .i64 (u : Int), .int .i64 (v : Int)] 72)
  replace y := (y.alloc (.cells #[.int .i64 0, .int .i64 0] 72)).alloc (.cells #[.int .i64 (u : Int), .int .i64 (v : Int)] 72)
  have H1 := Lib.hid (show bestN (distP W H) (xs.take 1) = some ⟨(u : Int), (v : Int)⟩ by
    have hx := HX0.out
    obtain ⟨hk, e⟩ := List.getElem?_eq_some_iff.1 hx
    rw [List.take_succ_eq_append_getElem hk, List.take_zero, List.nil_append, e]; rfl)
  clear h
  go_enter Try.func55, Try.ntmps55
  go_wp2
  clear hc0 hc1
  obtain ⟨w0, hw0⟩ : ∃ v0, (w.alloc (.cells #[.int .i64 0, .int .i64 0] 72)).alloc (.cells #[.int .i64 (u : Int), .int .i64 (v : Int)] 72) = v0 := ⟨_, rfl⟩
  rw [hw0] at x4 x5 HH X x y ⊢
  clear hw0
  go_loopw [6] (fun s6 wr => ∃ (k m0 m1 : Nat), 1 ≤ k ∧ k ≤ xs.length ∧ s6 = .int .i64 k ∧ Hid (bestN (distP W H) (xs.take k) = some ⟨(m0 : Int), (m1 : Int)⟩) ∧ Hid (Below w.heap.size w wr) ∧ Blk wr w.heap.size 72 #[.int .i64 0, .int .i64 0] ∧ Blk wr (w.heap.size + 1) 72 #[.int .i64 (m0 : Int), .int .i64 (m1 : Int)] ∧ Blk wr q0 3 #[.int .i64 W] ∧ Blk wr q1 3 #[.int .i64 H] ∧ RdF pairF wr B (some ⟨b, off, none⟩) xs.length c xs ∧ m0 ≤ 8 ∧ m1 ≤ 8) (fun s6 _ => xs.length - (intOf s6).toNat)
  case atStart => exact ⟨1, u, v, Nat.le_refl _, hn0, rfl, H1, HH, x4, x5, x, y, X, u8, v8⟩
  case round =>
    clear HH x4 x5 x y X
    obtain ⟨k, m0, m1, hk1, hk, rfl, HM, HHh, x4, x5, x, y, X, hm0, hm1⟩ := hrel
    have HH := HHh.out
    have hzw := HH.size
    by_cases hlt : k < xs.length
    · obtain ⟨_, _, a, e0, _, _, HX, hx0, hx1⟩ := Pair_at X hlt
      cases e0
      obtain ⟨a0, a1, haa, _, ha0, _, ha1⟩ := HIN.out a (List.mem_of_getElem? HX.out)
      subst haa
      have hbz : b < wr.heap.size := by omega
      have E0 : Cel wr b (off + k * 2) (.int .i64 (a0 : Int)) := ⟨hbz, hx0⟩
      have E1 : Cel wr b (off + k * 2 + 1) (.int .i64 (a1 : Int)) := ⟨hbz, hx1⟩
      have HTK := Lib.hid (show xs.take (k + 1) = xs.take k ++ [⟨(a0 : Int), (a1 : Int)⟩] by
        obtain ⟨hk', e⟩ := List.getElem?_eq_some_iff.1 HX.out
        rw [List.take_succ_eq_append_getElem hk', e])
      obtain ⟨d, hd0⟩ : ∃ d, distP W H ⟨(a0 : Int), (a1 : Int)⟩ - distP W H ⟨(m0 : Int), (m1 : Int)⟩ = d := ⟨_, rfl⟩
      have hd := Lib.hid hd0
      have hk0 : (0 : Int) ≤ (k : Int) := by omega
      have hkn : (k : Int) < (xs.length : Int) := by omega
      obtain ⟨P5, hP5⟩ : ∃ P5, w.heap.size + 1 = P5 := ⟨_, rfl⟩
      have HP5 := Lib.hid hP5
      have hne4 : w.heap.size ≠ P5 := by omega
      have hneq0 : q0 ≠ P5 := by omega
      have hneq1 : q1 ≠ P5 := by omega
      have hBP : B ≤ P5 := by omega
      have hwP : w.heap.size ≤ P5 := by omega
      rw [hP5] at x5 ⊢
      clear hP5 HX
      by_cases hneg : d < 0
      · have HN := Lib.hid (show bestN (distP W H) (xs.take (k + 1)) = some ⟨(a0 : Int), (a1 : Int)⟩ by
          rw [HTK.out, bestN_snoc, HM.out]
          exact if_pos (by omega))
        clear hd0
        have ex50 := x5.cell 0
        have ex51 := x5.cell 1
        go_wp2
        refine wp_region_noPanic ?_
        refine wp_region_held_drew (S := (fun w' => w'.cell? ⟨b, off + k * 2, none⟩ = some (.int .i64 (a0 : Int)) ∧ w'.cell? ⟨b, off + k * 2 + 1, none⟩ = some (.int .i64 (a1 : Int)) ∧ w'.cell? ⟨P5, 0, none⟩ = some (.int .i64 (m0 : Int)) ∧ w'.cell? ⟨P5, 1, none⟩ = some (.int .i64 (m1 : Int)))) (by kernel_rfl) (by go_keep) (fun hHeld => ?_)
        have HHz := belowD HH
        have x4z : Blk wr.drew _ _ _ := x4.all (low_drewN wr 1)
        have x5z : Blk wr.drew _ _ _ := x5.all (low_drewN wr 1)
        have xz : Blk wr.drew _ _ _ := x.all (low_drewN wr 1)
        have yz : Blk wr.drew _ _ _ := y.all (low_drewN wr 1)
        have Xz := X.drew
        have E0z := E0.drew
        have E1z := E1.drew
        obtain ⟨wd, hwd⟩ : ∃ v, wr.drew = v := ⟨_, rfl⟩
        rw [hwd] at hHeld HHz x4z x5z xz yz Xz E0z E1z ⊢
        clear hwd
        refine wpAnyH_take (i := 0) (v := ?_) rfl (by kernel_rfl) (by kernel_rfl) (by kernel_rfl) (fun _ _ _ h => h) (Or.inl ⟨by rfl, ?_⟩) (by assumption) ?_
        rotate_left
        · intro w hSw; (try dsimp only at hSw); go_simp; (try with_reducible rfl)
        (try simp only [Act.put, List.getElem_toArray, List.getElem_cons_zero, List.setIfInBounds_toArray, List.set_cons_zero, List.set_cons_succ])
        refine wpAnyH_take (i := 1) (v := ?_) rfl (by kernel_rfl) (by kernel_rfl) (by kernel_rfl) (fun _ _ _ h => h) (Or.inl ⟨by rfl, ?_⟩) (by assumption) ?_
        rotate_left
        · intro w hSw; (try dsimp only at hSw); go_simp; (try with_reducible rfl)
        (try simp only [Act.put, List.getElem_toArray, List.getElem_cons_zero, List.getElem_cons_succ, List.setIfInBounds_toArray, List.set_cons_zero, List.set_cons_succ])
        refine wpAnyH_take (i := 2) (v := ?_) rfl (by kernel_rfl) (by kernel_rfl) (by kernel_rfl) (fun _ _ _ h => h) (Or.inl ⟨by rfl, ?_⟩) (by assumption) ?_
        rotate_left
        · intro w hSw; (try dsimp only at hSw); go_simp; (try with_reducible rfl)
        (try simp only [Act.put, List.getElem_toArray, List.getElem_cons_zero, List.getElem_cons_succ, List.setIfInBounds_toArray, List.set_cons_zero, List.set_cons_succ])
        refine wpAnyH_take (i := 3) (v := ?_) rfl (by kernel_rfl) (by kernel_rfl) (by kernel_rfl) (fun _ _ _ h => h) (Or.inl ⟨by rfl, ?_⟩) (by assumption) ?_
        rotate_left
        · intro w hSw; (try dsimp only at hSw); go_simp; (try with_reducible rfl)
        (try simp only [Act.put, List.getElem_toArray, List.getElem_cons_zero, List.getElem_cons_succ, List.setIfInBounds_toArray, List.set_cons_zero, List.set_cons_succ])
        refine wpAnyH_take (i := 4) (v := ?_) rfl (by kernel_rfl) (by kernel_rfl) (by kernel_rfl) (fun _ _ _ h => h) (Or.inl ⟨by rfl, ?_⟩) (by assumption) ?_
        rotate_left
        · intro w hSw; (try dsimp only at hSw); go_simp; (try with_reducible rfl)
        (try simp only [Act.put, List.getElem_toArray, List.getElem_cons_zero, List.getElem_cons_succ, List.setIfInBounds_toArray, List.set_cons_zero, List.set_cons_succ])
        refine wpAnyH_take (i := 5) (v := ?_) rfl (by kernel_rfl) (by kernel_rfl) (by kernel_rfl) (fun _ _ _ h => h) (Or.inl ⟨by rfl, ?_⟩) (by assumption) ?_
        rotate_left
        · intro w hSw; (try dsimp only at hSw); go_simp; (try with_reducible rfl)
        (try simp only [Act.put, List.getElem_toArray, List.getElem_cons_zero, List.getElem_cons_succ, List.setIfInBounds_toArray, List.set_cons_zero, List.set_cons_succ])
        clear hHeld
        refine wpAnyH_ready (rs := [6]) (by kernel_rfl) (by simp) ?_
        refine AllReadyH.cons rfl (fun KQ hKQ => ?_) AllReadyH.nil
        go_simp
        refine (closer_eq W H q0 q1 a0 a1 m0 m1 _ xz yz W8 H8 ha0 ha1 hm0 hm1 d hd.out).mono ?_
        rintro e wq1 ⟨rfl, hb⟩
        replace x4z := x4z.all hb
        replace x5z := x5z.all hb
        replace xz := xz.all hb
        replace yz := yz.all hb
        replace Xz := Xz.all hb (Nat.le_trans hB HHz.size)
        replace E0z := E0z.all hb
        replace E1z := E1z.all hb
        replace HHz := HHz.trans (hb.mono HHz.size)
        clear hb 
        refine hKQ.out _ _ (by exact ⟨E0z.2, E1z.2, x5z.cell 0, x5z.cell 1⟩) (fun hHeld => ?_)
        clear hKQ KQ
        (try simp only [Act.put, List.getElem_toArray, List.getElem_cons_zero, List.getElem_cons_succ, List.setIfInBounds_toArray, List.set_cons_zero, List.set_cons_succ])
        refine wpAnyH_take (i := 7) (v := ?_) rfl (by kernel_rfl) (by kernel_rfl) (by kernel_rfl) (fun _ _ _ h => h) (Or.inl ⟨by rfl, ?_⟩) (by assumption) ?_
        rotate_left
        · intro w hSw; (try dsimp only at hSw); go_simp; (try with_reducible rfl)
        (try simp only [Act.put, List.getElem_toArray, List.getElem_cons_zero, List.getElem_cons_succ, List.setIfInBounds_toArray, List.set_cons_zero, List.set_cons_succ])
        refine wpAnyH_done (by kernel_rfl) ?_ _
        refine NoPanic.normal ?_
        have g0 := E0z.2
        have g1 := E1z.2
        have e50 := x5z.cell 0
        have e51 := x5z.cell 1
        have f50 := x5z.frozen 0
        have f51 := x5z.frozen 1
        have z5 := x5z.lt
        have hHs := HHz.size
        clear hHeld
        go_wp2
        go_roundw
        case rel => exact ⟨k + 1, a0, a1, by omega, by omega, by go_num, HN, Lib.hid (below_far2 HHz hwP), x4z.far2b (by omega), by have := (x5z.set_ 0 (.int .i64 (a0 : Int))).set_ 1 (.int .i64 (a1 : Int)); simpa using this, xz.far2b (by omega), yz.far2b (by omega), rdf_far2 Xz hBP, ha0, ha1⟩
        case measure => simp [intOf]; omega
      · have HN := Lib.hid (show bestN (distP W H) (xs.take (k + 1)) = some ⟨(m0 : Int), (m1 : Int)⟩ by
          rw [HTK.out, bestN_snoc, HM.out]
          exact if_neg (by omega))
        have hneg' : 0 ≤ d := by omega
        clear hd0
        have ex50 := x5.cell 0
        have ex51 := x5.cell 1
        go_wp2
        refine wp_region_noPanic ?_
        refine wp_region_held_drew (S := (fun w' => w'.cell? ⟨b, off + k * 2, none⟩ = some (.int .i64 (a0 : Int)) ∧ w'.cell? ⟨b, off + k * 2 + 1, none⟩ = some (.int .i64 (a1 : Int)) ∧ w'.cell? ⟨P5, 0, none⟩ = some (.int .i64 (m0 : Int)) ∧ w'.cell? ⟨P5, 1, none⟩ = some (.int .i64 (m1 : Int)))) (by kernel_rfl) (by go_keep) (fun hHeld => ?_)
        have HHz := belowD HH
        have x4z : Blk wr.drew _ _ _ := x4.all (low_drewN wr 1)
        have x5z : Blk wr.drew _ _ _ := x5.all (low_drewN wr 1)
        have xz : Blk wr.drew _ _ _ := x.all (low_drewN wr 1)
        have yz : Blk wr.drew _ _ _ := y.all (low_drewN wr 1)
        have Xz := X.drew
        have E0z := E0.drew
        have E1z := E1.drew
        obtain ⟨wd, hwd⟩ : ∃ v, wr.drew = v := ⟨_, rfl⟩
        rw [hwd] at hHeld HHz x4z x5z xz yz Xz E0z E1z ⊢
        clear hwd
        refine wpAnyH_take (i := 0) (v := ?_) rfl (by kernel_rfl) (by kernel_rfl) (by kernel_rfl) (fun _ _ _ h => h) (Or.inl ⟨by rfl, ?_⟩) (by assumption) ?_
        rotate_left
        · intro w hSw; (try dsimp only at hSw); go_simp; (try with_reducible rfl)
        (try simp only [Act.put, List.getElem_toArray, List.getElem_cons_zero, List.setIfInBounds_toArray, List.set_cons_zero, List.set_cons_succ])
        refine wpAnyH_take (i := 1) (v := ?_) rfl (by kernel_rfl) (by kernel_rfl) (by kernel_rfl) (fun _ _ _ h => h) (Or.inl ⟨by rfl, ?_⟩) (by assumption) ?_
        rotate_left
        · intro w hSw; (try dsimp only at hSw); go_simp; (try with_reducible rfl)
        (try simp only [Act.put, List.getElem_toArray, List.getElem_cons_zero, List.getElem_cons_succ, List.setIfInBounds_toArray, List.set_cons_zero, List.set_cons_succ])
        refine wpAnyH_take (i := 2) (v := ?_) rfl (by kernel_rfl) (by kernel_rfl) (by kernel_rfl) (fun _ _ _ h => h) (Or.inl ⟨by rfl, ?_⟩) (by assumption) ?_
        rotate_left
        · intro w hSw; (try dsimp only at hSw); go_simp; (try with_reducible rfl)
        (try simp only [Act.put, List.getElem_toArray, List.getElem_cons_zero, List.getElem_cons_succ, List.setIfInBounds_toArray, List.set_cons_zero, List.set_cons_succ])
        refine wpAnyH_take (i := 3) (v := ?_) rfl (by kernel_rfl) (by kernel_rfl) (by kernel_rfl) (fun _ _ _ h => h) (Or.inl ⟨by rfl, ?_⟩) (by assumption) ?_
        rotate_left
        · intro w hSw; (try dsimp only at hSw); go_simp; (try with_reducible rfl)
        (try simp only [Act.put, List.getElem_toArray, List.getElem_cons_zero, List.getElem_cons_succ, List.setIfInBounds_toArray, List.set_cons_zero, List.set_cons_succ])
        refine wpAnyH_take (i := 4) (v := ?_) rfl (by kernel_rfl) (by kernel_rfl) (by kernel_rfl) (fun _ _ _ h => h) (Or.inl ⟨by rfl, ?_⟩) (by assumption) ?_
        rotate_left
        · intro w hSw; (try dsimp only at hSw); go_simp; (try with_reducible rfl)
        (try simp only [Act.put, List.getElem_toArray, List.getElem_cons_zero, List.getElem_cons_succ, List.setIfInBounds_toArray, List.set_cons_zero, List.set_cons_succ])
        refine wpAnyH_take (i := 5) (v := ?_) rfl (by kernel_rfl) (by kernel_rfl) (by kernel_rfl) (fun _ _ _ h => h) (Or.inl ⟨by rfl, ?_⟩) (by assumption) ?_
        rotate_left
        · intro w hSw; (try dsimp only at hSw); go_simp; (try with_reducible rfl)
        (try simp only [Act.put, List.getElem_toArray, List.getElem_cons_zero, List.getElem_cons_succ, List.setIfInBounds_toArray, List.set_cons_zero, List.set_cons_succ])
        clear hHeld
        refine wpAnyH_ready (rs := [6]) (by kernel_rfl) (by simp) ?_
        refine AllReadyH.cons rfl (fun KQ hKQ => ?_) AllReadyH.nil
        go_simp
        refine (closer_eq W H q0 q1 a0 a1 m0 m1 _ xz yz W8 H8 ha0 ha1 hm0 hm1 d hd.out).mono ?_
        rintro e wq1 ⟨rfl, hb⟩
        replace x4z := x4z.all hb
        replace x5z := x5z.all hb
        replace xz := xz.all hb
        replace yz := yz.all hb
        replace Xz := Xz.all hb (Nat.le_trans hB HHz.size)
        replace E0z := E0z.all hb
        replace E1z := E1z.all hb
        replace HHz := HHz.trans (hb.mono HHz.size)
        clear hb 
        refine hKQ.out _ _ (by exact ⟨E0z.2, E1z.2, x5z.cell 0, x5z.cell 1⟩) (fun hHeld => ?_)
        clear hKQ KQ
        (try simp only [Act.put, List.getElem_toArray, List.getElem_cons_zero, List.getElem_cons_succ, List.setIfInBounds_toArray, List.set_cons_zero, List.set_cons_succ])
        refine wpAnyH_take (i := 7) (v := ?_) rfl (by kernel_rfl) (by kernel_rfl) (by kernel_rfl) (fun _ _ _ h => h) (Or.inl ⟨by rfl, ?_⟩) (by assumption) ?_
        rotate_left
        · intro w hSw; (try dsimp only at hSw); go_simp; (try with_reducible rfl)
        (try simp only [Act.put, List.getElem_toArray, List.getElem_cons_zero, List.getElem_cons_succ, List.setIfInBounds_toArray, List.set_cons_zero, List.set_cons_succ])
        refine wpAnyH_done (by kernel_rfl) ?_ _
        refine NoPanic.normal ?_
        have g0 := E0z.2
        have g1 := E1z.2
        have e50 := x5z.cell 0
        have e51 := x5z.cell 1
        have f50 := x5z.frozen 0
        have f51 := x5z.frozen 1
        have z5 := x5z.lt
        have hHs := HHz.size
        clear hHeld
        go_wp2
        go_roundw
        case rel => exact ⟨k + 1, m0, m1, by omega, by omega, by go_num, HN, Lib.hid HHz, x4z, x5z, xz, yz, Xz, hm0, hm1⟩
        case measure => simp [intOf]; omega
    · obtain rfl : k = xs.length := by omega
      have HE := Lib.hid (show r = ⟨(m0 : Int), (m1 : Int)⟩ by
        have h1 := HM.out
        rw [List.take_of_length_le (Nat.le_refl _), HR.out] at h1
        exact Option.some.inj h1)
      have e0 := x5.cell 0
      have e1 := x5.cell 1
      have r0 := x4.cell 0
      have r1 := x4.cell 1
      have f0 := x4.frozen 0
      have f1 := x4.frozen 1
      have z4 := x4.lt
      have F := below_far2 (a := .int .i64 (m0 : Int)) (b := .int .i64 (m1 : Int)) HH (p := w.heap.size) (Nat.le_refl _)
      go_wp2
      exact bodyPost_ret (v := .agg #[.int .i64 (m0 : Int), .int .i64 (m1 : Int)]) (by simp [results, Try.results55, go_sem, r0, r1]) rfl ⟨by rw [HE.out], F⟩

theorem ret_iib {a a' b b' : Int} {c c' : Bool} (h : a = a') (h' : b = b') (h2 : c = c') : Ending.returned (.tuple #[.int .i64 a, .int .i64 b, .bool c]) = .returned (.tuple #[.int .i64 a', .int .i64 b', .bool c']) := by rw [h, h', h2]
theorem near_no {W H L : Int} (h : nearSides W H L = false) : nearF W H L = none := by unfold nearF; rw [h]; rfl
theorem near_cases {W H L : Int} : ringSideB W = false ∨ (ringSideB W = true ∧ ringSideB H = false) ∨ (ringSideB W = true ∧ ringSideB H = true ∧ inB L 1 8 = false) ∨ (nearSides W H L = true ∧ ringSideB W = true ∧ ringSideB H = true ∧ inB L 1 8 = true) := by
  unfold nearSides
  cases ringSideB W <;> cases ringSideB H <;> cases inB L 1 8 <;> simp
set_option maxRecDepth 100000 in
set_option maxHeartbeats 4000000 in
theorem implNearestMeeting_any (W H L : Int) (w : World) : Calls Try.prog 19 #[.int .i64 W, .int .i64 H, .int .i64 L] w (Out w (.tuple #[.int .i64 (encA (nearF W H L)), .int .i64 (encB (nearF W H L)), .bool (nearF W H L).isSome])) := by
  rcases near_cases (W := W) (H := H) (L := L) with hW | ⟨hW, hH⟩ | ⟨hW, hH, hL⟩ | ⟨hs, hW, hH, hL⟩
  · have HV := Lib.hid (near_no (W := W) (H := H) (L := L) (by simp [nearSides, hW]))
    have HB := Lib.hid (((Below.refl w.heap.size w).alloc (by first | (simp; done) | (simp; omega) | omega) (.cells #[.int .i64 W] 3)).alloc (by first | (simp; done) | (simp; omega) | omega) (.cells #[.int .i64 H] 3))
    have x := ((Blk.new w #[.int .i64 W] 3).alloc (.cells #[.int .i64 H] 3)).at_ (q := w.heap.size) (by simp)
    have y := (Blk.new (w.alloc (.cells #[.int .i64 W] 3)) #[.int .i64 H] 3).at_ (q := w.heap.size + 1) (by simp)
    have hsz : w.heap.size + 2 ≤ ((w.alloc (.cells #[.int .i64 W] 3)).alloc (.cells #[.int .i64 H] 3)).heap.size := by simp
    go_enter Try.func19, Try.ntmps19
    have ex0 := x.cell 0
    have ey0 := y.cell 0
    go_wp2_with (first | (go_at_call 49; (with_reducible refine (isRingSide_any _ _).mono ?_); rintro e w' ⟨rfl, rfl⟩) | (go_at_call 53; (with_reducible refine (isPatternLength_any _ _).mono ?_); rintro e w' ⟨rfl, rfl⟩))
    go_ret3
    exact ⟨ret_iib (by rw [HV.out]; rfl) (by rw [HV.out]; rfl) (by rw [HV.out]; rfl), HB.out⟩
  · have HV := Lib.hid (near_no (W := W) (H := H) (L := L) (by simp [nearSides, hH]))
    have HB := Lib.hid (((Below.refl w.heap.size w).alloc (by first | (simp; done) | (simp; omega) | omega) (.cells #[.int .i64 W] 3)).alloc (by first | (simp; done) | (simp; omega) | omega) (.cells #[.int .i64 H] 3))
    have x := ((Blk.new w #[.int .i64 W] 3).alloc (.cells #[.int .i64 H] 3)).at_ (q := w.heap.size) (by simp)
    have y := (Blk.new (w.alloc (.cells #[.int .i64 W] 3)) #[.int .i64 H] 3).at_ (q := w.heap.size + 1) (by simp)
    have hsz : w.heap.size + 2 ≤ ((w.alloc (.cells #[.int .i64 W] 3)).alloc (.cells #[.int .i64 H] 3)).heap.size := by simp
    go_enter Try.func19, Try.ntmps19
    have ex0 := x.cell 0
    have ey0 := y.cell 0
    go_wp2_with (first | (go_at_call 49; (with_reducible refine (isRingSide_any _ _).mono ?_); rintro e w' ⟨rfl, rfl⟩) | (go_at_call 53; (with_reducible refine (isPatternLength_any _ _).mono ?_); rintro e w' ⟨rfl, rfl⟩))
    go_ret3
    exact ⟨ret_iib (by rw [HV.out]; rfl) (by rw [HV.out]; rfl) (by rw [HV.out]; rfl), HB.out⟩
  · have HV := Lib.hid (near_no (W := W) (H := H) (L := L) (by simp [nearSides, hL]))
    have HB := Lib.hid (((Below.refl w.heap.size w).alloc (by first | (simp; done) | (simp; omega) | omega) (.cells #[.int .i64 W] 3)).alloc (by first | (simp; done) | (simp; omega) | omega) (.cells #[.int .i64 H] 3))
    have x := ((Blk.new w #[.int .i64 W] 3).alloc (.cells #[.int .i64 H] 3)).at_ (q := w.heap.size) (by simp)
    have y := (Blk.new (w.alloc (.cells #[.int .i64 W] 3)) #[.int .i64 H] 3).at_ (q := w.heap.size + 1) (by simp)
    have hsz : w.heap.size + 2 ≤ ((w.alloc (.cells #[.int .i64 W] 3)).alloc (.cells #[.int .i64 H] 3)).heap.size := by simp
    go_enter Try.func19, Try.ntmps19
    have ex0 := x.cell 0
    have ey0 := y.cell 0
    go_wp2_with (first | (go_at_call 49; (with_reducible refine (isRingSide_any _ _).mono ?_); rintro e w' ⟨rfl, rfl⟩) | (go_at_call 53; (with_reducible refine (isPatternLength_any _ _).mono ?_); rintro e w' ⟨rfl, rfl⟩))
    go_ret3
    exact ⟨ret_iib (by rw [HV.out]; rfl) (by rw [HV.out]; rfl) (by rw [HV.out]; rfl), HB.out⟩
  · obtain ⟨m, rfl, m2, m8⟩ := ringSideB_nat hW
    obtain ⟨k, rfl, k2, k8⟩ := ringSideB_nat hH
    have hLb := inB_yes hL
    obtain ⟨l, rfl⟩ := Int.eq_ofNat_of_zero_le (show 0 ≤ L by omega)
    have HV := Lib.hid (show nearF m k l = nearO m k l by unfold nearF; rw [hs]; simp)
    obtain ⟨xs, hxs⟩ : ∃ xs, sizesTo l 49 = xs := ⟨_, rfl⟩
    have hxl : xs.length ≤ 49 := by rw [← hxs]; exact sizes_len
    have HIN := Lib.hid (show ∀ a ∈ xs, ∃ u v : Nat, a = ⟨(u : Int), (v : Int)⟩ ∧ 2 ≤ u ∧ u ≤ 8 ∧ 2 ≤ v ∧ v ≤ 8 by rw [← hxs]; exact fun a ha => sizes_in ha (Nat.le_refl _))
    have HO := Lib.hid (show nearO m k l = bestN (distP m k) xs by unfold nearO; rw [hxs])
    have HC := Lib.hid (fun W => meetingSizes_any l W (by omega) (by omega))
    rw [hxs] at HC
    clear hxs hs
    have HB := Lib.hid (((Below.refl w.heap.size w).alloc (by first | (simp; done) | (simp; omega) | omega) (.cells #[.int .i64 m] 3)).alloc (by first | (simp; done) | (simp; omega) | omega) (.cells #[.int .i64 k] 3))
    have x := ((Blk.new w #[.int .i64 m] 3).alloc (.cells #[.int .i64 k] 3)).at_ (q := w.heap.size) (by simp)
    have y := (Blk.new (w.alloc (.cells #[.int .i64 m] 3)) #[.int .i64 k] 3).at_ (q := w.heap.size + 1) (by simp)
    have hsz : w.heap.size + 2 ≤ ((w.alloc (.cells #[.int .i64 m] 3)).alloc (.cells #[.int .i64 k] 3)).heap.size := by simp
    go_enter Try.func19, Try.ntmps19
    have ex0 := x.cell 0
    have ey0 := y.cell 0
    go_wp2_with (first | (go_at_call 49; (with_reducible refine (isRingSide_any _ _).mono ?_); rintro e w' ⟨rfl, rfl⟩) | (go_at_call 53; (with_reducible refine (isPatternLength_any _ _).mono ?_); rintro e w' ⟨rfl, rfl⟩))
    obtain ⟨W0, hW0⟩ : ∃ v, ((w.alloc (.cells #[.int .i64 m] 3)).alloc (.cells #[.int .i64 k] 3)) = v := ⟨_, rfl⟩
    rw [hW0] at HB hsz x y ex0 ey0 ⊢
    clear hW0 ex0 ey0
    refine (HC.out _).mono ?_
    rintro e w1 ⟨A1, c1, rfl, own, hb⟩
    replace x := x.all hb
    replace y := y.all hb
    have O := own.mono (show w.heap.size ≤ _ by omega)
    clear own
    replace HB := Lib.hid (HB.out.trans (hb.mono (by omega)))
    replace hsz := Nat.le_trans hsz hb.size
    clear hb
    rcases Nat.eq_zero_or_pos xs.length with h0 | hpos
    · obtain rfl := List.eq_nil_of_length_eq_zero h0
      have HE := Lib.hid (show nearF m k l = none by rw [HV.out, HO.out]; rfl)
      go_wp2
      go_ret3
      exact ⟨ret_iib (by rw [HE.out]; rfl) (by rw [HE.out]; rfl) (by rw [HE.out]; rfl), HB.out⟩
    · have hne2 : ¬ xs = [] := fun e => by rw [e] at hpos; simp at hpos
      have hl0 : ¬ xs.length = 0 := by omega
      obtain ⟨g, rfl, _, _⟩ := O.some_ hpos
      obtain ⟨r, hr⟩ : ∃ r, bestN (distP m k) xs = some r := by
        cases hb : bestN (distP m k) xs with
        | none => exact absurd (bestN_none hb) hne2
        | some r => exact ⟨r, rfl⟩
      have HE := Lib.hid (show nearF m k l = some r by rw [HV.out, HO.out, hr])
      have X := O.rd
      go_wp2_with fail
      refine (nearMin_any m k _ _ g 0 xs.length c1 _ xs _ X (Nat.le_refl _) x y m8 k8 hpos hxl HIN.out r hr).mono ?_
      rintro e w2 ⟨rfl, hb⟩
      replace HB := Lib.hid (HB.out.trans (hb.mono (by omega)))
      replace hsz := Nat.le_trans hsz hb.size
      clear hb X O x y hr
      have z := Blk.new w2 #[.int .i64 r.f0, .int .i64 r.f1] 72
      replace HB := Lib.hid (HB.out.alloc (by omega) (.cells #[.int .i64 r.f0, .int .i64 r.f1] 72))
      have ez0 := z.cell 0
      have ez1 := z.cell 1
      go_wp2
      go_quiet (fail)
      go_wp2
      go_ret3
      exact ⟨ret_iib (by rw [HE.out]; rfl) (by rw [HE.out]; rfl) (by rw [HE.out]; rfl), belowN HB.out _⟩
set_option maxRecDepth 100000 in
set_option maxHeartbeats 8000000 in
theorem specNearestMeeting_any (W H L : Int) (w : World) : Calls Try.prog 20 #[.int .i64 W, .int .i64 H, .int .i64 L] w (Out w (.tuple #[.int .i64 (encA (nearF W H L)), .int .i64 (encB (nearF W H L)), .bool (nearF W H L).isSome])) := by
  have hb0 := Lib.hid (Below.refl w.heap.size w)
  rcases near_cases (W := W) (H := H) (L := L) with hW | ⟨hW, hH⟩ | ⟨hW, hH, hL⟩ | ⟨hs, hW, hH, hL⟩
  · have HV := Lib.hid (near_no (W := W) (H := H) (L := L) (by simp [nearSides, hW]))
    go_enter Try.func20, Try.ntmps20
    go_wp2_with (first | (go_at_call 58; (with_reducible refine (l8Side_any _ _).mono ?_); rintro e w' ⟨rfl, rfl⟩) | (go_at_call 59; (with_reducible refine (l1In_any _ _ _ _).mono ?_); rintro e w' ⟨rfl, rfl⟩))
    go_ret3
    exact ⟨ret_iib (by rw [HV.out]; rfl) (by rw [HV.out]; rfl) (by rw [HV.out]; rfl), hb0.out⟩
  · have HV := Lib.hid (near_no (W := W) (H := H) (L := L) (by simp [nearSides, hH]))
    go_enter Try.func20, Try.ntmps20
    go_wp2_with (first | (go_at_call 58; (with_reducible refine (l8Side_any _ _).mono ?_); rintro e w' ⟨rfl, rfl⟩) | (go_at_call 59; (with_reducible refine (l1In_any _ _ _ _).mono ?_); rintro e w' ⟨rfl, rfl⟩))
    go_ret3
    exact ⟨ret_iib (by rw [HV.out]; rfl) (by rw [HV.out]; rfl) (by rw [HV.out]; rfl), hb0.out⟩
  · have HV := Lib.hid (near_no (W := W) (H := H) (L := L) (by simp [nearSides, hL]))
    go_enter Try.func20, Try.ntmps20
    go_wp2_with (first | (go_at_call 58; (with_reducible refine (l8Side_any _ _).mono ?_); rintro e w' ⟨rfl, rfl⟩) | (go_at_call 59; (with_reducible refine (l1In_any _ _ _ _).mono ?_); rintro e w' ⟨rfl, rfl⟩))
    go_ret3
    exact ⟨ret_iib (by rw [HV.out]; rfl) (by rw [HV.out]; rfl) (by rw [HV.out]; rfl), hb0.out⟩
  · obtain ⟨m, rfl, m2, m8⟩ := ringSideB_nat hW
    obtain ⟨k, rfl, k2, k8⟩ := ringSideB_nat hH
    have hLb := inB_yes hL
    obtain ⟨l, rfl⟩ := Int.eq_ofNat_of_zero_le (show 0 ≤ L by omega)
    have l1 : 1 ≤ l := by omega
    have l8 : l ≤ 8 := by omega
    have HV := Lib.hid (show nearF m k l = nearO m k l by unfold nearF; rw [hs]; simp)
    clear hs
    go_enter Try.func20, Try.ntmps20
    go_wp2_with (first | (go_at_call 58; (with_reducible refine (l8Side_any _ _).mono ?_); rintro e w' ⟨rfl, rfl⟩) | (go_at_call 59; (with_reducible refine (l1In_any _ _ _ _).mono ?_); rintro e w' ⟨rfl, rfl⟩))
    go_loopw [12, 9, 10, 11] (fun s12 s9 s10 s11 wr => ∃ (a : Nat) (O : Option PairR), 2 ≤ a ∧ a ≤ 9 ∧ s12 = .int .i64 a ∧ s9 = .int .i64 (encA O) ∧ s10 = .int .i64 (encB O) ∧ s11 = .int .i64 (encL (distP m k) O) ∧ Hid (O = bestN (distP m k) (sizesTo l ((a - 2) * 7))) ∧ wr = w) (fun s12 _ _ _ _ => 9 - (intOf s12).toNat)
    case atStart => exact ⟨2, none, by omega, by omega, rfl, rfl, rfl, rfl, Lib.hid rfl, rfl⟩
    case round =>
      obtain ⟨a, O, a2, a9, rfl, rfl, rfl, rfl, HO, rfl⟩ := hrel
      by_cases ha : a ≤ 8
      · have hai : (a : Int) ≤ 8 := by omega
        go_wp2
        go_loopw [13, 9, 10, 11] (fun s13 s9 s10 s11 wx => ∃ (b : Nat) (O : Option PairR), 2 ≤ b ∧ b ≤ 9 ∧ s13 = .int .i64 b ∧ s9 = .int .i64 (encA O) ∧ s10 = .int .i64 (encB O) ∧ s11 = .int .i64 (encL (distP m k) O) ∧ Hid (O = bestN (distP m k) (sizesTo l ((a - 2) * 7 + (b - 2)))) ∧ wx = wr) (fun s13 _ _ _ _ => 9 - (intOf s13).toNat)
        case atStart => exact ⟨2, O, by omega, by omega, rfl, rfl, rfl, rfl, HO, rfl⟩
        case round =>
          obtain ⟨b, O, b2, b9, rfl, rfl, rfl, rfl, HO, rfl⟩ := hrel
          by_cases hb : b ≤ 8
          · have hbi : (b : Int) ≤ 8 := by omega
            have hidx : (a - 2) * 7 + (b + 1 - 2) = (a - 2) * 7 + (b - 2) + 1 := by omega
            obtain ⟨D, hD⟩ : ∃ D, distP m k ⟨(a : Int), (b : Int)⟩ = D := ⟨_, rfl⟩
            have hDb := distP_bd m2 m8 k2 k8 a2 ha b2 hb
            rw [hD] at hDb
            obtain ⟨v1, h1⟩ : ∃ v, mostI ((a : Int) - (m : Int)) ((m : Int) - (a : Int)) = v := ⟨_, rfl⟩
            obtain ⟨v2, h2⟩ : ∃ v, mostI ((b : Int) - (k : Int)) ((k : Int) - (b : Int)) = v := ⟨_, rfl⟩
            have hvD : v1 + v2 = D := by rw [← hD, ← h1, ← h2]; rfl
            have k1 : 0 ≤ v1 ∧ v1 ≤ 8 := by unfold mostI at h1; omega
            have k3 : 0 ≤ v2 ∧ v2 ≤ 8 := by unfold mostI at h2; omega
            have hw1 : IntKind.i64.wrap ((a : Int) - (m : Int)) = (a : Int) - (m : Int) := IntWalk.i64_in _ (by omega)
            have hw2 : IntKind.i64.wrap ((m : Int) - (a : Int)) = (m : Int) - (a : Int) := IntWalk.i64_in _ (by omega)
            have hw3 : IntKind.i64.wrap ((b : Int) - (k : Int)) = (b : Int) - (k : Int) := IntWalk.i64_in _ (by omega)
            have hw4 : IntKind.i64.wrap ((k : Int) - (b : Int)) = (k : Int) - (b : Int) := IntWalk.i64_in _ (by omega)
            have hw5 : IntKind.i64.wrap (v1 + v2) = D := by rw [hvD]; exact IntWalk.i64_in _ (by omega)
            have HA := Lib.hid (fun W => most_eq ((a : Int) - (m : Int)) ((m : Int) - (a : Int)) v1 W h1)
            have HBb := Lib.hid (fun W => most_eq ((b : Int) - (k : Int)) ((k : Int) - (b : Int)) v2 W h2)
            obtain ⟨M, hM⟩ : ∃ M, ringN a b % l = M := ⟨_, rfl⟩
            have hrem : Int.tmod (ringN a b : Int) (l : Int) = (M : Int) := by rw [← hM]; rfl
            have hl0 : ¬ l = 0 := by omega
            have HMB := Lib.hid (meetB_at (L := l) b2 hb a2)
            rw [hM] at HMB
            have HCA := Lib.hid (candP_at b2 hb a2)
            have HD := Lib.hid hD
            clear hM hvD h1 h2 hD hidx k1 k3
            have hidx2 := Lib.hid (show (a - 2) * 7 + (b + 1 - 2) = (a - 2) * 7 + (b - 2) + 1 by omega)
            by_cases hM0 : M = 0
            · have hrem0 : Int.tmod (ringN a b : Int) (l : Int) = 0 := by rw [hrem, hM0]; rfl
              clear hrem
              have HST := Lib.hid (show bestN (distP m k) (sizesTo l ((a - 2) * 7 + (b + 1 - 2))) = stepN (distP m k) O ⟨(a : Int), (b : Int)⟩ by
                rw [hidx2.out, sizes_yes (by rw [HMB.out, hM0]; rfl), HCA.out, bestN_snoc, HO.out])
              cases O with
              | none =>
                have hln : encL (distP m k) none = -1 := rfl
                rw [hln]
                go_wp2_with (first | (go_at_call 60; (with_reducible refine (HA.out _).mono ?_); rintro e w' ⟨rfl, rfl⟩) | (go_at_call 60; (with_reducible refine (HBb.out _).mono ?_); rintro e w' ⟨rfl, rfl⟩) | (go_at_call 35; (with_reducible refine (l8Length_any a b _ a2 ha b2 hb).mono ?_); rintro e w' ⟨rfl, rfl⟩))
                go_roundw
                case rel => exact ⟨b + 1, some ⟨(a : Int), (b : Int)⟩, by omega, by omega, by go_num, rfl, rfl, by rw [show encL (distP m k) (some ⟨(a : Int), (b : Int)⟩) = distP m k ⟨(a : Int), (b : Int)⟩ from rfl, HD.out], Lib.hid HST.out.symm, by first | rfl | trivial⟩
                case measure => simp [intOf]; omega
              | some p =>
                have hp2 : 0 ≤ distP m k p := by
                  unfold distP mostI
                  omega
                obtain ⟨E, hE⟩ : ∃ E, distP m k p = E := ⟨_, rfl⟩
                have hln : encL (distP m k) (some p) = E := hE
                rw [hE] at hp2
                rw [hln]
                by_cases hlt : D < E
                · have HS2 := Lib.hid (show some ⟨(a : Int), (b : Int)⟩ = bestN (distP m k) (sizesTo l ((a - 2) * 7 + (b + 1 - 2))) by
                    rw [HST.out]; exact (if_pos (by rw [HD.out, hE]; exact hlt)).symm)
                  clear hE hln
                  go_wp2_with (first | (go_at_call 60; (with_reducible refine (HA.out _).mono ?_); rintro e w' ⟨rfl, rfl⟩) | (go_at_call 60; (with_reducible refine (HBb.out _).mono ?_); rintro e w' ⟨rfl, rfl⟩) | (go_at_call 35; (with_reducible refine (l8Length_any a b _ a2 ha b2 hb).mono ?_); rintro e w' ⟨rfl, rfl⟩))
                  go_roundw
                  case rel => exact ⟨b + 1, some ⟨(a : Int), (b : Int)⟩, by omega, by omega, by go_num, rfl, rfl, by rw [show encL (distP m k) (some ⟨(a : Int), (b : Int)⟩) = distP m k ⟨(a : Int), (b : Int)⟩ from rfl, HD.out], HS2, by first | rfl | trivial⟩
                  case measure => simp [intOf]; omega
                · have hge : E ≤ D := by omega
                  have HS2 := Lib.hid (show some p = bestN (distP m k) (sizesTo l ((a - 2) * 7 + (b + 1 - 2))) by
                    rw [HST.out]; exact (if_neg (by rw [HD.out, hE]; exact hlt)).symm)
                  have HLN := Lib.hid hln
                  clear hE hln
                  go_wp2_with (first | (go_at_call 60; (with_reducible refine (HA.out _).mono ?_); rintro e w' ⟨rfl, rfl⟩) | (go_at_call 60; (with_reducible refine (HBb.out _).mono ?_); rintro e w' ⟨rfl, rfl⟩) | (go_at_call 35; (with_reducible refine (l8Length_any a b _ a2 ha b2 hb).mono ?_); rintro e w' ⟨rfl, rfl⟩))
                  go_roundw
                  case rel => exact ⟨b + 1, some p, by omega, by omega, by go_num, rfl, rfl, by rw [HLN.out], HS2, by first | rfl | trivial⟩
                  case measure => simp [intOf]; omega
            · have HS2 := Lib.hid (show O = bestN (distP m k) (sizesTo l ((a - 2) * 7 + (b + 1 - 2))) by
                rw [hidx2.out, sizes_no (by rw [HMB.out]; exact decide_eq_false hM0), HO.out])
              go_wp2_with (first | (go_at_call 60; (with_reducible refine (HA.out _).mono ?_); rintro e w' ⟨rfl, rfl⟩) | (go_at_call 60; (with_reducible refine (HBb.out _).mono ?_); rintro e w' ⟨rfl, rfl⟩) | (go_at_call 35; (with_reducible refine (l8Length_any a b _ a2 ha b2 hb).mono ?_); rintro e w' ⟨rfl, rfl⟩))
              go_roundw
              case rel => exact ⟨b + 1, O, by omega, by omega, by go_num, rfl, rfl, rfl, HS2, by first | rfl | trivial⟩
              case measure => simp [intOf]; omega
          · obtain rfl : b = 9 := by omega
            have HN := Lib.hid (show O = bestN (distP m k) (sizesTo l ((a + 1 - 2) * 7)) by rw [HO.out]; congr 2; omega)
            go_wp2
            go_roundw
            case rel => exact ⟨a + 1, O, by omega, by omega, by go_num, rfl, rfl, rfl, HN, by first | rfl | trivial⟩
            case measure => simp [intOf]; omega
      · obtain rfl : a = 9 := by omega
        have HE := Lib.hid (show nearF m k l = O by rw [HV.out]; exact HO.out.symm)
        cases O with
        | none =>
          have hln : encL (distP m k) none = -1 := rfl
          rw [hln]
          go_wp2
          go_ret3
          exact ⟨ret_iib (by rw [HE.out]) (by rw [HE.out]) (by rw [HE.out]; rfl), Below.refl _ _⟩
        | some p =>
          have hp2 : 0 ≤ distP m k p := by
            unfold distP mostI
            omega
          obtain ⟨E, hE⟩ : ∃ E, distP m k p = E := ⟨_, rfl⟩
          have hln : encL (distP m k) (some p) = E := hE
          rw [hE] at hp2
          rw [hln]
          clear hE hln
          go_wp2
          go_ret3
          exact ⟨ret_iib (by rw [HE.out]) (by rw [HE.out]) (by rw [HE.out]; first | (simp; done) | (simp; omega)), Below.refl _ _⟩
end Go.Proofs.Ytjfdcmdgpeeabaa
