/- The walk of the program's placesOfArea; which areas lie beside an area. No condition. -/
import Derived.Test.YtgahompcejbjoaaSizesI
import Derived.Test.YtgahompcejbjoaaPut1Math
namespace Go.Proofs.Ytgahompcejbjoaa
open Go.RowKit

noncomputable def hasArea (W H : Int) (xs : List Int) (a : Int) : Bool := goodB W H xs && inB a 0 (areasN W H xs - 1)
theorem hasArea_no1 {W H : Int} {xs : List Int} {a : Int} (h : goodB W H xs = false) : hasArea W H xs a = false := by simp [hasArea, h]
theorem hasArea_eq {m k : Nat} {xs : List Int} {a : Int} (h : goodB m k xs = true) : hasArea m k xs a = inB a 0 (((cntOf m xs : Nat) : Int) - 1) := by rw [hasArea, h, areasN_yes h]; rfl
set_option maxRecDepth 100000 in
set_option maxHeartbeats 4000000 in
theorem placesOfArea_bad (W H : Int) (A : Option Addr) (n c B : Nat) (xs : List Int) (a : Int) (w : World) (h : Rd w B A n c xs) (hB : B ≤ w.heap.size) (hg : goodB W H xs = false) :
    Calls Try.prog 33 #[chartV W H (.slice A n c), .int .i64 a] w (Out w (.tuple #[.slice none 0 0, .bool false])) := by
  have hb0 := Lib.hid (show Below w.heap.size w (w.alloc (.cells #[.int .i64 W, .int .i64 H, .slice A n c] 26)) from (Below.refl _ _).alloc (Nat.le_refl _) _)
  have h' := h.alloc hB (.cells #[.int .i64 W, .int .i64 H, .slice A n c] 26)
  go_enter Try.func33, Try.ntmps33
  go_wp2_with fail
  refine (implIsChart_any W H A n c B xs _ h' (by simp; omega)).mono ?_
  rintro e w1 ⟨rfl, hb⟩
  rw [hg]
  go_wp2
  go_ret2
  exact ⟨rfl, hb0.out.trans (hb.mono (by simp))⟩
set_option maxRecDepth 100000 in
set_option maxHeartbeats 4000000 in
theorem placesOfArea_good (m k b off c B : Nat) (xs : List Int) (a : Int) (d : Bool) (w : World) (h : Rd w B (some ⟨b, off, none⟩) xs.length c xs) (hB : B ≤ w.heap.size) (hg : goodB m k xs = true) (hm : 1 ≤ m) (hm8 : m ≤ 8) (hk1 : 1 ≤ k) (hk8 : k ≤ 8) (hl : Hid (xs.length = m * k)) (hd : inB a 0 (((cntOf m xs : Nat) : Int) - 1) = d) :
    Calls Try.prog 33 #[chartV m k (.slice (some ⟨b, off, none⟩) xs.length c), .int .i64 a] w fun e w' => ∃ (A : Option Addr) (c : Nat) (l : List Nat), e = .returned (.tuple #[.slice A l.length c, .bool d]) ∧ Own w' w.heap.size (.slice A l.length c) (upI l) ∧ Below w.heap.size w w' ∧ Hid (d = true → l.Nodup ∧ ∀ x, x ∈ l ↔ x < xs.length ∧ labAt m xs x = a) := by
  have h64 : xs.length ≤ 64 := by have := Nat.mul_le_mul hm8 hk8; rw [hl.out]; omega
  have x0 := Cx.start (m := m) (k := k) h hB
  clear h
  go_enter Try.func33, Try.ntmps33
  go_upto_region 1 with fail
  generalize w.alloc (.cells #[.int .i64 m, .int .i64 k, .slice (some ⟨b, off, none⟩) xs.length c] 26) = w0 at *
  have e0 := x0.c0
  have e1 := x0.c1
  have e2 := x0.c2
  have hz0 := x0.sz
  go_wp2_with fail
  refine (implIsChart_any m k _ _ c B xs _ x0.rd (by omega)).mono ?_
  rintro e w1 ⟨rfl, hb⟩
  rw [hg]
  have x1 := x0.all hb
  clear hb e0 e1 e2 hz0 x0
  have e0 := x1.c0
  have e1 := x1.c1
  have e2 := x1.c2
  have hz1 := x1.sz
  go_wp2_with fail
  refine (areasIn_any m k b off c B xs _ x1.rd (by omega) hm hm8 hk1 hk8 hl).mono ?_
  rintro e w2 ⟨A2, c2, ass, rfl, own2, hb2, HG⟩
  have hb4 := Lib.hid (x1.all hb2).bel
  have hzw : w.heap.size ≤ w1.heap.size := by omega
  have hal : ass.length ≤ 64 := by rw [HG.out.1]; exact Nat.le_trans (cnt_le m xs) h64
  have hw1 : IntKind.i64.wrap ((ass.length : Int) - 1) = (ass.length : Int) - 1 := IntWalk.i64_in _ (by omega)
  clear hb2 x1 e0 e1 e2 hz1
  go_wp2_with fail
  refine (isBetween_any a 0 ((ass.length : Int) - 1) w2).mono ?_
  rintro e w3 ⟨rfl, rfl⟩
  rw [show inB a 0 ((ass.length : Int) - 1) = d by rw [← hd, ← HG.out.1]]
  have hin : inB a 0 ((ass.length : Int) - 1) = d := by rw [← hd, ← HG.out.1]
  cases d with
  | false =>
    clear hin hd
    go_wp2
    go_ret2
    exact ⟨none, 0, [], rfl, Own.nil _ _, hb4.out, Lib.hid (fun h => by cases h)⟩
  | true =>
    have hab := inB_yes hin
    obtain ⟨q, rfl⟩ := Int.eq_ofNat_of_zero_le hab.1
    have hlt : q < ass.length := by omega
    obtain ⟨g2, l, A1, c1, rfl, hg2, hal', hc, hrow⟩ := own2.row hlt
    have HL := Lib.hid (show l.Nodup ∧ ∀ x, x ∈ l ↔ x < xs.length ∧ labAt m xs x = (q : Int) from ⟨(HG.out.2.1 q l hal').1, (HG.out.2.1 q l hal').2.1⟩)
    have hr := hrow.mono hzw
    clear hin hd hab hrow hal'
    go_wp2
    go_ret2
    exact ⟨A1, c1, l, rfl, hr, hb4.out, HL⟩
open Classical in
/-- The areas beside an area. -/
noncomputable def nbrsL (m : Nat) (xs : List Int) (a : Int) : List Int := ((List.range (cntOf m xs)).filter fun (b : Nat) => decide ((b : Int) ≠ a ∧ ∃ y, (∃ x, x < xs.length ∧ labAt m xs x = a ∧ Nb m xs.length x y) ∧ labAt m xs y = (b : Int))).map fun (b : Nat) => (b : Int)
/-- The numbers of the places beside those of O, and beside j more ones, but for a. -/
structure NbS (m : Nat) (xs : List Int) (a : Int) (O : Nat → Prop) (NL : List Nat) (j : Nat) (M : List Int) : Prop where
  mem : ∀ v, v ∈ M ↔ v ≠ a ∧ ∃ y, ((∃ x, O x ∧ Nb m xs.length x y) ∨ ∃ jj, jj < j ∧ NL[jj]? = some y) ∧ labAt m xs y = v
section
variable {m j y : Nat} {xs : List Int} {a : Int} {O O' : Nat → Prop} {NL NL' : List Nat} {M M' : List Int}
theorem NbS.start (m : Nat) (xs : List Int) (a : Int) (h : ∀ x, ¬ O x) : NbS m xs a O NL 0 [] := ⟨fun v => by
  refine ⟨fun g => by simp at g, ?_⟩
  rintro ⟨_, y, (⟨x, hx, _⟩ | ⟨jj, hj, _⟩), _⟩
  · exact absurd hx (h x)
  · omega⟩
theorem NbS.any (h : NbS m xs a O NL 0 M) (NL' : List Nat) : NbS m xs a O NL' 0 M := ⟨fun v => by
  rw [h.mem v]
  refine and_congr_right fun _ => ⟨?_, ?_⟩
  · rintro ⟨y, (hx | ⟨jj, hj, _⟩), hv⟩
    · exact ⟨y, .inl hx, hv⟩
    · omega
  · rintro ⟨y, (hx | ⟨jj, hj, _⟩), hv⟩
    · exact ⟨y, .inl hx, hv⟩
    · omega⟩
theorem NbS.put (h : NbS m xs a O NL j M) (hy : NL[j]? = some y) (hM : ∀ v, v ∈ M' ↔ (v = labAt m xs y ∧ labAt m xs y ≠ a) ∨ v ∈ M) : NbS m xs a O NL (j + 1) M' := ⟨fun v => by
  rw [hM v, h.mem v]
  constructor
  · rintro (⟨rfl, hne⟩ | ⟨hne, z, (hx | ⟨jj, hj, hz⟩), hv⟩)
    · exact ⟨hne, y, .inr ⟨j, by omega, hy⟩, rfl⟩
    · exact ⟨hne, z, .inl hx, hv⟩
    · exact ⟨hne, z, .inr ⟨jj, by omega, hz⟩, hv⟩
  · rintro ⟨hne, z, (hx | ⟨jj, hj, hz⟩), hv⟩
    · exact .inr ⟨hne, z, .inl hx, hv⟩
    · by_cases e : jj = j
      · subst e
        rw [hy] at hz
        cases hz
        exact .inl ⟨hv.symm, by rw [hv]; exact hne⟩
      · exact .inr ⟨hne, z, .inr ⟨jj, by omega, hz⟩, hv⟩⟩
theorem NbS.skip (h : NbS m xs a O NL j M) (hy : NL[j]? = some y) (hs : labAt m xs y = a ∨ labAt m xs y ∈ M) : NbS m xs a O NL (j + 1) M :=
  h.put hy fun _ => ⟨.inr, fun g => g.elim (fun ⟨g1, g2⟩ => hs.elim (fun e => absurd e g2) (fun e => g1 ▸ e)) id⟩
theorem NbS.next {x : Nat} (h : NbS m xs a O NL j M) (hj : NL.length ≤ j) (hN : ∀ y, y ∈ NL ↔ Nb m xs.length x y) (hO : ∀ z, O' z ↔ O z ∨ z = x) : NbS m xs a O' NL' 0 M := ⟨fun v => by
  rw [h.mem v]
  refine and_congr_right fun _ => ⟨?_, ?_⟩
  · rintro ⟨y, (⟨z, hz, hzy⟩ | ⟨jj, hj, hjy⟩), hv⟩
    · exact ⟨y, .inl ⟨z, (hO z).2 (.inl hz), hzy⟩, hv⟩
    · exact ⟨y, .inl ⟨x, (hO x).2 (.inr rfl), (hN y).1 (List.mem_of_getElem? hjy)⟩, hv⟩
  · rintro ⟨y, (⟨z, hz, hzy⟩ | ⟨jj, hj, _⟩), hv⟩
    · rcases (hO z).1 hz with g | rfl
      · exact ⟨y, .inl ⟨z, g, hzy⟩, hv⟩
      · obtain ⟨jj, hjj, hjy⟩ := List.mem_iff_getElem.1 ((hN y).2 hzy)
        exact ⟨y, .inr ⟨jj, by omega, by rw [List.getElem?_eq_getElem hjj, hjy]⟩, hv⟩
    · omega⟩
theorem NbS.congr (h : NbS m xs a O NL 0 M) (hO : ∀ z, O' z ↔ O z) : NbS m xs a O' NL' 0 M := ⟨fun v => by
  rw [(h.any NL').mem v]
  refine and_congr_right fun _ => ⟨?_, ?_⟩
  · rintro ⟨y, (⟨z, hz, hzy⟩ | ⟨jj, hj, _⟩), hv⟩
    · exact ⟨y, .inl ⟨z, (hO z).2 hz, hzy⟩, hv⟩
    · omega
  · rintro ⟨y, (⟨z, hz, hzy⟩ | ⟨jj, hj, _⟩), hv⟩
    · exact ⟨y, .inl ⟨z, (hO z).1 hz, hzy⟩, hv⟩
    · omega⟩
theorem NbS.end_ (h : NbS m xs a O NL 0 M) (hO : ∀ z, O z ↔ z < xs.length ∧ labAt m xs z = a) (v : Int) : v ∈ M ↔ v ∈ nbrsL m xs a := by
  rw [h.mem v, nbrsL, List.mem_map]
  constructor
  · rintro ⟨hne, y, (⟨z, hz, hzy⟩ | ⟨jj, hj, _⟩), rfl⟩
    · have hr := labAt_rng (m := m) hzy.2.1
      obtain ⟨b, hb⟩ := Int.eq_ofNat_of_zero_le hr.1
      refine ⟨b, List.mem_filter.2 ⟨List.mem_range.2 (by omega), ?_⟩, hb.symm⟩
      simp only [decide_eq_true_eq]
      exact ⟨by rw [← hb]; exact hne, y, ⟨z, ((hO z).1 hz).1, ((hO z).1 hz).2, hzy⟩, hb⟩
    · omega
  · rintro ⟨b, hb, rfl⟩
    have := (List.mem_filter.1 hb).2
    simp only [decide_eq_true_eq] at this
    obtain ⟨hne, y, ⟨x, hx, hxa, hxy⟩, hv⟩ := this
    exact ⟨hne, y, .inl ⟨x, (hO x).2 ⟨hx, hxa⟩, hxy⟩, hv⟩
end
theorem nbrsL_asc (m : Nat) (xs : List Int) (a : Int) : (nbrsL m xs a).Pairwise (· < ·) := by
  unfold nbrsL
  rw [List.pairwise_map]
  exact (List.Pairwise.filter _ List.pairwise_lt_range).imp fun h => Int.ofNat_lt.2 h
theorem nbrsL_len (m : Nat) (xs : List Int) (a : Int) : (nbrsL m xs a).length ≤ xs.length := by
  unfold nbrsL
  rw [List.length_map]
  refine Nat.le_trans (List.length_filter_le _ _) ?_
  rw [List.length_range]
  exact cnt_le m xs
noncomputable def nbrsX (W H : Int) (xs : List Int) (a : Int) : List Int := if hasArea W H xs a = true then nbrsL W.toNat xs a else []
theorem nbrsX_yes {m k : Nat} {xs : List Int} {a : Int} (h : hasArea m k xs a = true) : nbrsX m k xs a = nbrsL m xs a := if_pos h
theorem nbrsX_no {W H : Int} {xs : List Int} {a : Int} (h : hasArea W H xs a = false) : nbrsX W H xs a = [] := if_neg (by rw [h]; decide)
theorem nbrsX_len (W H : Int) (xs : List Int) (a : Int) : (nbrsX W H xs a).length ≤ 1048576 := by
  cases hg : hasArea W H xs a with
  | false => rw [nbrsX_no hg]; simp
  | true =>
    have h1 : goodB W H xs = true := by simp only [hasArea, Bool.and_eq_true] at hg; exact hg.1
    have := (good_bd h1).1
    rw [show nbrsX W H xs a = nbrsL W.toNat xs a from if_pos hg]
    have := nbrsL_len W.toNat xs a
    omega
end Go.Proofs.Ytgahompcejbjoaa
