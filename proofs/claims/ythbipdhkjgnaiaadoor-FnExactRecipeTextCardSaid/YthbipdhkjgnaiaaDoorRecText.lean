/- The walks of RecipeText in both texts. Condition: the library's table stands as its text says. -/
import Derived.Test.YthbipdhkjgnaiaaDoorDyeGood
import Derived.Test.YthbipdhkjgnaiaaDoorStrs
import Derived.Test.YthbipdhkjgnaiaaDoorTab
import Derived.Lib.Join
import Derived.BigQuiet
import Derived.Deep.RegionHeld3
import Derived.RegionTactic
import Derived.BigRegion
namespace Go.Proofs.YthbipdhkjgnaiaaDoor
open Go.RowKit

/-- A part's text. -/
def partT (p : DyePartR) : ByteArray := p.f0 ++ ⟨#[58]⟩ ++ numB p.f1
/-- The text up to a place. -/
def textTo (xs : List DyePartR) : Nat → ByteArray
  | 0 => ⟨#[]⟩
  | k + 1 => match xs[k]? with
    | some p => (if k = 0 then textTo xs k else textTo xs k ++ ⟨#[32]⟩) ++ p.f0 ++ ⟨#[58]⟩ ++ numB p.f1
    | none => textTo xs k
theorem textTo_succ {xs : List DyePartR} {k : Nat} {p : DyePartR} (h : xs[k]? = some p) : textTo xs (k + 1) = (if k = 0 then textTo xs k else textTo xs k ++ ⟨#[32]⟩) ++ p.f0 ++ ⟨#[58]⟩ ++ numB p.f1 := by rw [textTo, h]
noncomputable def recT (xs : List DyePartR) : ByteArray := if recB xs = true then textTo xs xs.length else ⟨#[]⟩
theorem part_size {xs : List DyePartR} (h : recB xs = true) {k : Nat} {p : DyePartR} (hp : xs[k]? = some p) : p.f0.size ≤ 10 ∧ (numB p.f1).size ≤ 7 ∧ 1 ≤ p.f1 ∧ p.f1 ≤ 1000 := by
  obtain ⟨h1, h2, h3⟩ := part_at h hp
  simp only [wordB, Bool.and_eq_true, decide_eq_true_eq] at h1
  exact ⟨by omega, numB_size _ (by omega) (by omega), h2, h3⟩
theorem textTo_size {xs : List DyePartR} (h : recB xs = true) : ∀ k, k ≤ xs.length → (textTo xs k).size ≤ 20 * k := by
  intro k
  induction k with
  | zero => intro _; simp [textTo, ByteArray.size]
  | succ k ih =>
    intro hk
    obtain ⟨p, hp⟩ : ∃ p, xs[k]? = some p := ⟨_, List.getElem?_eq_getElem (by omega)⟩
    obtain ⟨h1, h2, _, _⟩ := part_size h hp
    have := ih (by omega)
    have e1 : (⟨#[58]⟩ : ByteArray).size = 1 := rfl
    have e2 : (⟨#[32]⟩ : ByteArray).size = 1 := rfl
    rw [textTo_succ hp]
    simp only [ByteArray.size_append]
    split
    · omega
    · rw [ByteArray.size_append]; omega
/-- The parts' texts. -/
def textsL (xs : List DyePartR) : List ByteArray := xs.map partT
theorem texts_at {xs : List DyePartR} {k : Nat} {p : DyePartR} (h : xs[k]? = some p) : (textsL xs)[k]? = some (partT p) := by simp [textsL, h]
theorem texts_len (xs : List DyePartR) : (textsL xs).length = xs.length := by simp [textsL]
theorem bytes_cat (a b : ByteArray) : (a ++ b).data.toList = a.data.toList ++ b.data.toList := by rw [ByteArray.data_append, Array.toList_append]
theorem join_to {xs : List DyePartR} : ∀ k, k ≤ xs.length → Lib.join (((textsL xs).take k).map (·.data.toList)) [32] = (textTo xs k).data.toList := by
  intro k
  induction k with
  | zero => intro _; rfl
  | succ k ih =>
    intro hk
    obtain ⟨p, hp⟩ : ∃ p, xs[k]? = some p := ⟨_, List.getElem?_eq_getElem (by omega)⟩
    have hq := texts_at hp
    have IH := ih (by omega)
    obtain ⟨hi, e⟩ := List.getElem?_eq_some_iff.1 hq
    rw [textTo_succ hp]
    cases hx : textsL xs with
    | nil => rw [hx] at hq; simp at hq
    | cons x r =>
      cases k with
      | zero =>
        rw [hx] at hq
        simp at hq
        subst hq
        simp [Lib.join_one, partT, textTo]
      | succ k =>
        rw [hx] at hq IH
        simp only [List.getElem?_cons_succ] at hq
        simp only [List.take_succ_cons, List.map_cons] at IH ⊢
        rw [Lib.join_cons] at IH ⊢
        have ht : (r.map (·.data.toList))[k]? = some (partT p).data.toList := by simp [hq]
        rw [List.map_take] at IH ⊢
        rw [Lib.joinTail_take_succ [32] _ k _ ht, ← List.append_assoc, ← List.append_assoc, IH, if_neg (by omega)]
        simp [partT]
theorem join_all (xs : List DyePartR) : (⟨(Lib.join ((textsL xs).map (·.data.toList)) [32]).toArray⟩ : ByteArray) = textTo xs xs.length := by
  have := join_to (xs := xs) xs.length (Nat.le_refl _)
  rw [List.take_of_length_le (by rw [texts_len]; exact Nat.le_refl _)] at this
  rw [this]
theorem itoa_any (n : Int) (w : World) (h0 : -999999 ≤ n) (h1 : n ≤ 999999) (ht : Tab w) : Calls Tryd.prog 14 #[.int .i64 n] w fun e w' => e = .returned (.string (numB n)) ∧ Below w.heap.size w w' := by
  refine (Tryd.strconv_Itoa n (by omega) (by omega) w ht.tab).mono ?_
  rintro e w' ⟨rfl, k, os, rfl⟩
  exact ⟨rfl, below_grow _ _ _⟩
theorem recT_no {xs : List DyePartR} (h : recB xs = false) : recT xs = ⟨#[]⟩ := by unfold recT; rw [h]; rfl
theorem recT_yes {xs : List DyePartR} (h : recB xs = true) : recT xs = textTo xs xs.length := by unfold recT; rw [if_pos h]
set_option maxRecDepth 100000 in
set_option maxHeartbeats 4000000 in
theorem specRecipeText_any (A : Option Addr) (n c B : Nat) (xs : List DyePartR) (w : World) (h : RdF dyePartF w B A n c xs) (hB : B ≤ w.heap.size) :
    Calls Tryd.prog 5 #[.slice A n c] w (Out w (.tuple #[.string (recT xs), .bool (recB xs)])) := by
  obtain rfl := h.len
  cases hr : recB xs
  case false =>
    have H := Lib.hid (recT_no hr)
    rw [H.out]
    go_enter Tryd.func5, Tryd.ntmps5
    go_wp2_with fail
    refine (l7Good_any A _ c B xs _ h hB).mono ?_
    rintro e w1 ⟨rfl, hb⟩
    rw [hr]
    go_wp2
    go_ret2
    exact ⟨rfl, hb⟩
  have H := Lib.hid (recT_yes hr)
  have hl6 := rec_len hr
  rw [H.out]
  have HR := Lib.hid hr
  go_enter Tryd.func5, Tryd.ntmps5
  go_wp2_with fail
  refine (l7Good_any A _ c B xs _ h hB).mono ?_
  rintro e w1 ⟨rfl, hb⟩
  rw [hr]
  clear hr
  go_wp2
  go_loopw [5, 4] (fun i s wr => ∃ k : Nat, k ≤ xs.length ∧ i = .int .i64 k ∧ s = .string (textTo xs k) ∧ Below w.heap.size w wr) (fun i _ _ => xs.length - (intOf i).toNat)
  case atStart => exact ⟨0, Nat.zero_le _, rfl, rfl, hb⟩
  case round =>
    clear hb
    obtain ⟨k, hk, rfl, rfl, hb⟩ := hrel
    have hts := textTo_size HR.out k hk
    by_cases hlt : k < xs.length
    · obtain ⟨b, off, p, rfl, hbB, _, HX, hc0, hc1⟩ := DyePartR_at (F := dyePartF) rfl (fun _ => rfl) (fun _ => rfl) (h.all hb hB) hlt
      obtain ⟨h1, h2, h3, h4⟩ := part_size HR.out HX.out
      have HN := Lib.hid (textTo_succ HX.out)
      have hki : (0 : Int) ≤ (k : Int) := by omega
      have hkn : (k : Int) < (xs.length : Int) := by omega
      by_cases hk0 : 0 < k
      · rw [if_neg (by omega)] at HN
        go_wp2
        go_quiet ((go_at_call 11; exact Calls.quiet_of (l1Num_any _ (by omega) (by omega) _)))
        go_wp2
        go_roundw
        case rel => exact ⟨k + 1, by omega, by go_num, by rw [HN.out], belowN hb _⟩
        case measure => simp [intOf]; omega
      · rw [if_pos (by omega)] at HN
        go_wp2
        go_quiet ((go_at_call 11; exact Calls.quiet_of (l1Num_any _ (by omega) (by omega) _)))
        go_wp2
        go_roundw
        case rel => exact ⟨k + 1, by omega, by go_num, by rw [HN.out], belowN hb _⟩
        case measure => simp [intOf]; omega
    · obtain rfl : k = xs.length := by omega
      go_wp2
      go_ret2
      exact ⟨rfl, hb⟩
theorem step_append_s {P : Program} {ops : Array Oper} {o : Oper} {a : Act} {K : Act → World → Prop} {Q : Exit → Act → World → Prop} {E : Prop} (w : World) (hgd : o.guard = none) (s x : Operand) (T : TypeId)
    (ho : o.op = .call { callee := .builtin .append, args := #[s, x], argTypes := #[T, T] }) (ht : P.underlying T = some (.slice 9)) (hinfo : (P.info? 9).map (fun i => (i.zero, i.size, i.bytes)) = some (some (.string ⟨#[]⟩), 1, 16))
    (lo n : Nat) (v : Value) (xs : List ByteArray) (q : ByteArray) (hn : xs.length = n)
    (hs : a.eval s = v) (hx : a.eval x = .slice (some ⟨w.heap.size, 0, none⟩) 1 1) (hown : OwnF strF w lo v xs) (hlen : n ≤ 1073741824) (hq : q.size ≤ maxLen) (hlo : lo ≤ w.heap.size)
    (h : ∀ A' c' w', OwnF strF w' lo (.slice A' (n + 1) c') (xs ++ [q]) → w.grownBy w' v.ownBlock → K (a.put o.dst (.slice A' (n + 1) c')) w') :
    if Region.wanted o (yielded ops a.tmps) = true then Oper.wp P o a (w.alloc (.cells #[.string q] 9)) K Q else E := by
  rw [if_pos (show Region.wanted o (yielded ops a.tmps) = true by simp [Region.wanted, hgd])]
  subst hn
  obtain ⟨i0, hi, hz0, hz1, hz2⟩ := info_parts hinfo
  refine wp_append_own _ s x T ho lo 9 i0 (.string ⟨#[]⟩) 1 16 ht hi hz0 hz1 hz2 rfl (by decide) v xs.length _ hs (hown.alloc _).1 ⟨w.heap.size, 0, none⟩ 1 1 [.string q] hx rfl ?_ ?_ ?_ ?_ ?_ ?_
  · intro j u hj
    match j, hj with
    | 0, hj =>
      simp at hj; subst hj
      exact (Blk.new w #[.string q] 9).cell 0
  · intro u hu; simp at hu; subst hu; rfl
  · unfold maxLen; omega
  · omega
  · simp; omega
  · intro v' w' ho' hg' _
    have hO : OwnF strF w' lo v' (xs ++ [q]) := ⟨by
      rw [strF_flat] at ho' ⊢
      show w'.ownsRow lo 9 1 v' _ _
      simpa using ho', fun y hy => by
      rcases List.mem_append.1 hy with hy | hy
      · exact hown.2 y hy
      · simp at hy; subst hy; exact hq⟩
    obtain ⟨A', c', rfl, _, _⟩ := hO.form
    rw [List.length_append] at hO
    have := h A' c' w' hO ⟨hg'.os, hg'.tape, hg'.output, Nat.le_trans (by simp) hg'.size, fun k hk hne => (hg'.block k (by simp; omega) hne).trans (Below.heap_alloc w _ k hk)⟩
    rwa [List.length_append]
set_option maxRecDepth 100000 in
set_option maxHeartbeats 8000000 in
theorem implRecipeText_any (A : Option Addr) (n c B : Nat) (xs : List DyePartR) (w : World) (h : RdF dyePartF w B A n c xs) (hB : B ≤ w.heap.size) (ht : Tab w) :
    Calls Tryd.prog 7 #[.slice A n c] w (Out w (.tuple #[.string (recT xs), .bool (recB xs)])) := by
  obtain rfl := h.len
  cases hr : recB xs
  case false =>
    have H := Lib.hid (recT_no hr)
    rw [H.out]
    go_enter Tryd.func7, Tryd.ntmps7
    go_wp2_with fail
    refine (implIsRecipe_any A _ c B xs _ h hB).mono ?_
    rintro e w1 ⟨rfl, hb⟩
    rw [hr]
    go_wp2
    go_ret2
    exact ⟨rfl, hb⟩
  have H := Lib.hid (recT_yes hr)
  have hl6 := rec_len hr
  rw [H.out]
  have HR := Lib.hid hr
  go_enter Tryd.func7, Tryd.ntmps7
  go_wp2_with fail
  refine (implIsRecipe_any A _ c B xs _ h hB).mono ?_
  rintro e w1 ⟨rfl, hb⟩
  rw [hr]
  clear hr
  go_wp2
  go_loopw [12, 4] (fun i s wr => ∃ (k : Nat) (A' : Option Addr) (c' : Nat), k ≤ xs.length ∧ i = .int .i64 k ∧ s = .slice A' k c' ∧ OwnF strF wr w.heap.size (.slice A' k c') ((textsL xs).take k) ∧ Below w.heap.size w wr ∧ Tab wr) (fun i _ _ => xs.length - (intOf i).toNat)
  case atStart => exact ⟨0, none, 0, Nat.zero_le _, rfl, rfl, OwnF.nil _ _ _, hb, ht.below hb rfl⟩
  case round =>
    clear hb
    obtain ⟨k, A', c', hk, rfl, rfl, own, hb, HT⟩ := hrel
    by_cases hlt : k < xs.length
    · have hzz := hb.size
      obtain ⟨b, off, p, rfl, hbB, _, HX, hc0, hc1⟩ := DyePartR_at (F := dyePartF) rfl (fun _ => rfl) (fun _ => rfl) (h.all hb hB) hlt
      obtain ⟨h1, h2, h3, h4⟩ := part_size HR.out HX.out
      have HN := Lib.hid (texts_at HX.out)
      have HK := Lib.hid (show (textsL xs).take (k + 1) = (textsL xs).take k ++ [partT p] by
        obtain ⟨hi, e⟩ := List.getElem?_eq_some_iff.1 HN.out
        rw [List.take_succ_eq_append_getElem hi, e])
      have HL := Lib.hid (show ((textsL xs).take k).length = k by rw [List.length_take, texts_len]; omega)
      have hki : (0 : Int) ≤ (k : Int) := by omega
      have hkn : (k : Int) < (xs.length : Int) := by omega
      have x6 := Blk.new wr #[.string p.f0, .int .i64 p.f1] 34
      have owna := own.alloc (.cells #[.string p.f0, .int .i64 p.f1] 34)
      have hba := hb.alloc hzz (.cells #[.string p.f0, .int .i64 p.f1] 34)
      have HTa := HT.below ((Below.refl _ _).alloc (Nat.le_refl _) (.cells #[.string p.f0, .int .i64 p.f1] 34)) rfl
      go_wp2_with fail
      clear hc0 hc1 own hb HT
      generalize wr.alloc (.cells #[.string p.f0, .int .i64 p.f1] 34) = W4 at *
      generalize wr.heap.size = P at *
      have hs4 := hba.size
      have e0 := x6.cell 0
      have e1 := x6.cell 1
      have HTd : Tab W4.drew := HTa.below (belowD (Below.refl _ W4)) rfl
      have hcs : (p.f0 ++ (⟨#[58]⟩ : ByteArray)).size ≤ 11 := by rw [ByteArray.size_append]; have : (⟨#[58]⟩ : ByteArray).size = 1 := rfl; omega
      have hps : (p.f0 ++ (⟨#[58]⟩ : ByteArray) ++ numB p.f1).size ≤ maxLen := by rw [ByteArray.size_append]; unfold maxLen; omega
      have hlk : k ≤ 1073741824 := by omega
      have hx1 : (9223372036854775807 < p.f0.size + 1) = False := eq_false (by omega)
      have hx2 : (9223372036854775807 < p.f0.size + 1 + (numB p.f1).size) = False := eq_false (by omega)
      go_region_law (first | (refine step_append_s w5 rfl (.tmp 16) (.tmp 24) 37 rfl Tryd.underlying37 info_str w.heap.size k _ _ _ HL.out rfl rfl own5 hlk hps hs5 ?_; intro A6 c6 w6 o6 hg6; have HB6 := hb5.grown hg6 hs5 (fun q hq => (own5.bd q hq).1); have HT6 := ht.below HB6 rfl) | (go_simp; go_at_call 14; refine (itoa_any _ _ (by omega) (by omega) HTd).mono ?_; rintro e w5 ⟨rfl, hb5d⟩; have hb5' := below_drew' hb5d; have own5 := owna.all hb5'; have hb5 := hba.trans (hb5'.mono hs4); have hs5 := hb5.size; have x65 := x6.all hb5'; have e05 := x65.cell 0; have e15 := x65.cell 1))
      all_goals
        have HP := Lib.hid (show p.f0 ++ (⟨#[58]⟩ : ByteArray) ++ numB p.f1 = partT p from rfl)
        rw [HP.out, ← HK.out] at o6
        go_wp2
        go_roundw
        case rel => exact ⟨k + 1, A6, c6, by omega, by go_num, rfl, o6, HB6, HT6⟩
        case measure => simp [intOf]; omega
    · obtain rfl : k = xs.length := by omega
      rw [List.take_of_length_le (by rw [texts_len]; omega)] at own
      have HA := Lib.hid (join_all xs)
      have HS := Lib.hid (textTo_size HR.out xs.length (Nat.le_refl _))
      obtain ⟨g, rfl, hg1, hg2⟩ := own.some_ (by rw [texts_len]; omega)
      have hcap : (textsL xs).length ≤ c' := by have := own.rd.cap; rw [texts_len]; exact this
      have hcall := Tryd.strings_Join g 0 c' (textsL xs) ⟨#[32]⟩ wr (fun j x hj => by
        have := own.cell (i := 0) hj rfl
        rw [show strF.k = 1 from rfl, Nat.mul_one, Nat.add_zero] at this
        rw [Nat.zero_add]
        exact this) hg2 (by rw [texts_len]; omega) hcap (by
        have e := congrArg ByteArray.size HA.out
        have hh := HS.out
        have e2 : (⟨(Lib.join ((textsL xs).map (·.data.toList)) [32]).toArray⟩ : ByteArray).size = (Lib.join ((textsL xs).map (·.data.toList)) [32]).length := by simp [ByteArray.size]
        show (Lib.join ((textsL xs).map (·.data.toList)) [32]).length ≤ _
        omega)
      rw [show (⟨#[32]⟩ : ByteArray).data.toList = [32] from rfl, HA.out, texts_len] at hcall
      have hsz := hb.size
      go_wp2_with fail
      refine hcall.mono ?_
      rintro e w7 ⟨rfl, hb7⟩
      go_wp2
      go_ret2
      exact ⟨rfl, hb.trans (hb7.mono hsz)⟩
end Go.Proofs.YthbipdhkjgnaiaaDoor
