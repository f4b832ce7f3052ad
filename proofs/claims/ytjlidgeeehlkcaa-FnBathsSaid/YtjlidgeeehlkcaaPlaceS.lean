/- Where a stuff lies in a recipe. No condition. -/
import Derived.Test.YtjlidgeeehlkcaaDyeMath
import Derived.IntWalk
import Derived.WalkMore
namespace Go.Proofs.Ytjlidgeeehlkcaa
open Go.RowKit

theorem less_trans : ∀ a b c : List UInt8, Op.bytesLess a b = true → Op.bytesLess b c = true → Op.bytesLess a c = true := by
  intro a
  induction a with
  | nil => intro b c h1 h2; cases b <;> cases c <;> simp [Op.bytesLess] at h1 h2 ⊢
  | cons x xs ih =>
    intro b c h1 h2
    cases b with
    | nil => simp [Op.bytesLess] at h1
    | cons y ys =>
      cases c with
      | nil => simp [Op.bytesLess] at h2
      | cons z zs =>
        simp only [Op.bytesLess, Bool.or_eq_true, Bool.and_eq_true, decide_eq_true_eq, beq_iff_eq, UInt8.lt_iff_toNat_lt] at h1 h2 ⊢
        rcases h1 with h1 | ⟨rfl, h1⟩
        · rcases h2 with h2 | ⟨rfl, h2⟩
          · exact .inl (by omega)
          · exact .inl h1
        · rcases h2 with h2 | ⟨rfl, h2⟩
          · exact .inl h2
          · exact .inr ⟨rfl, ih ys zs h1 h2⟩
theorem less_irr : ∀ a : List UInt8, Op.bytesLess a a = false := by
  intro a
  induction a with
  | nil => rfl
  | cons x xs ih => simp [Op.bytesLess, ih]
/-- Names ascend. -/
theorem rec_lt {xs : List DyePartR} (h : Rec xs) : ∀ (d i : Nat) (a b : DyePartR), xs[i]? = some a → xs[i + d + 1]? = some b → Op.bytesLess a.f0.toList b.f0.toList = true := by
  intro d
  induction d with
  | zero => intro i a b ha hb; exact h.2.2 i a b (List.getElem?_eq_some_iff.1 hb).1 ha hb
  | succ d ih =>
    intro i a b ha hb
    have hlt := (List.getElem?_eq_some_iff.1 hb).1
    obtain ⟨c, hc⟩ : ∃ c, xs[i + d + 1]? = some c := ⟨_, List.getElem?_eq_getElem (by omega)⟩
    exact less_trans _ _ _ (ih i a c ha hc) (h.2.2 (i + d + 1) c b hlt hc hb)
theorem rec_inj {xs : List DyePartR} (h : Rec xs) {i j : Nat} {a b : DyePartR} (ha : xs[i]? = some a) (hb : xs[j]? = some b) (e : a.f0.toList = b.f0.toList) : i = j := by
  rcases Nat.lt_trichotomy i j with hl | hl | hl
  · have := rec_lt h (j - i - 1) i a b ha (by rw [show i + (j - i - 1) + 1 = j by omega]; exact hb)
    rw [e, less_irr] at this
    cases this
  · exact hl
  · have := rec_lt h (i - j - 1) j b a hb (by rw [show j + (i - j - 1) + 1 = i by omega]; exact ha)
    rw [e, less_irr] at this
    cases this
/-- A part has a name. -/
def nameB (s : ByteArray) (p : DyePartR) : Bool := p.f0.toList == s.toList
/-- None up to a place has it. -/
def NoN (xs : List DyePartR) (s : ByteArray) (k : Nat) : Prop := ∀ i a, i < k → xs[i]? = some a → nameB s a = false
theorem noN_zero (xs : List DyePartR) (s : ByteArray) : NoN xs s 0 := fun i a h => by omega
theorem noN_step {xs : List DyePartR} {s : ByteArray} {k : Nat} {a : DyePartR} (h : NoN xs s k) (ha : xs[k]? = some a) (hp : nameB s a = false) : NoN xs s (k + 1) := by
  intro i c hi hc
  rcases Nat.lt_or_ge i k with hlt | hge
  · exact h i c hlt hc
  · obtain rfl : i = k := by omega
    rw [ha] at hc
    obtain rfl : a = c := Option.some.inj hc
    exact hp
def posS (xs : List DyePartR) (s : ByteArray) : Option Nat := xs.findIdx? (nameB s)
theorem posS_some {xs : List DyePartR} {s : ByteArray} {k : Nat} {a : DyePartR} (ha : xs[k]? = some a) (hp : nameB s a = true) (h : NoN xs s k) : posS xs s = some k := by
  unfold posS
  obtain ⟨hi, e⟩ := List.getElem?_eq_some_iff.1 ha
  rw [List.findIdx?_eq_some_iff_getElem]
  refine ⟨hi, by rw [e]; exact hp, fun j hj => ?_⟩
  rw [h j _ hj (List.getElem?_eq_getElem (by omega))]
  decide
theorem posS_none {xs : List DyePartR} {s : ByteArray} (h : NoN xs s xs.length) : posS xs s = none := by
  unfold posS
  rw [List.findIdx?_eq_none_iff]
  intro x hx
  obtain ⟨i, hi, rfl⟩ := List.getElem_of_mem hx
  exact h i _ hi (List.getElem?_eq_getElem hi)
theorem posS_of {xs : List DyePartR} {s : ByteArray} {k : Nat} (h : posS xs s = some k) : ∃ a, xs[k]? = some a ∧ nameB s a = true ∧ NoN xs s k := by
  unfold posS at h
  rw [List.findIdx?_eq_some_iff_getElem] at h
  obtain ⟨hi, h1, h2⟩ := h
  refine ⟨_, List.getElem?_eq_getElem hi, h1, fun j a hj ha => ?_⟩
  obtain ⟨_, e⟩ := List.getElem?_eq_some_iff.1 ha
  have := h2 j hj
  rw [e] at this
  simpa using this
theorem posS_off {xs : List DyePartR} {s : ByteArray} (h : posS xs s = none) : ∀ (i : Nat) (a : DyePartR), xs[i]? = some a → nameB s a = false := by
  unfold posS at h
  rw [List.findIdx?_eq_none_iff] at h
  intro i a ha
  exact h a (List.mem_of_getElem? ha)
/-- Its place as a number. -/
def posI (xs : List DyePartR) (s : ByteArray) : Int := match posS xs s with | some k => (k : Int) | none => -1
theorem posI_some {xs : List DyePartR} {s : ByteArray} {k : Nat} (h : posS xs s = some k) : posI xs s = (k : Int) := by unfold posI; rw [h]
theorem posI_none {xs : List DyePartR} {s : ByteArray} (h : posS xs s = none) : posI xs s = -1 := by unfold posI; rw [h]

set_option maxRecDepth 100000 in
set_option maxHeartbeats 1000000 in
theorem partIs_any (a : DyePartR) (q : Nat) (s : ByteArray) (w : World) (hq : Blk w q 9 #[.string s]) :
    Calls Try.prog 48 #[.agg #[.string a.f0, .int .i64 a.f1], .pointer (some ⟨q, 0, none⟩)] w (Out w (.bool (nameB s a))) := by
  have hq2 := hq.alloc (.cells #[.string a.f0, .int .i64 a.f1] 43)
  have e0 := hq2.cell 0
  have hb : Below w.heap.size w (w.alloc (.cells #[.string a.f0, .int .i64 a.f1] 43)) := (Below.refl _ _).alloc (Nat.le_refl _) _
  have hz := hq.lt
  clear hq hq2
  go_enter Try.func48, Try.ntmps48
  go_wp2
  go_ret
  exact ⟨rfl, hb⟩
set_option maxRecDepth 100000 in
set_option maxHeartbeats 2000000 in
theorem indexD_any (A : Option Addr) (n c B q : Nat) (xs : List DyePartR) (s : ByteArray) (w : World) (h : RdF dyePartF w B A n c xs) (hB : B ≤ w.heap.size) (hq : Blk w q 9 #[.string s]) :
    Calls Try.prog 47 #[.slice A n c, .func (.func 48) #[] #[.pointer (some ⟨q, 0, none⟩)]] w (Out w (.int .i64 (posI xs s))) := by
  have hlt := h.len_lt
  obtain rfl := h.len
  have hb0 := Lib.hid (Below.refl w.heap.size w)
  go_enter Try.func47, Try.ntmps47
  go_wp2
  go_loopw [8] (fun s8 wr => ∃ k : Nat, k ≤ xs.length ∧ s8 = .int .i64 k ∧ Hid (NoN xs s k) ∧ RdF dyePartF wr B A xs.length c xs ∧ Blk wr q 9 #[.string s] ∧ Hid (Below w.heap.size w wr)) (fun s8 _ => xs.length - (intOf s8).toNat)
  case atStart => exact ⟨0, Nat.zero_le _, rfl, noN_zero _ _, h, hq, hb0⟩
  case round =>
    clear h hb0 hq
    obtain ⟨k, hk, rfl, HK, h1, hq, HB⟩ := hrel
    by_cases hkn : k < xs.length
    · obtain ⟨b, off, a, rfl, hb, _, HX, e0, e1⟩ := DyePartR_at (F := dyePartF) rfl (fun _ => rfl) (fun _ => rfl) h1 hkn
      have hwz := HB.out.size
      have hbz : b < wr.heap.size := by omega
      have hcall := Lib.hid (partIs_any a q s wr hq)
      cases hp : nameB s a with
      | true =>
        rw [hp] at hcall
        have H := Lib.hid (posI_some (posS_some HX.out hp HK.out))
        clear hp
        go_wp2_with (go_at_call 48; refine hcall.out.mono ?_; rintro e w2 ⟨rfl, hb2⟩)
        go_ret
        exact ⟨ret_int H.out.symm, HB.out.trans (hb2.mono hwz)⟩
      | false =>
        rw [hp] at hcall
        have HN := Lib.hid (noN_step HK.out HX.out hp)
        clear hp
        go_wp2_with (go_at_call 48; refine hcall.out.mono ?_; rintro e w2 ⟨rfl, hb2⟩)
        have h2 := h1.all hb2 (Nat.le_trans hB hwz)
        have q2 := hq.all hb2
        have HB2 := Lib.hid (HB.out.trans (hb2.mono hwz))
        go_roundw
        case rel => exact ⟨k + 1, by omega, by go_num, HN.out, h2, q2, HB2⟩
        case measure => simp [intOf]; omega
    · obtain rfl : k = xs.length := by omega
      have H := Lib.hid (posI_none (posS_none HK.out))
      go_wp2
      go_ret
      exact ⟨ret_int H.out.symm, HB.out⟩
set_option maxRecDepth 100000 in
set_option maxHeartbeats 1000000 in
theorem partWith_any (A : Option Addr) (n c B : Nat) (xs : List DyePartR) (s : ByteArray) (w : World) (h : RdF dyePartF w B A n c xs) (hB : B ≤ w.heap.size) :
    Calls Try.prog 33 #[.slice A n c, .string s] w (Out w (.int .i64 (posI xs s))) := by
  have hq := Blk.new w #[.string s] 9
  have hR := h.alloc hB (.cells #[.string s] 9)
  have HB : Below w.heap.size w (w.alloc (.cells #[.string s] 9)) := (Below.refl _ _).alloc (Nat.le_refl _) _
  have hsz := HB.size
  go_enter Try.func33, Try.ntmps33
  go_wp2_with fail
  generalize w.alloc (.cells #[.string s] 9) = W1 at *
  refine (indexD_any A n c B w.heap.size xs s _ hR (by omega) hq).mono ?_
  rintro e w2 ⟨rfl, hb⟩
  replace HB := HB.trans (hb.mono hsz)
  clear hb
  go_wp2
  go_ret
  exact ⟨rfl, HB⟩
end Go.Proofs.Ytjlidgeeehlkcaa
