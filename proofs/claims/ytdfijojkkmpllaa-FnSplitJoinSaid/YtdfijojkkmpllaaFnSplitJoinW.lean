/- The walk of the law FnSplitJoin. No condition. -/
import Derived.Test.YtdfijojkkmpllaaJoinSplit
import Derived.Test.YtdfijojkkmpllaaJoinImpl
import Derived.Test.YtdfijojkkmpllaaDraws1
namespace Go.Proofs.Ytdfijojkkmpllaa
open Go.RowKit

set_option maxRecDepth 100000 in
set_option maxHeartbeats 400000 in
theorem specLess_any (a b : ByteArray) (w : World) : Calls Try.prog 14 #[.string a, .string b] w fun e w' => e = .returned (.bool (Op.bytesLess a.toList b.toList)) ∧ w = w' := by
  go_enter Try.func14, Try.ntmps14
  go_wp2
  go_ret
  exact ⟨rfl, rfl⟩
set_option maxRecDepth 100000 in
set_option maxHeartbeats 400000 in
theorem implLess_any (a b : ByteArray) (w : World) : Calls Try.prog 13 #[.string a, .string b] w fun e w' => e = .returned (.bool (Op.bytesLess a.toList b.toList)) ∧ w = w' := by
  go_enter Try.func13, Try.ntmps13
  go_wp2
  go_ret
  exact ⟨rfl, rfl⟩
theorem less_not : ∀ a b : List UInt8, Op.bytesLess a b = true → Op.bytesLess b a = false := by
  intro a
  induction a with
  | nil => intro b h; cases b <;> simp [Op.bytesLess] at h ⊢
  | cons x xs ih =>
    intro b h
    cases b with
    | nil => simp [Op.bytesLess] at h
    | cons y ys =>
      simp only [Op.bytesLess, Bool.or_eq_true, Bool.and_eq_true, decide_eq_true_eq, beq_iff_eq] at h
      simp only [Op.bytesLess, Bool.or_eq_false_iff, Bool.and_eq_false_iff, decide_eq_false_iff_not, beq_eq_false_iff_ne]
      rcases h with h | ⟨rfl, h⟩
      · exact ⟨fun h' => by
          have h1 := UInt8.lt_iff_toNat_lt.1 h
          have h2 := UInt8.lt_iff_toNat_lt.1 h'
          omega, .inl (fun e => by
          subst e
          have h1 := UInt8.lt_iff_toNat_lt.1 h
          omega)⟩
      · exact ⟨fun h' => by
          have h2 := UInt8.lt_iff_toNat_lt.1 h'
          omega, .inr (ih ys h)⟩

set_option maxRecDepth 100000 in
set_option maxHeartbeats 16000000 in
theorem fnSplitJoin_walk (w : World) (A : Option Addr) (n c : Nat) (R : RdB w w.heap.size A n c) : Calls Try.prog 3 #[.slice A n c] w fun e w' => e = .returned (.bool true) ∧ Below w.heap.size w w' := by
  have hcap := R.cap
  have hmax := R.max
  unfold maxLen at hmax
  have HB := Below.refl w.heap.size w
  by_cases hn : n ≤ 65536
  · go_enter Try.func3, Try.ntmps3
    go_wp2_with fail
    refine (vBig_eq A n c _ (by omega) false (by simp; omega)).mono ?_
    rintro e w' ⟨rfl, rfl⟩
    go_wp2_with fail
    refine (drawSplitString_any A n c w.heap.size _ R HB.size hn).mono ?_
    rintro e w1 ⟨s, sep, rfl, hs, hp, hb⟩
    replace R := R.all hb HB.size
    replace HB := HB.trans (hb.mono HB.size)
    clear hb
    have hsp : Hid (∀ w : World, Calls Try.prog 8 #[.string s, .string sep] w (OutF strF w (splitX s sep) (splitOk s sep))) := Lib.hid fun w => implSplitString_any s sep w (by unfold maxLen; omega) (by unfold maxLen; omega)
    have HN : Hid (¬ sep.size = 1 → splitOk s sep = false ∧ splitX s sep = []) := Lib.hid fun h => ⟨(splitX_no (fun e => h e.2)).2, (splitX_no (fun e => h e.2)).1⟩
    have HJ : Hid (sep.size = 1 → splitOk s sep = true ∧ ∀ (w : World) (A : Option Addr) (c : Nat), RdF strF w w.heap.size A (splitX s sep).length c (splitX s sep) → Calls Try.prog 10 #[.slice A (splitX s sep).length c, .string sep] w (Out w (.tuple #[.string s, .bool true]))) := Lib.hid fun h1 => ⟨decide_eq_true ⟨by omega, h1⟩, fun w A c h => by
      have := implJoinStrings_any A (splitX s sep).length c _ (splitX s sep) sep w h (Nat.le_refl _) (fun x hx => by have := (splitX_bd s sep).1 x hx; omega) (by unfold maxLen; omega)
      rw [(join_split (by omega) h1).1, (join_split (by omega) h1).2] at this
      exact this⟩
    generalize splitX s sep = ys at *
    generalize splitOk s sep = ok at *
    go_wp2_with fail
    refine (hsp.out _).mono ?_
    rintro e w2 ⟨A2, c2, rfl, o2, hb⟩
    replace R := R.all hb HB.size
    replace HB := HB.trans (hb.mono HB.size)
    clear hb
    go_wp2_with fail
    refine (drawJoinStrings_any A n c w.heap.size _ R HB.size hn).mono ?_
    rintro e w3 ⟨A3, c3, ps, mark, rfl, o3, hps, hm, hb⟩
    replace R := R.all hb HB.size
    replace o2 := o2.all hb
    replace HB := HB.trans (hb.mono HB.size)
    clear hb
    obtain ⟨jv, hjv⟩ : ∃ jv, joined ps mark = jv := ⟨_, rfl⟩
    obtain ⟨jb, hjb⟩ : ∃ jb, joins ps mark = jb := ⟨_, rfl⟩
    have hi := implJoinStrings_any A3 ps.length c3 _ ps mark w3 o3.rd (Nat.le_refl _) (fun x hx => by have := hps x hx; omega) (by unfold maxLen; omega)
    rw [hjv, hjb] at hi
    go_wp2_with fail
    refine hi.mono ?_
    rintro e w4 ⟨rfl, hb⟩
    clear hi
    replace R := R.all hb HB.size
    replace o2 := o2.all hb
    replace o3 := o3.all hb
    replace HB := HB.trans (hb.mono HB.size)
    clear hb
    have hi := specJoinStrings_any A3 ps.length c3 _ ps mark w4 o3.rd (fun x hx => by have := hps x hx; omega) (by unfold maxLen; omega)
    rw [hjv, hjb] at hi
    go_wp2_with fail
    refine hi.mono ?_
    rintro e w5 ⟨rfl, hb⟩
    clear hi hjv hjb hps
    replace R := R.all hb HB.size
    replace o2 := o2.all hb
    replace HB := HB.trans (hb.mono HB.size)
    clear hb o3
    go_wp2_with fail
    refine (drawLessString_any A n c w.heap.size _ R HB.size hn).mono ?_
    rintro e w6 ⟨a, b, rfl, ha, hb', hb⟩
    replace R := R.all hb HB.size
    replace o2 := o2.all hb
    replace HB := HB.trans (hb.mono HB.size)
    clear hb
    have hla : Hid (∀ w : World, Calls Try.prog 13 #[.string a, .string b] w fun e w' => e = .returned (.bool (Op.bytesLess a.toList b.toList)) ∧ w = w') := Lib.hid fun w => implLess_any a b w
    have hlb : Hid (∀ w : World, Calls Try.prog 13 #[.string b, .string a] w fun e w' => e = .returned (.bool (Op.bytesLess b.toList a.toList)) ∧ w = w') := Lib.hid fun w => implLess_any b a w
    have hls : Hid (∀ w : World, Calls Try.prog 14 #[.string a, .string b] w fun e w' => e = .returned (.bool (Op.bytesLess a.toList b.toList)) ∧ w = w') := Lib.hid fun w => specLess_any a b w
    have hno := less_not a.toList b.toList
    generalize Op.bytesLess a.toList b.toList = d1 at *
    generalize Op.bytesLess b.toList a.toList = d2 at *
    cases d1
    · skip
      go_wp2_with fail
      refine (hla.out _).mono ?_
      rintro e w' ⟨rfl, rfl⟩
      go_wp2_with fail
      refine (hls.out _).mono ?_
      rintro e w' ⟨rfl, rfl⟩
      go_wp2_with fail
      refine (hla.out _).mono ?_
      rintro e w' ⟨rfl, rfl⟩
      by_cases h1 : sep.size = 1
      · obtain ⟨rfl, hJ⟩ := HJ.out h1
        have h1' : ((sep.size : Int) != 1) = false := by simp; omega
        go_wp2_with fail
        refine (hJ _ _ _ o2.rd).mono ?_
        rintro e w7 ⟨rfl, hb⟩
        replace HB := HB.trans (hb.mono HB.size)
        go_wp2
        go_ret
        exact ⟨ret_bool (by simp), HB⟩
      · obtain ⟨rfl, rfl⟩ := HN.out h1
        have h1' : ((sep.size : Int) != 1) = true := by simp; omega
        go_wp2
        go_ret
        exact ⟨rfl, HB⟩
    · obtain rfl : d2 = false := hno rfl
      go_wp2_with fail
      refine (hla.out _).mono ?_
      rintro e w' ⟨rfl, rfl⟩
      go_wp2_with fail
      refine (hls.out _).mono ?_
      rintro e w' ⟨rfl, rfl⟩
      go_wp2_with fail
      refine (hla.out _).mono ?_
      rintro e w' ⟨rfl, rfl⟩
      go_wp2_with fail
      refine (hlb.out _).mono ?_
      rintro e w' ⟨rfl, rfl⟩
      by_cases h1 : sep.size = 1
      · obtain ⟨rfl, hJ⟩ := HJ.out h1
        have h1' : ((sep.size : Int) != 1) = false := by simp; omega
        go_wp2_with fail
        refine (hJ _ _ _ o2.rd).mono ?_
        rintro e w7 ⟨rfl, hb⟩
        replace HB := HB.trans (hb.mono HB.size)
        go_wp2
        go_ret
        exact ⟨ret_bool (by simp), HB⟩
      · obtain ⟨rfl, rfl⟩ := HN.out h1
        have h1' : ((sep.size : Int) != 1) = true := by simp; omega
        go_wp2
        go_ret
        exact ⟨rfl, HB⟩
  · go_enter Try.func3, Try.ntmps3
    go_wp2_with fail
    refine (vBig_eq A n c _ (by omega) true (by simp; omega)).mono ?_
    rintro e w' ⟨rfl, rfl⟩
    go_wp2
    go_ret
    exact ⟨rfl, HB⟩
end Go.Proofs.Ytdfijojkkmpllaa
