/- The walk of the law FnExactSplitString. No condition. -/
import Derived.Test.YtdfijojkkmpllaaSplits
namespace Go.Proofs.Ytdfijojkkmpllaa.splitString
open Go.RowKit

set_option maxRecDepth 100000 in
set_option maxHeartbeats 4000000 in
theorem walk (w : World) (s sep : ByteArray) (ms : s.size ≤ maxLen) (mp : sep.size ≤ maxLen) :
    Calls Try.prog 4 #[.string s, .string sep] w fun e w' => e = .returned (.bool true) ∧ Below w.heap.size w w' := by
  have hms : s.size ≤ 9223372036854775807 := by unfold maxLen at ms; omega
  have hmp : sep.size ≤ 9223372036854775807 := by unfold maxLen at mp; omega
  by_cases h1 : s.size ≤ 1048576
  · by_cases h2 : sep.size ≤ 1048576
    · obtain ⟨ys, hys⟩ : ∃ ys, splitX s sep = ys := ⟨_, rfl⟩
      obtain ⟨ok, hok⟩ : ∃ ok, splitOk s sep = ok := ⟨_, rfl⟩
      have hi : Hid (∀ w : World, Calls Try.prog 8 #[.string s, .string sep] w (OutF strF w ys ok)) := Lib.hid fun w => by rw [← hys, ← hok]; exact implSplitString_any s sep w ms mp
      have hp : Hid (∀ w : World, Calls Try.prog 15 #[.string s, .string sep] w (OutF strF w ys ok)) := Lib.hid fun w => by rw [← hys, ← hok]; exact specSplitString_any s sep w ms mp
      have hn := (splitX_bd s sep).2
      rw [hys] at hn
      clear hys hok
      have HB := Below.refl w.heap.size w
      go_enter Try.func4, Try.ntmps4
      go_wp2_with fail
      refine (hp.out _).mono ?_
      rintro e w1 ⟨A1, c1, rfl, o1, hb⟩
      replace HB := HB.trans (hb.mono HB.size)
      clear hb
      go_wp2_with fail
      refine (hi.out _).mono ?_
      rintro e w2 ⟨A2, c2, rfl, o2, hb⟩
      have a1 : ∀ k, (Value.slice A1 ys.length c1).ownBlock = some k → k < w1.heap.size := fun k hk => (o1.bd k hk).2
      replace o1 := o1.all hb
      have hz1 := HB.size
      replace HB := HB.trans (hb.mono HB.size)
      clear hb
      go_wp2_with fail
      refine (eqStringS_same _ _ _ _ _ _ _ _ ys _ o2.rd o1.rd).mono ?_
      rintro e w3 ⟨rfl, hb⟩
      replace o1 := o1.all hb
      replace o2 := o2.all hb
      replace HB := HB.trans (hb.mono HB.size)
      clear hb
      cases ok <;> go_wp2_with fail
      all_goals
        refine (markStringS_any A2 ys.length c2 1 _ _ ys o2 rfl (by omega) (by omega) (by omega)).mono ?_
        rintro e w4 ⟨rfl, om, hg⟩
        replace o1 := o1.mark hg (fun k k' hk hk' => by have := (o2.bd k hk).1; have := a1 k' hk'; omega)
        replace HB := HB.grown hg HB.size (fun k hk => by have := (o2.bd k hk).1; omega)
        clear hg o2
        go_wp2_with fail
        refine (heldStringS_any A2 ys.length c2 _ 1 _ om.rd (Nat.le_refl _) (by omega) (by omega) (by omega)).mono ?_
        rintro e w5 ⟨rfl, hb⟩
        replace o1 := o1.all hb
        replace om := om.all hb
        replace HB := HB.trans (hb.mono HB.size)
        clear hb
        go_wp2_with fail
        refine (hi.out _).mono ?_
        rintro e w6 ⟨A3, c3, rfl, o3, hb⟩
        replace o1 := o1.all hb
        replace om := om.all hb
        replace HB := HB.trans (hb.mono HB.size)
        clear hb
        go_wp2_with fail
        refine (eqStringS_same _ _ _ _ _ _ _ _ ys _ o3.rd o1.rd).mono ?_
        rintro e w7 ⟨rfl, hb⟩
        replace om := om.all hb
        replace HB := HB.trans (hb.mono HB.size)
        clear hb
        go_wp2_with fail
        refine (heldStringS_any A2 ys.length c2 _ 1 _ om.rd (Nat.le_refl _) (by omega) (by omega) (by omega)).mono ?_
        rintro e w8 ⟨rfl, hb⟩
        replace HB := HB.trans (hb.mono HB.size)
        clear hb
        go_wp2
        go_ret
        exact ⟨rfl, HB⟩
    · go_enter Try.func4, Try.ntmps4
      go_wp2
      go_ret
      exact ⟨rfl, Below.refl _ _⟩
  · go_enter Try.func4, Try.ntmps4
    go_wp2
    go_ret
    exact ⟨rfl, Below.refl _ _⟩
end Go.Proofs.Ytdfijojkkmpllaa.splitString
