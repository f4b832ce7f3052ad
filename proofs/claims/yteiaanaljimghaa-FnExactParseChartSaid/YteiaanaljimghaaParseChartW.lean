/- The walk of the law FnExactParseChart. No condition. -/
import Derived.Test.YteiaanaljimghaaParseImpl
namespace Go.Proofs.Yteiaanaljimghaa.parseChart
open Go.RowKit

set_option maxRecDepth 100000 in
set_option maxHeartbeats 1000000 in
theorem core (w : World) (s0 : ByteArray)  (hs0 : s0.size ≤ 1048576) (rW rH : Int) (ys : List Int) (ok : Bool) (hl : ys.length ≤ 1048576) (hspec : Hid (∀ (w : World) , Calls Try.prog 14 #[.string s0] w (OutChart w rW rH ys ok))) (himpl : Hid (∀ (w : World) , Calls Try.prog 9 #[.string s0] w (OutChart w rW rH ys ok))) :
    Calls Try.prog 5 #[.string s0] w fun e w' => e = .returned (.bool true) ∧ Below w.heap.size w w' := by
  have HB := Lib.hid (Below.refl w.heap.size w)
  have hz : w.heap.size ≤ w.heap.size := Nat.le_refl _
  go_enter Try.func5, Try.ntmps5
  go_wp2_with fail
  refine (hspec.out _  ).mono ?_
  rintro e w_1 ⟨A_1, c_1, rfl, own, hb⟩
  have hsw_1 : w.heap.size ≤ w_1.heap.size := hb.size
  replace HB := Lib.hid (HB.out.trans (hb.mono hz))
  replace hz : w.heap.size ≤ w_1.heap.size := by omega
  clear hb
  have Or1 := own; clear own
  have Obr1 := Lib.hid Or1.bd
  go_wp2_with fail
  refine (himpl.out _  ).mono ?_
  rintro e w_2 ⟨A_2, c_2, rfl, own, hb⟩
  have hb0 := hb
  replace hb := ((Below.refl w_1.heap.size w_1).alloc (by simp) _).trans (hb0.mono (by first | omega | (simp; done) | (simp; omega)))
  replace Or1 := Or1.all hb
  have Bw0 := (Box.new w_1 #[.int .i64 rW, .int .i64 rH, .slice A_1 ys.length c_1] 26).all hb0
  have hsw_2 : w_1.heap.size + 1 ≤ w_2.heap.size := by have := hb0.size; simp at this; omega
  replace own := own.mono (show w_1.heap.size + 1 ≤ _ by simp)
  clear hb0
  replace HB := Lib.hid (HB.out.trans (hb.mono hz))
  replace hz : w.heap.size ≤ w_2.heap.size := by omega
  clear hb
  have Or2 := own; clear own
  have Obr2 := Lib.hid Or2.bd
  have zw0 := Bw0.1
  have ew00 := Bw0.2 0 _ rfl
  have ew01 := Bw0.2 1 _ rfl
  have ew02 := Bw0.2 2 _ rfl
  go_wp2_with fail
  refine (eqChart_same rW rH _ _ _ _ _ _ _ _ ys _ (Or2.alloc _).rd (Or1.alloc _).rd (Nat.le_refl _) (Nat.le_refl _)).mono ?_
  rintro e w_3 ⟨rfl, hb⟩
  have hb0 := hb
  replace hb := ((Below.refl w_2.heap.size w_2).alloc (by simp) _).trans (hb0.mono (by first | omega | (simp; done) | (simp; omega)))
  replace Bw0 := Bw0.all hb
  replace Or1 := Or1.all hb
  replace Or2 := Or2.all hb
  have Bg0 := (Box.new w_2 #[.int .i64 rW, .int .i64 rH, .slice A_2 ys.length c_2] 26).all hb0
  have hsw_3 : w_2.heap.size + 1 ≤ w_3.heap.size := by have := hb0.size; simp at this; omega
  clear hb0
  replace HB := Lib.hid (HB.out.trans (hb.mono hz))
  replace hz : w.heap.size ≤ w_3.heap.size := by omega
  clear hb zw0 ew00 ew01 ew02
  have zw0 := Bw0.1
  have ew00 := Bw0.2 0 _ rfl
  have ew01 := Bw0.2 1 _ rfl
  have ew02 := Bw0.2 2 _ rfl
  have zg0 := Bg0.1
  have eg00 := Bg0.2 0 _ rfl
  have eg01 := Bg0.2 1 _ rfl
  have eg02 := Bg0.2 2 _ rfl
  go_wp2_with fail
  refine (markChart_any rW rH _ _ _ _ _ Or2 hl (by omega) (by omega)).mono ?_
  rintro e w_4 ⟨rfl, own, hg⟩
  have zb := Bw0.1; replace Bw0 := Bw0.mark hg (fun k hk => by have := Obr2.out k hk; omega); clear zb
  have zb := Bg0.1; replace Bg0 := Bg0.mark hg (fun k hk => by have := Obr2.out k hk; omega); clear zb
  replace Or1 := Or1.mark hg (fun k k' hk hk' => by have := Obr2.out k hk; have := Obr1.out k' hk'; omega)
  replace Or2 := own; clear own
  replace HB := Lib.hid (HB.out.grown hg hz (fun k hk => by have := Obr2.out k hk; omega))
  have hsw_4 : w_3.heap.size ≤ w_4.heap.size := hg.size
  replace hz : w.heap.size ≤ w_4.heap.size := Nat.le_trans hz hsw_4
  clear hg zw0 ew00 ew01 ew02 zg0 eg00 eg01 eg02
  have zw0 := Bw0.1
  have ew00 := Bw0.2 0 _ rfl
  have ew01 := Bw0.2 1 _ rfl
  have ew02 := Bw0.2 2 _ rfl
  have zg0 := Bg0.1
  have eg00 := Bg0.2 0 _ rfl
  have eg01 := Bg0.2 1 _ rfl
  have eg02 := Bg0.2 2 _ rfl
  go_wp2_with fail
  refine (heldChart_any rW rH _ _ _ _ _ _ Or2.rd (Nat.le_refl _) hl (by omega) (by omega)).mono ?_
  rintro e w_5 ⟨rfl, hb⟩
  replace Bw0 := Bw0.all hb
  replace Bg0 := Bg0.all hb
  replace Or1 := Or1.all hb
  replace Or2 := Or2.all hb
  have hsw_5 : w_4.heap.size ≤ w_5.heap.size := hb.size
  replace HB := Lib.hid (HB.out.trans (hb.mono hz))
  replace hz : w.heap.size ≤ w_5.heap.size := by omega
  clear hb zw0 ew00 ew01 ew02 zg0 eg00 eg01 eg02
  have zw0 := Bw0.1
  have ew00 := Bw0.2 0 _ rfl
  have ew01 := Bw0.2 1 _ rfl
  have ew02 := Bw0.2 2 _ rfl
  have zg0 := Bg0.1
  have eg00 := Bg0.2 0 _ rfl
  have eg01 := Bg0.2 1 _ rfl
  have eg02 := Bg0.2 2 _ rfl
  go_wp2_with fail
  refine (himpl.out _  ).mono ?_
  rintro e w_6 ⟨A_6, c_6, rfl, own, hb⟩
  replace Bw0 := Bw0.all hb
  replace Bg0 := Bg0.all hb
  replace Or1 := Or1.all hb
  replace Or2 := Or2.all hb
  have hsw_6 : w_5.heap.size ≤ w_6.heap.size := hb.size
  replace HB := Lib.hid (HB.out.trans (hb.mono hz))
  replace hz : w.heap.size ≤ w_6.heap.size := by omega
  clear hb zw0 ew00 ew01 ew02 zg0 eg00 eg01 eg02
  have Or6 := own; clear own
  have Obr6 := Lib.hid Or6.bd
  have zw0 := Bw0.1
  have ew00 := Bw0.2 0 _ rfl
  have ew01 := Bw0.2 1 _ rfl
  have ew02 := Bw0.2 2 _ rfl
  have zg0 := Bg0.1
  have eg00 := Bg0.2 0 _ rfl
  have eg01 := Bg0.2 1 _ rfl
  have eg02 := Bg0.2 2 _ rfl
  go_wp2_with fail
  refine (eqChart_same rW rH _ _ _ _ _ _ _ _ ys _ (Or6.alloc _).rd (Or1.alloc _).rd (Nat.le_refl _) (Nat.le_refl _)).mono ?_
  rintro e w_7 ⟨rfl, hb⟩
  have hb0 := hb
  replace hb := ((Below.refl w_6.heap.size w_6).alloc (by simp) _).trans (hb0.mono (by first | omega | (simp; done) | (simp; omega)))
  replace Bw0 := Bw0.all hb
  replace Bg0 := Bg0.all hb
  replace Or1 := Or1.all hb
  replace Or2 := Or2.all hb
  replace Or6 := Or6.all hb
  have Bh0 := (Box.new w_6 #[.int .i64 rW, .int .i64 rH, .slice A_6 ys.length c_6] 26).all hb0
  have hsw_7 : w_6.heap.size + 1 ≤ w_7.heap.size := by have := hb0.size; simp at this; omega
  clear hb0
  replace HB := Lib.hid (HB.out.trans (hb.mono hz))
  replace hz : w.heap.size ≤ w_7.heap.size := by omega
  clear hb zw0 ew00 ew01 ew02 zg0 eg00 eg01 eg02
  have zw0 := Bw0.1
  have ew00 := Bw0.2 0 _ rfl
  have ew01 := Bw0.2 1 _ rfl
  have ew02 := Bw0.2 2 _ rfl
  have zg0 := Bg0.1
  have eg00 := Bg0.2 0 _ rfl
  have eg01 := Bg0.2 1 _ rfl
  have eg02 := Bg0.2 2 _ rfl
  have zh0 := Bh0.1
  have eh00 := Bh0.2 0 _ rfl
  have eh01 := Bh0.2 1 _ rfl
  have eh02 := Bh0.2 2 _ rfl
  go_wp2_with fail
  refine (heldChart_any rW rH _ _ _ _ _ _ Or2.rd (Nat.le_refl _) hl (by omega) (by omega)).mono ?_
  rintro e w_8 ⟨rfl, hb⟩
  replace Bw0 := Bw0.all hb
  replace Bg0 := Bg0.all hb
  replace Bh0 := Bh0.all hb
  replace Or1 := Or1.all hb
  replace Or2 := Or2.all hb
  replace Or6 := Or6.all hb
  have hsw_8 : w_7.heap.size ≤ w_8.heap.size := hb.size
  replace HB := Lib.hid (HB.out.trans (hb.mono hz))
  replace hz : w.heap.size ≤ w_8.heap.size := by omega
  clear hb zw0 ew00 ew01 ew02 zg0 eg00 eg01 eg02 zh0 eh00 eh01 eh02
  go_wp2_with fail
  go_ret
  exact ⟨rfl, HB.out⟩

set_option maxRecDepth 100000 in
set_option maxHeartbeats 400000 in
theorem bigS (w : World) (s0 : ByteArray) (hm : s0.size ≤ maxLen) (hn : ¬ s0.size ≤ 1048576) : Calls Try.prog 5 #[.string s0] w fun e w' => e = .returned (.bool true) ∧ Below w.heap.size w w' := by
  unfold maxLen at hm
  go_enter Try.func5, Try.ntmps5
  go_wp2_with fail
  go_ret
  exact ⟨rfl, Below.refl _ _⟩
theorem walk (w : World) (s0 : ByteArray) (_m0 : s0.size ≤ maxLen) : Calls Try.prog 5 #[.string s0] w fun e w' => e = .returned (.bool true) ∧ Below w.heap.size w w' := by
  by_cases hs0 : s0.size ≤ 1048576
  · exact core w s0 hs0 _ _ _ _ (readX_len _) (Lib.hid (fun w => specParseChart_any s0 w _m0)) (Lib.hid (fun w => implParseChart_any s0 w _m0))
  · exact bigS w s0 _m0 hs0
end Go.Proofs.Yteiaanaljimghaa.parseChart
