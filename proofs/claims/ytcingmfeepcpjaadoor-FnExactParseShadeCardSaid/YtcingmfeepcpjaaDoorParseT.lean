/- The walks of ParseInt, the program's and the model's, and of FnExactParseInt. -/
import Derived.Test.YtcingmfeepcpjaaDoorFormatT
import Derived.Test.YtcingmfeepcpjaaDoorReadT
import Derived.Lib.SmallJoins
import Derived.Shelf.Strconv.ErrVarAll
namespace Go.Proofs.YtcingmfeepcpjaaDoor
open Go.RowKit

structure EnvP (w : World) : Prop where
  tab : Tab w
  es : ∃ tp p, w.var? Tryd.prog "strconv.ErrSyntax" = some #[.iface tp p]
  er : ∃ tp p, w.var? Tryd.prog "strconv.ErrRange" = some #[.iface tp p]
theorem gES : Tryd.prog.globalNamed "strconv.ErrSyntax" = some 1 := by kernel_rfl
theorem gER : Tryd.prog.globalNamed "strconv.ErrRange" = some 2 := by kernel_rfl
theorem EnvP.below {w w' : World} (h : EnvP w) {B : Nat} (hb : Below B w w') (hB : B = w.heap.size) : EnvP w' :=
  ⟨h.tab.below hb hB, by obtain ⟨tp, p, hv⟩ := h.es; exact ⟨tp, p, var?_below hb gES (by rw [hB]; exact tab_lt gES hv) hv⟩,
    by obtain ⟨tp, p, hv⟩ := h.er; exact ⟨tp, p, var?_below hb gER (by rw [hB]; exact tab_lt gER hv) hv⟩⟩

/-- Atoi: a number, or an error that is not nil. -/
theorem atoi_ok (s : ByteArray) (v : Int) (h : Lib.atoiAll s.data.toList = .ok v) (w : World) (hs : s.size ≤ 1048576) (hT : Tab w) :
    Calls Tryd.prog 21 #[.string s] w fun e w' => e = .returned (.tuple #[.int .i64 v, .nilIface]) ∧ Below w.heap.size w w' ∧ Tab w' :=
  (Tryd.strconv_Atoi_ok s (by omega) v h w).mono fun e w' ⟨he, hw⟩ => by
    have hb : Below w.heap.size w w' := by
      rcases hw with rfl | ⟨t, rfl⟩
      · exact Below.refl _ _
      · exact Joins.below_bytesWorld _ _ _ _ (Nat.le_refl _)
    exact ⟨he, hb, hT.below hb rfl⟩
theorem atoi_no (s : ByteArray) (h : ∀ v, Lib.atoiAll s.data.toList ≠ .ok v) (w : World) (hs : s.size ≤ 1048576) (hE : EnvP w) :
    Calls Tryd.prog 21 #[.string s] w fun e w' => (∃ (m : Int) (u : TypeId) (p : Value), e = .returned (.tuple #[.int .i64 m, .iface u p])) ∧ Below w.heap.size w w' := by
  rcases hc : Lib.atoiAll s.data.toList with v | _ | _
  · exact absurd hc (h v)
  · obtain ⟨tp, p, hv⟩ := hE.es
    exact (Any.strconv_Atoi_syntax_var Tryd.laysC172 s (by omega) hc tp p w hv).mono fun e w' ⟨N, he, _, _, hb⟩ => ⟨⟨_, _, _, he⟩, hb⟩
  · obtain ⟨tp, p, hv⟩ := hE.er
    exact (Any.strconv_Atoi_range_var Tryd.laysC172 s (by omega) hc tp p w hv).mono fun e w' ⟨N, he, _, _, hb⟩ => ⟨⟨_, _, _, he⟩, hb⟩

theorem readM_atoi {l : List UInt8} {n : Int} (h : readM l = some n) : Lib.atoiAll l = .ok n := by
  obtain ⟨a, b, c⟩ := readM_some h
  rw [← c]; exact atoi_itoa n a b
theorem readM_none_of {l : List UInt8} (h : ∀ n, readM l ≠ some n) : readM l = none := by
  cases hr : readM l with
  | none => rfl
  | some n => exact absurd hr (h n)

set_option maxRecDepth 100000 in
set_option maxHeartbeats 1000000 in
theorem implParse_any (s : ByteArray) (w : World) (hs : s.size ≤ 1048576) (hE : EnvP w) :
    Calls Tryd.prog 12 #[.string s] w fun e w' => e = rd s.data.toList ∧ Below w.heap.size w w' := by
  by_cases hok : ∃ v, Lib.atoiAll s.data.toList = .ok v
  · obtain ⟨v, hv⟩ := hok
    have hvb := Lib.atoiAll_bounds hv
    have HV := Lib.hid hv
    have HT := Lib.hid hE.tab
    clear hE
    by_cases hin : -999999 ≤ v ∧ v ≤ 999999
    · have HF := Lib.hid (show fmtE v = _ from if_pos hin)
      by_cases hq : numB v = s
      · have HR := Lib.hid (rd_yes s.data.toList v ((readM_iff _ _).2 ⟨hin.1, hin.2, (numB_eq _ _).1 hq⟩))
        have hq' : ((numB v).toList == s.toList) = true := by rw [hq]; exact beq_self_eq_true _
        clear hin hv hvb hq
        go_enter Tryd.func12, Tryd.ntmps12
        go_wp2_with (go_at_call 21; refine (atoi_ok _ _ HV.out _ hs HT.out).mono ?_; rintro e w1 ⟨rfl, hb1, hT1⟩; have HT1 := Lib.hid hT1; clear hT1; go_wp2_with fail; refine (implFormat_any _ _ HT1.out).mono ?_; rintro e w2 ⟨he, hb2⟩; rw [HF.out] at he; subst he)
        go_ret2
        exact ⟨HR.out.symm, hb1.trans (hb2.mono hb1.size)⟩
      · have HR := Lib.hid (rd_no s.data.toList (readM_none_of fun n hn => hq (by
          have e := readM_atoi hn
          rw [hv] at e; injection e with e; subst e
          exact (numB_eq _ _).2 (readM_some hn).2.2)))
        have hq' : ((numB v).toList == s.toList) = false := by
          apply beq_eq_false_iff_ne.2; intro g; apply hq; apply (numB_eq _ _).2; rw [← numB_toList, ← ByteArray.toList_eq, ← ByteArray.toList_eq]; exact g
        clear hin hv hvb hq
        go_enter Tryd.func12, Tryd.ntmps12
        go_wp2_with (go_at_call 21; refine (atoi_ok _ _ HV.out _ hs HT.out).mono ?_; rintro e w1 ⟨rfl, hb1, hT1⟩; have HT1 := Lib.hid hT1; clear hT1; go_wp2_with fail; refine (implFormat_any _ _ HT1.out).mono ?_; rintro e w2 ⟨he, hb2⟩; rw [HF.out] at he; subst he)
        go_ret2
        exact ⟨HR.out.symm, hb1.trans (hb2.mono hb1.size)⟩
    · have HF := Lib.hid (show fmtE v = _ from if_neg hin)
      have HR := Lib.hid (rd_no s.data.toList (readM_none_of fun n hn => hin (by
        have e := readM_atoi hn
        rw [hv] at e; injection e with e; subst e
        exact ⟨(readM_some hn).1, (readM_some hn).2.1⟩)))
      clear hin hv hvb
      go_enter Tryd.func12, Tryd.ntmps12
      go_wp2_with (go_at_call 21; refine (atoi_ok _ _ HV.out _ hs HT.out).mono ?_; rintro e w1 ⟨rfl, hb1, hT1⟩; have HT1 := Lib.hid hT1; clear hT1; go_wp2_with fail; refine (implFormat_any _ _ HT1.out).mono ?_; rintro e w2 ⟨he, hb2⟩; rw [HF.out] at he; subst he)
      go_ret2
      exact ⟨HR.out.symm, hb1.trans (hb2.mono hb1.size)⟩
  · have HR := Lib.hid (rd_no s.data.toList (readM_none_of fun n hn => hok ⟨n, readM_atoi hn⟩))
    have HN := Lib.hid (show ∀ v, Lib.atoiAll s.data.toList ≠ .ok v from fun v h => hok ⟨v, h⟩)
    have HE := Lib.hid hE
    clear hok hE
    go_enter Tryd.func12, Tryd.ntmps12
    go_wp2_with (go_at_call 21; refine (atoi_no _ HN.out _ hs HE.out).mono ?_; rintro e w1 ⟨⟨m, u, p, rfl⟩, hb1⟩)
    go_ret2
    exact ⟨HR.out.symm, hb1⟩

theorem star : "*" ++ "errors.errorString" = "*errors.errorString" := by decide
theorem rowErr (u : TypeId) (h : Tryd.prog.typeName? 3 u = some "*errors.errorString") : u = 76 :=
  typeName_ptr_named (nm := "errors.errorString") (by rw [star]; kernel_rfl) (by kernel_rfl) (by decide) u (by rw [star]; exact h)
end Go.Proofs.YtcingmfeepcpjaaDoor
