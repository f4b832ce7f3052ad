/- The calls of ParseShade, both texts: cutting, reading numbers, splitting. Conditions: as they stand. -/
import Derived.Test.YtcingmfeepcpjaaDoorShadeRead
import Derived.Test.YtcingmfeepcpjaaDoorParseT
import Derived.Test.YtcingmfeepcpjaaDoorSplitT
namespace Go.Proofs.YtcingmfeepcpjaaDoor
open Go.RowKit

structure EnvQ (w : World) : Prop where
  par : EnvP w
  shape : w.ShapedOpen Tryd.prog
theorem EnvQ.below {w w' : World} (h : EnvQ w) (hb : Below w.heap.size w w') : EnvQ w' :=
  ⟨h.par.below hb rfl, h.shape.keptBut (hb.frame (fun _ => False)) (fun _ h => h.elim)⟩
theorem strEqQ {a b : ByteArray} (h : a = b) : (a.toList == b.toList) = true := by rw [h]; exact beq_self_eq_true _
theorem strNeQ {a b : ByteArray} (h : a ≠ b) : (a.toList == b.toList) = false := by
  apply beq_eq_false_iff_ne.2; intro g; apply h
  rw [ByteArray.toList_eq, ByteArray.toList_eq] at g
  exact ByteArray.ext (Array.toList_inj.1 g)
theorem lenQ (s : ByteArray) : s.data.toList.length = s.size := by rw [Array.length_toList]; rfl
set_option maxRecDepth 100000 in
set_option maxHeartbeats 400000 in
theorem cloneQ (s : ByteArray) (w : World) (hs : s.size ≤ 1048576) :
    Calls Tryd.prog 14 #[.string s] w (Out w (.string s)) := by
  go_enter Tryd.func14, Tryd.ntmps14
  go_wp2_with (go_at_call 25; refine (Tryd.stringslite_Clone _ _ (by omega)).mono ?_; rintro e w' ⟨rfl, hb⟩)
  go_ret
  exact ⟨rfl, hb⟩
/-- A text cut at a mark: its two parts. -/
theorem cut_ex (s sep : ByteArray) (hs : s.size ≤ 1048576) : ∃ (a r : ByteArray) (b : Bool), (∀ w : World, w.ShapedOpen Tryd.prog → Calls Tryd.prog 11 #[.string s, .string sep] w (Out w (.tuple #[.string a, .string r, .bool b]))) ∧
    a.data.toList = (Lib.cut s.data.toList sep.data.toList).1 ∧ r.data.toList = (Lib.cut s.data.toList sep.data.toList).2.1 ∧ a.size ≤ 1048576 ∧ r.size ≤ 1048576 := by
  have hl := cut_len s.data.toList sep.data.toList
  rw [lenQ] at hl
  refine ⟨⟨(Lib.cut s.data.toList sep.data.toList).1.toArray⟩, ⟨(Lib.cut s.data.toList sep.data.toList).2.1.toArray⟩, (Lib.cut s.data.toList sep.data.toList).2.2, fun w hw => ?_, by simp, by simp, ?_, ?_⟩
  · refine (Tryd.strings_Cut_shaped s sep w hw (by omega)).mono fun e w' ⟨he, n, hn⟩ => ⟨he, ?_⟩
    subst hn
    exact below_drewN w n
  · show (Lib.cut s.data.toList sep.data.toList).1.toArray.size ≤ _
    rw [List.size_toArray]
    omega
  · show (Lib.cut s.data.toList sep.data.toList).2.1.toArray.size ≤ _
    rw [List.size_toArray]
    omega
theorem parse_ex (a : ByteArray) (ha : a.size ≤ 1048576) : ∃ b, ∀ w : World, EnvP w → Calls Tryd.prog 12 #[.string a] w (Out w (.tuple #[.int .i64 (nOf a.data.toList), .bool b])) := by
  obtain ⟨b, hb⟩ := rd_eq a.data.toList
  exact ⟨b, fun w hw => (implParse_any a w ha hw).mono fun e w' ⟨he, h⟩ => ⟨he.trans hb, h⟩⟩
theorem read_ex (a : ByteArray) (ha : a.size ≤ maxLen) : ∃ b, ∀ w : World, Calls Tryd.prog 8 #[.string a] w (Out w (.tuple #[.int .i64 (nOf a.data.toList), .bool b])) := by
  obtain ⟨b, hb⟩ := rd_eq a.data.toList
  refine ⟨b, fun w => (l1Read_any a w ha).mono fun e w' ⟨he, n, hn⟩ => ⟨he.trans hb, ?_⟩⟩
  subst hn
  exact below_drewN w n
theorem own_readQ {w : World} {base e : Nat} {v : Value} {n : Nat} {xs : List Value} (h : w.ownsRow base e 1 v n xs) (hn : 0 < n) :
    ∃ g cap, v = .slice (some ⟨g, 0, none⟩) n cap ∧ base ≤ g ∧ n ≤ cap ∧ cap ≤ maxLen ∧ g < w.heap.size ∧ ∀ j u, xs[j]? = some u → w.cell? ⟨g, j, none⟩ = some u := by
  have hc := h
  obtain ⟨_, ⟨rfl, h0⟩ | ⟨g, cap, cur, rfl, hb, hg, hle, hm, _⟩⟩ := h
  · omega
  · have hlt := (hc.lt g rfl).2
    refine ⟨g, cap, rfl, hb, hle, hm, hlt, fun j u hu => ?_⟩
    have := hc.cells (g := g) rfl j u hu
    cases j with
    | zero => simpa [Addr.add] using this
    | succ j => simpa [Addr.add] using this

theorem splitGo_le (b : UInt8) : ∀ (l cur x : List UInt8), x ∈ splitGo b cur l → x.length ≤ cur.length + l.length := by
  intro l
  induction l with
  | nil =>
    intro cur x h
    rw [splitGo, List.mem_singleton] at h
    rw [h]
    simp
  | cons c l ih =>
    intro cur x h
    rw [splitGo] at h
    split at h
    · rcases List.mem_cons.1 h with h | h
      · rw [h]
        omega
      · have := ih _ _ h
        simp only [List.length_nil, List.length_cons] at *
        omega
    · have := ih _ _ h
      simp only [List.length_append, List.length_cons, List.length_nil] at *
      omega
/-- The words of a text. -/
theorem split_cells (s : ByteArray) (c : UInt8) (w w' : World) (e : Ending) (h : SplitEnd s.data.toList c w e w') :
    ∃ g n cap, e = .returned (.slice (some ⟨g, 0, none⟩) n cap) ∧ 1 ≤ n ∧ n ≤ cap ∧ cap ≤ maxLen ∧ w.heap.size ≤ g ∧ g < w'.heap.size ∧ (splitL c s.data.toList).length = n ∧
      (∀ i, i < n → ∃ t, w'.cell? ⟨g, i, none⟩ = some (.string t) ∧ t.data.toList = (splitL c s.data.toList).getD i [] ∧ t.size ≤ s.size) ∧ Below w.heap.size w w' := by
  obtain ⟨v, P, rfl, hO, hP⟩ := h
  have hne : 0 < P.length := by
    rcases Nat.eq_zero_or_pos P.length with h0 | h0
    · rw [List.length_eq_zero_iff] at h0
      subst h0
      exact absurd hP.symm (splitGo_ne c _ _)
    · exact h0
  obtain ⟨g, cap, rfl, hg, hle, hm, hlt, hcell⟩ := own_readQ hO.own (by simpa using hne)
  refine ⟨g, _, cap, rfl, hne, hle, hm, hg, hlt, by rw [← hP, List.length_map], fun i hi => ?_, hO.below⟩
  have he : P[i].data.toList = (splitL c s.data.toList).getD i [] := by
    rw [← hP, List.getD_eq_getElem?_getD, List.getElem?_map, List.getElem?_eq_getElem hi]
    rfl
  refine ⟨P[i], hcell i _ (by simp [hi]), he, ?_⟩
  have hm2 : P[i].data.toList ∈ splitL c s.data.toList := by
    rw [← hP]
    exact List.mem_map.2 ⟨P[i], List.getElem_mem hi, rfl⟩
  have := splitGo_le c s.data.toList [] _ hm2
  rw [lenQ, lenQ] at this
  simpa using this
end Go.Proofs.YtcingmfeepcpjaaDoor
