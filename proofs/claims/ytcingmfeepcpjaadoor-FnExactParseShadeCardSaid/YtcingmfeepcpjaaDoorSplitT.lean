/- The walk of the model's l1Split: a new slice of the parts between the bytes. Condition: a text of at most 2^21 bytes. -/
import Derived.Test.YtcingmfeepcpjaaDoorStandsT
import Derived.Test.YtcingmfeepcpjaaDoorSplitMathT
import Derived.Lib.Strings
namespace Go.Proofs.YtcingmfeepcpjaaDoor
open Go.RowKit

/-- A new slice of strings: what it owns. -/
structure OwnsStrs (w w' : World) (v : Value) (P : List ByteArray) : Prop where
  own : w'.ownsRow w.heap.size 9 1 v P.length (P.map Value.string)
  below : Below w.heap.size w w'
def SplitEnd (l : List UInt8) (c : UInt8) (w : World) (e : Ending) (w' : World) : Prop :=
  ∃ v P, e = .returned v ∧ OwnsStrs w w' v P ∧ P.map (·.data.toList) = splitL c l
structure SplitRel (s : ByteArray) (c : UInt8) (w : World) (v : Value) (fr k : Nat) (P : List ByteArray) (wr : World) : Prop where
  own : OwnsStrs w wr v P
  eq : splitL c s.data.toList = P.map (·.data.toList) ++ splitGo c ((s.data.toList.drop fr).take (k - fr)) (s.data.toList.drop k)
  le : fr ≤ k
  num : P.length ≤ fr

theorem strInfo : (Tryd.prog.info? 9).map (fun i => (i.zero, i.size, i.bytes)) = some (some (.string ⟨#[]⟩), 1, 16) := by kernel_rfl
theorem strExtract (s : ByteArray) (a b : Nat) : (s.extract a b).data.toList = (s.data.toList.drop a).take (b - a) := Lib.extract_data s a b

theorem own_block {w : World} {base e size : Nat} {v : Value} {n : Nat} {xs : List Value} (h : w.ownsRow base e size v n xs) : ∀ k, v.ownBlock = some k → base ≤ k := by
  intro k hk
  obtain ⟨_, ⟨rfl, _⟩ | ⟨g, cap, cur, rfl, hb, _⟩⟩ := h
  · cases hk
  · have e : g = k := Option.some.inj hk
    omega
/-- A string more at the end of a new slice. -/
theorem OwnsStrs.push {w wr w' : World} {v v' : Value} {P : List ByteArray} {x : ByteArray} {o : Obj} (h : OwnsStrs w wr v P)
    (hown : w'.ownsRow w.heap.size 9 1 v' (P.length + 1) (P.map Value.string ++ [.string x])) (hg : (wr.alloc o).grownBy w' v.ownBlock) : OwnsStrs w w' v' (P ++ [x]) :=
  ⟨by simpa using hown, (h.below.alloc h.below.size o).grown hg (by have := h.below.size; simp; omega) (own_block h.own)⟩
theorem rel_hit {s : ByteArray} {c : UInt8} {w wr w' : World} {v v' : Value} {fr k : Nat} {P : List ByteArray} {o : Obj} (hR : SplitRel s c w v fr k P wr) (hlt : k < s.size) (hc : s[k] = c)
    (hown : w'.ownsRow w.heap.size 9 1 v' (P.length + 1) (P.map Value.string ++ [.string (s.extract fr k)])) (hg : (wr.alloc o).grownBy w' v.ownBlock) :
    SplitRel s c w v' (k + 1) (k + 1) (P ++ [s.extract fr k]) w' := by
  refine ⟨hR.own.push hown hg, ?_, Nat.le_refl _, by have := hR.num; have := hR.le; simp; omega⟩
  have hl : k < s.data.toList.length := by rw [sizeL]; exact hlt
  rw [hR.eq, splitGo_hit c _ s.data.toList k hl hc, List.map_append, List.append_assoc]
  simp
theorem rel_miss {s : ByteArray} {c : UInt8} {w wr : World} {v : Value} {fr k : Nat} {P : List ByteArray} (hR : SplitRel s c w v fr k P wr) (hlt : k < s.size) (hc : s[k] ≠ c) :
    SplitRel s c w v fr (k + 1) P wr := by
  have hl : k < s.data.toList.length := by rw [sizeL]; exact hlt
  refine ⟨hR.own, ?_, by have := hR.le; omega, hR.num⟩
  rw [hR.eq, splitGo_miss c _ s.data.toList k hl hc, piece_snoc _ _ _ hl hR.le]
theorem rel_end {s : ByteArray} {c : UInt8} {w wr w' : World} {v v' : Value} {fr k : Nat} {P : List ByteArray} {o : Obj} (hR : SplitRel s c w v fr k P wr) (hlt : ¬ k < s.size) (hk : k ≤ s.size)
    (hown : w'.ownsRow w.heap.size 9 1 v' (P.length + 1) (P.map Value.string ++ [.string (s.extract fr s.size)])) (hg : (wr.alloc o).grownBy w' v.ownBlock) :
    SplitEnd s.data.toList c w (.returned v') w' := by
  obtain rfl : k = s.size := by omega
  refine ⟨v', P ++ [s.extract fr s.size], rfl, hR.own.push hown hg, ?_⟩
  have e : s.data.toList.drop s.size = [] := List.drop_of_length_le (by rw [sizeL]; exact Nat.le_refl _)
  rw [hR.eq, e, splitGo, List.map_append]
  simp
theorem rel_start (s : ByteArray) (c : UInt8) (w : World) : SplitRel s c w (.slice (some ⟨w.heap.size, 0, none⟩) 0 0) 0 0 [] (w.alloc (.cells #[] 9)) := by
  refine ⟨⟨⟨rfl, Or.inr ⟨w.heap.size, 0, #[], rfl, Nat.le_refl _, (MapKept.heap_alloc w _).1, Nat.le_refl _, Nat.zero_le _, rfl, rfl⟩⟩, (Below.refl _ _).alloc (Nat.le_refl _) _⟩, ?_, Nat.le_refl _, Nat.le_refl _⟩
  simp [splitL]

set_option maxRecDepth 100000 in
set_option maxHeartbeats 1000000 in
theorem l1Split_any (s : ByteArray) (c : UInt8) (w : World) (hs : s.size ≤ 2097152) :
    Calls Tryd.prog 7 #[.string s, .int .u8 (c.toNat : Int)] w (SplitEnd s.data.toList c w) := by
  obtain ⟨i0, hi, hz0, hz1, hz2⟩ := info_parts strInfo
  go_enter Tryd.func7, Tryd.ntmps7
  go_wp2
  go_loopw [5, 6, 7] (fun v f i wr => ∃ (k fr : Nat) (P : List ByteArray), k ≤ s.size ∧ f = .int .i64 fr ∧ i = .int .i64 k ∧ SplitRel s c w v fr k P wr) (fun _ _ i _ => s.size - (intOf i).toNat)
  case atStart =>
    exact ⟨0, 0, [], Nat.zero_le _, rfl, rfl, rel_start s c w⟩
  case round =>
    obtain ⟨k, fr, P, hk, rfl, rfl, hR⟩ := hrel
    have hle := hR.le
    have hnum := hR.num
    have HR := Lib.hid hR
    clear hR
    by_cases hlt : k < s.size
    · by_cases hc : s[k] = c
      · have hq : ((s[k].toNat : Int) == (c.toNat : Int)) = true := by rw [hc]; exact beq_self_eq_true _
        have HC := Lib.hid hc
        clear hc
        go_wp2_with (at_builtin; refine wpList_append_own _ rfl (.tmp 20) (.tmp 25) 28 rfl w.heap.size 9 i0 (.string ⟨#[]⟩) 1 16 Tryd.underlying28 hi hz0 hz1 hz2 rfl (by decide) _ _ _ rfl (HR.out.own.own.alloc _) ⟨wr.heap.size, 0, none⟩ 1 1 [.string (s.extract fr k)] rfl rfl ?c1 ?c2 ?c3 ?c4 ?c5 ?_)
        case c1 => exact cell_one_new _ _ _
        case c2 => intro u hu; simp at hu; subst hu; rfl
        case c3 => unfold maxLen; omega
        case c4 => omega
        case c5 => have := HR.out.own.below.size; simp; omega
        intro v' w1 hown' hgrow _
        have HS := Lib.hid (rel_hit HR.out hlt HC.out hown' hgrow)
        clear hown' hgrow
        go_wp2_with fail
        go_roundw
        case rel => exact ⟨k + 1, k + 1, _, by omega, by go_num, by go_num, HS.out⟩
        case measure => simp [intOf]; omega
      · have hq := byteNe hc
        have HS := Lib.hid (rel_miss HR.out hlt hc)
        clear hc
        go_wp2_with fail
        go_roundw
        case rel => exact ⟨k + 1, fr, P, by omega, rfl, by go_num, HS.out⟩
        case measure => simp [intOf]; omega
    · go_wp2_with (at_builtin; refine wpList_append_own _ rfl (.tmp 29) (.tmp 33) 28 rfl w.heap.size 9 i0 (.string ⟨#[]⟩) 1 16 Tryd.underlying28 hi hz0 hz1 hz2 rfl (by decide) _ _ _ rfl (HR.out.own.own.alloc _) ⟨wr.heap.size, 0, none⟩ 1 1 [.string (s.extract fr s.size)] rfl rfl ?d1 ?d2 ?d3 ?d4 ?d5 ?_)
      case d1 => exact cell_one_new _ _ _
      case d2 => intro u hu; simp at hu; subst hu; rfl
      case d3 => unfold maxLen; omega
      case d4 => omega
      case d5 => have := HR.out.own.below.size; simp; omega
      intro v' w1 hown' hgrow _
      have HS := Lib.hid (rel_end HR.out hlt hk hown' hgrow)
      clear hown' hgrow
      go_wp2_with fail
      go_ret
      exact HS.out
end Go.Proofs.YtcingmfeepcpjaaDoor
