/- Slices of strings: how they lie in memory, and the walks of the laws' own helpers over them: copy, size, equality, marking, holding. Condition: at most 1048576 elements. -/
import Derived.Test.YtdfijojkkmpllaaSeq
import Derived.Test.YtdfijojkkmpllaaHelp
import Derived.Test.YtdfijojkkmpllaaMark
namespace Go.Proofs.Ytdfijojkkmpllaa
open Go.RowKit

def strF : Flat ByteArray where
  t := 9
  k := 1
  enc s := [.string s]
  ok s := s.size ≤ maxLen
  len _ := rfl
  one _ v hv := by simp at hv; subst hv; rfl
theorem info_str : (Try.prog.info? 9).map (fun i => (i.zero, i.size, i.bytes)) = some (some (.string ⟨#[]⟩), 1, 16) := by kernel_rfl
theorem strF_flat (P : List ByteArray) : P.flatMap strF.enc = P.map Value.string := by
  induction P with
  | nil => rfl
  | cons x xs ih => rw [List.flatMap_cons, ih]; rfl
section
variable {w w' : World} {lo B n c : Nat} {A : Option Addr} {xs : List ByteArray}
theorem strs_at {j : Nat} (h : RdF strF w B A n c xs) (hj : j < n) : ∃ b off s, A = some ⟨b, off, none⟩ ∧ b < B ∧ s.size ≤ maxLen ∧ w.cell? ⟨b, off + j, none⟩ = some (.string s) ∧ Hid (xs[j]? = some s) := by
  obtain ⟨b, off, a, rfl, hb, ha, hx, hc⟩ := h.at hj
  have h0 := hc.out 0 _ rfl
  rw [show off + (j * strF.k + 0) = off + j by rw [show strF.k = 1 from rfl]; omega] at h0
  exact ⟨b, off, a, rfl, hb, ha, h0, hx⟩
theorem strs_put {g j : Nat} (h : OwnF strF w lo (.slice (some ⟨g, 0, none⟩) n c) xs) (hj : j < xs.length) (a : ByteArray) (ha : a.size ≤ maxLen) :
    OwnF strF (w.setCell ⟨g, j, none⟩ (.string a)) lo (.slice (some ⟨g, 0, none⟩) n c) (xs.set j a) ∧ w.grownBy (w.setCell ⟨g, j, none⟩ (.string a)) (some g) := by
  have H := h.put hj a ha
  rw [show j * strF.k = j from Nat.mul_one j] at H
  exact H
theorem strs_there {g j : Nat} (h : OwnF strF w lo (.slice (some ⟨g, 0, none⟩) n c) xs) (hj : j < xs.length) : (∃ y, w.cell? ⟨g, j, none⟩ = some y) ∧ w.frozen? ⟨g, j, none⟩ = false := by
  obtain ⟨y, hy⟩ := h.there hj (i := 0) (by decide)
  rw [show j * strF.k + 0 = j from Nat.mul_one j] at hy
  exact ⟨⟨y, hy⟩, h.frozen j⟩
theorem own_strs {v : Value} {P : List ByteArray} (h : w.ownsRow lo 9 1 v P.length (P.map Value.string)) (hP : ∀ x ∈ P, x.size ≤ maxLen) : OwnF strF w lo v P :=
  ⟨by rw [strF_flat]; exact h, hP⟩
end

set_option maxRecDepth 100000 in
set_option maxHeartbeats 1000000 in
theorem toStringS_any (A : Option Addr) (n c B : Nat) (xs : List ByteArray) (w : World) (h : RdF strF w B A n c xs) (hB : B ≤ w.heap.size) (hn : n ≤ 1048576) :
    Calls Try.prog 20 #[.slice A n c] w (CopiedF strF w xs) := by
  obtain ⟨i0, hi, hz0, hz1, hz2⟩ := info_parts info_str
  have hl := h.len
  subst hl
  go_enter Try.func20, Try.ntmps20
  go_wp2_with (at_make; refine wpList_make_full _ rfl _ _ 26 rfl w.heap.size 9 i0 (.string ⟨#[]⟩) 1 Try.underlying26 hi hz0 hz1 _ _ _ _ xs.length rfl rfl rfl rfl (by rw [hz2]; omega) (by unfold maxLen; omega) (Nat.le_refl _) ?_)
  intro w0 hown0 hgrow0
  go_wp2
  go_loopw [4] (fun i wr => ∃ (k : Nat) (ys : List ByteArray), k ≤ xs.length ∧ i = .int .i64 k ∧ ys.length = xs.length ∧ ys.take k = xs.take k ∧
      OwnF strF wr w.heap.size (.slice (some ⟨w.heap.size, 0, none⟩) xs.length xs.length) ys ∧ Below w.heap.size w wr)
    (fun i _ => xs.length - (intOf i).toNat)
  case atStart =>
    refine ⟨0, List.replicate xs.length ⟨#[]⟩, Nat.zero_le _, rfl, by simp, by simp, ⟨?_, fun x hx => ?_⟩, (Below.refl _ _).grown hgrow0 (Nat.le_refl _) (fun k h => by cases h)⟩
    · rw [List.length_replicate, ← flat_made strF (cs := (Value.string ⟨#[]⟩ : Value).cells) (by decide) rfl, show xs.length * strF.k = xs.length from Nat.mul_one _]; exact hown0
    · rw [List.eq_of_mem_replicate hx]; exact Nat.zero_le _
  case round =>
    obtain ⟨k, ys, hk, rfl, hyl, hyt, hown, hb⟩ := hrel
    by_cases hlt : k < xs.length
    · obtain ⟨b, off, s, rfl, hbB, hs, hc, HX⟩ := strs_at h hlt
      have hx := cells_of hb hc (by omega)
      obtain ⟨⟨y, hy⟩, hf⟩ := strs_there hown (j := k) (by omega)
      have HP := strs_put hown (j := k) (by omega) s hs
      have HY := Lib.hid (take_step HX.out hyl hyt)
      have HL := Lib.hid hyl
      clear hc hyl hyt
      go_wp2
      go_roundw
      case rel => exact ⟨k + 1, ys.set k s, by omega, by go_num, by rw [List.length_set]; exact HL.out, HY.out, HP.1, hb.grown HP.2 hb.size (fun j hj => by cases hj; omega)⟩
      case measure => simp [intOf]; omega
    · go_wp2
      go_ret
      have e : ys = xs := by rw [List.take_of_length_le (by omega), List.take_of_length_le (by omega)] at hyt; exact hyt
      subst e
      exact ⟨_, rfl, hown, hb⟩

/-- How much the strings hold. -/
def bulkStr (xs : List ByteArray) : Nat := (xs.map ByteArray.size).sum
theorem bulkStr_step {xs : List ByteArray} {k : Nat} {a : ByteArray} (h : xs[k]? = some a) : bulkStr (xs.take (k + 1)) = bulkStr (xs.take k) + a.size ∧ bulkStr (xs.take (k + 1)) ≤ bulkStr xs := by
  obtain ⟨hk, rfl⟩ := List.getElem?_eq_some_iff.1 h
  have e : bulkStr (xs.take (k + 1)) + bulkStr (xs.drop (k + 1)) = bulkStr xs := by
    unfold bulkStr
    rw [← List.sum_append_nat, ← List.map_append, List.take_append_drop]
  refine ⟨?_, by omega⟩
  unfold bulkStr
  rw [List.take_succ_eq_append_getElem hk, List.map_append, List.sum_append_nat]
  simp only [List.map_cons, List.map_nil, List.sum_cons, List.sum_nil, Nat.add_zero]
set_option maxRecDepth 100000 in
set_option maxHeartbeats 1000000 in
theorem szStringS_yes (A : Option Addr) (n c B : Nat) (xs : List ByteArray) (k : Int) (w : World) (h : RdF strF w B A n c xs) (_hB : B ≤ w.heap.size) (hs : ((n + bulkStr xs : Nat) : Int) ≤ k) (hk : k ≤ 1048576) :
    Calls Try.prog 19 #[.slice A n c, .int .i64 k] w (Out w (.int .i64 (k - ((n + bulkStr xs : Nat) : Int)))) := by
  go_enter Try.func19, Try.ntmps19
  go_wp2
  go_loopw [1, 5] (fun l i wr => ∃ j : Nat, j ≤ n ∧ i = .int .i64 j ∧ l = .int .i64 (k - n - ((bulkStr (xs.take j) : Nat) : Int)) ∧ bulkStr (xs.take j) ≤ bulkStr xs ∧ w = wr) (fun _ i _ => n - (intOf i).toNat)
  case atStart => exact ⟨0, Nat.zero_le _, rfl, by simp [bulkStr], by simp [bulkStr], rfl⟩
  case round =>
    obtain ⟨j, hj, rfl, rfl, hle, rfl⟩ := hrel
    by_cases hlt : j < n
    · obtain ⟨b, off, s, rfl, hbB, hss, hc, HX⟩ := strs_at h hlt
      have hst := bulkStr_step HX.out
      obtain ⟨T, HT⟩ : ∃ T, Hid (bulkStr (xs.take j) = T) := ⟨_, rfl⟩
      obtain ⟨T', HT'⟩ : ∃ T', Hid (bulkStr (xs.take (j + 1)) = T') := ⟨_, rfl⟩
      rw [HT.out] at hst hle ⊢
      rw [HT'.out] at hst
      obtain ⟨hs1, hs2⟩ := hst
      have HS1 := Lib.hid hs1
      have hs3 : T + s.size ≤ T' := by omega
      clear hs1
      go_wp2
      go_roundw
      case rel => exact ⟨j + 1, by omega, by go_num, by rw [HT'.out]; have := HS1.out; go_num, by rw [HT'.out]; exact hs2, trivial⟩
      case measure => simp [intOf]; omega
    · obtain rfl : j = n := by omega
      have hT : bulkStr (xs.take j) = bulkStr xs := by rw [List.take_of_length_le (by rw [h.len]; exact Nat.le_refl _)]
      go_wp2
      go_ret
      exact ⟨ret_int (by rw [hT]; omega), Below.refl _ _⟩
set_option maxRecDepth 100000 in
set_option maxHeartbeats 1000000 in
theorem szStringS_no (A : Option Addr) (n c B : Nat) (xs : List ByteArray) (k : Int) (w : World) (h : RdF strF w B A n c xs) (_hB : B ≤ w.heap.size) (hs : ¬ ((n + bulkStr xs : Nat) : Int) ≤ k) (h0 : 0 ≤ k) (hk : k ≤ 1048576) :
    Calls Try.prog 19 #[.slice A n c, .int .i64 k] w (Out w (.int .i64 (-1))) := by
  have hlen := h.len_lt
  by_cases hnk : (n : Int) ≤ k
  · go_enter Try.func19, Try.ntmps19
    go_wp2
    go_loopw [1, 5] (fun l i wr => ∃ j : Nat, j ≤ n ∧ i = .int .i64 j ∧ l = .int .i64 (k - n - ((bulkStr (xs.take j) : Nat) : Int)) ∧ ((n + bulkStr (xs.take j) : Nat) : Int) ≤ k ∧ w = wr) (fun _ i _ => n - (intOf i).toNat)
    case atStart => exact ⟨0, Nat.zero_le _, rfl, by simp [bulkStr], by simpa [bulkStr] using hnk, rfl⟩
    case round =>
      obtain ⟨j, hj, rfl, rfl, hle, rfl⟩ := hrel
      by_cases hlt : j < n
      · obtain ⟨b, off, s, rfl, hbB, hss, hc, HX⟩ := strs_at h hlt
        have hst := (bulkStr_step HX.out).1
        obtain ⟨T, HT⟩ : ∃ T, Hid (bulkStr (xs.take j) = T) := ⟨_, rfl⟩
        obtain ⟨T', HT'⟩ : ∃ T', Hid (bulkStr (xs.take (j + 1)) = T') := ⟨_, rfl⟩
        rw [HT.out] at hst hle ⊢
        rw [HT'.out] at hst
        have HS1 := Lib.hid hst
        unfold maxLen at hss
        clear hst
        by_cases hfit : (s.size : Int) ≤ k - n - (T : Int)
        · go_wp2
          go_roundw
          case rel => exact ⟨j + 1, by omega, by go_num, by rw [HT'.out]; have := HS1.out; go_num, by rw [HT'.out]; have := HS1.out; omega, trivial⟩
          case measure => simp [intOf]; omega
        · have hfit' : k - (n : Int) - (T : Int) - (s.size : Int) < 0 := by omega
          go_wp2
          go_ret
          exact ⟨rfl, Below.refl _ _⟩
      · obtain rfl : j = n := by omega
        rw [List.take_of_length_le (by rw [h.len]; exact Nat.le_refl _)] at hle
        omega
  · have hneg : k - (n : Int) < 0 := by omega
    go_enter Try.func19, Try.ntmps19
    go_wp2
    go_ret
    exact ⟨rfl, Below.refl _ _⟩

set_option maxRecDepth 100000 in
set_option maxHeartbeats 400000 in
theorem eqStringS_same (A A' : Option Addr) (n c n' c' B B' : Nat) (xs : List ByteArray) (w : World) (h : RdF strF w B A n c xs) (h' : RdF strF w B' A' n' c' xs) :
    Calls Try.prog 16 #[.slice A n c, .slice A' n' c'] w (Out w (.bool true)) := by
  have hn := h.len_lt
  obtain rfl : n' = n := by rw [← h.len, ← h'.len]
  go_enter Try.func16, Try.ntmps16
  go_wp2
  go_loopw [5] (fun i wr => ∃ k q : Nat, k ≤ n' ∧ i = .int .i64 k ∧ wr = w.drewN q) (fun i _ => n' - (intOf i).toNat)
  case atStart => exact ⟨0, 0, Nat.zero_le _, rfl, rfl⟩
  case round =>
    obtain ⟨k, q, hk, rfl, rfl⟩ := hrel
    by_cases hlt : k < n'
    · obtain ⟨b, off, s, rfl, _, _, hc, HX⟩ := strs_at h hlt
      obtain ⟨b', off', s', rfl, _, _, hc', HX'⟩ := strs_at h' hlt
      obtain rfl : s' = s := Option.some.inj (HX'.out.symm.trans HX.out)
      go_wp2
      go_quiet (fail)
      go_wp2
      go_roundw
      case rel => exact ⟨k + 1, _, by omega, by go_num, rfl⟩
      case measure => simp [intOf]; omega
    · go_wp2
      go_ret
      exact ⟨rfl, low_drewN w q⟩

/-- The marks from k on. -/
def marksT (k : Int) (n : Nat) : List ByteArray := (List.range n).map fun j : Nat => mtext (k + (j : Int))
theorem marksT_len (k : Int) (n : Nat) : (marksT k n).length = n := by simp [marksT]
theorem marksT_get {k : Int} {n j : Nat} (h : j < n) : (marksT k n)[j]? = some (mtext (k + (j : Int))) := by simp [marksT, h]
theorem marksT_ok {k : Int} {n : Nat} (h0 : 0 ≤ k) (h1 : k + n ≤ 4294967296) : ∀ x ∈ marksT k n, x.size ≤ maxLen := by
  intro x hx
  simp only [marksT, List.mem_map, List.mem_range] at hx
  obtain ⟨j, hj, rfl⟩ := hx
  exact mtext_size _ (by omega) (by omega)
/-- What marking leaves: the slice's own block alone has turned (and what the digits' making laid beyond). -/
def MarkedT (w : World) (lo : Nat) (v : Value) (k : Int) (n : Nat) (e : Ending) (w' : World) : Prop :=
  e = .returned (.int .i64 (k + n)) ∧ OwnF strF w' lo v (marksT k n) ∧ w.grownBy w' v.ownBlock
set_option maxRecDepth 100000 in
set_option maxHeartbeats 1000000 in
theorem markStringS_any (A : Option Addr) (n c : Nat) (k : Int) (w : World) (lo : Nat) (xs : List ByteArray) (h : OwnF strF w lo (.slice A n c) xs) (hl : xs.length = n) (hn : n ≤ 1048576) (h0 : 1 ≤ k) (h1 : k ≤ 1073741824) :
    Calls Try.prog 17 #[.slice A n c, .int .i64 k] w (MarkedT w lo (.slice A n c) k n) := by
  go_enter Try.func17, Try.ntmps17
  go_wp2
  go_loopw [1, 5] (fun kk i wr => ∃ (j : Nat) (ys : List ByteArray), j ≤ n ∧ i = .int .i64 j ∧ kk = .int .i64 (k + j) ∧ ys.length = n ∧ ys.take j = (marksT k n).take j ∧
      OwnF strF wr lo (.slice A n c) ys ∧ w.grownBy wr (Value.slice A n c).ownBlock)
    (fun _ i _ => n - (intOf i).toNat)
  case atStart => exact ⟨0, xs, Nat.zero_le _, rfl, by go_num, hl, by simp, h, World.grownBy.refl _ _⟩
  case round =>
    obtain ⟨j, ys, hj, rfl, rfl, hyl, hyt, hown, hg⟩ := hrel
    by_cases hlt : j < n
    · obtain ⟨g, rfl, _, hgz⟩ := hown.some_ (by omega)
      have HY := Lib.hid (take_step (marksT_get (k := k) hlt) (by rw [marksT_len]; exact hyl) hyt)
      have HL := Lib.hid hyl
      have hyl' : j < ys.length := by omega
      clear hyl hyt
      go_wp2_with fail
      refine (markText_any (k + j) _ (by omega) (by omega)).mono ?_
      rintro e w1 ⟨rfl, hb1⟩
      have hown1 := hown.all hb1
      have hg1 := grown_then hg hb1
      obtain ⟨⟨y, hy⟩, hf⟩ := strs_there hown1 hyl'
      have HP := strs_put hown1 hyl' (mtext (k + j)) (mtext_size _ (by omega) (by omega))
      have HG := grown_trans hg1 HP.2
      clear hown hg hb1
      go_wp2
      go_roundw
      case rel => exact ⟨j + 1, _, by omega, by go_num, by go_num, by rw [List.length_set]; exact HL.out, HY.out, HP.1, HG⟩
      case measure => simp [intOf]; omega
    · obtain rfl : j = n := by omega
      have e : ys = marksT k j := by rw [List.take_of_length_le (by omega), List.take_of_length_le (by rw [marksT_len]; omega)] at hyt; exact hyt
      subst e
      go_wp2
      go_ret
      exact ⟨rfl, hown, hg⟩
set_option maxRecDepth 100000 in
set_option maxHeartbeats 1000000 in
theorem heldStringS_any (A : Option Addr) (n c B : Nat) (k : Int) (w : World) (h : RdF strF w B A n c (marksT k n)) (hB : B ≤ w.heap.size) (hn : n ≤ 1048576) (h0 : 1 ≤ k) (h1 : k ≤ 1073741824) :
    Calls Try.prog 18 #[.slice A n c, .int .i64 k] w (Out w (.int .i64 (k + n))) := by
  go_enter Try.func18, Try.ntmps18
  go_wp2
  go_loopw [1, 5] (fun kk i wr => ∃ j : Nat, j ≤ n ∧ i = .int .i64 j ∧ kk = .int .i64 (k + j) ∧ Below w.heap.size w wr) (fun _ i _ => n - (intOf i).toNat)
  case atStart => exact ⟨0, Nat.zero_le _, rfl, by go_num, Below.refl _ _⟩
  case round =>
    obtain ⟨j, hj, rfl, rfl, hb⟩ := hrel
    by_cases hlt : j < n
    · obtain ⟨b, off, s, rfl, hbB, hs, hc, HX⟩ := strs_at h hlt
      obtain rfl : s = mtext (k + (j : Int)) := Option.some.inj (HX.out.symm.trans (marksT_get hlt))
      have hx := cells_of hb hc (by omega)
      have hbz := hb.size
      have hbr : b < wr.heap.size := by omega
      clear hc HX
      go_wp2
      go_region_held3 (fun w' => w'.cell? ⟨b, off + j, none⟩ = some (.string (mtext (k + (j : Int))))) (first | exact hx | go_keep) ((go_at_call 29; refine (markText_any (k + j) _ (by omega) (by omega)).mono ?_; rintro e w1 ⟨rfl, hb1⟩; have hb2 : Below wr.heap.size wr w1 := below_drew hb1; have hbc := (bcell hb2).1))
      have hbz := hb.trans (hb2.mono hb.size)
      go_wp2
      go_roundw
      case rel => exact ⟨j + 1, by omega, by go_num, by go_num, hbz⟩
      case measure => simp [intOf]; omega
    · obtain rfl : j = n := by omega
      go_wp2
      go_ret
      exact ⟨rfl, hb⟩

/-- append of one string to a slice of the call's own. -/
theorem wpList_append_s {P : Program} {ops : Array Oper} {rest : List Oper} {o : Oper} {a : Act} {Q : Exit → Act → World → Prop} (w : World) (hgd : o.guard = none) (s x : Operand) (T : TypeId)
    (ho : o.op = .call { callee := .builtin .append, args := #[s, x], argTypes := #[T, T] }) (ht : P.underlying T = some (.slice 9)) (hinfo : (P.info? 9).map (fun i => (i.zero, i.size, i.bytes)) = some (some (.string ⟨#[]⟩), 1, 16))
    (lo : Nat) (v : Value) (xs : List ByteArray) (q : ByteArray)
    (hs : a.eval s = v) (hx : a.eval x = .slice (some ⟨w.heap.size, 0, none⟩) 1 1) (hown : OwnF strF w lo v xs) (hlen : xs.length ≤ 1073741824) (hq : q.size ≤ maxLen) (hlo : lo ≤ w.heap.size)
    (h : ∀ A' c' w', OwnF strF w' lo (.slice A' (xs.length + 1) c') (xs ++ [q]) → w.grownBy w' v.ownBlock → wpList P ops Q rest (a.put o.dst (.slice A' (xs.length + 1) c')) w') :
    wpList P ops Q (o :: rest) a (w.alloc (.cells #[.string q] 9)) := by
  obtain ⟨i0, hi, hz0, hz1, hz2⟩ := info_parts hinfo
  refine wpList_append_own _ hgd s x T ho lo 9 i0 (.string ⟨#[]⟩) 1 16 ht hi hz0 hz1 hz2 rfl (by decide) v xs.length _ hs (hown.alloc _).1 ⟨w.heap.size, 0, none⟩ 1 1 [.string q] hx rfl ?_ ?_ ?_ ?_ ?_ ?_
  · intro j u hj
    match j, hj with
    | 0, hj =>
      simp at hj; subst hj
      rw [show (⟨w.heap.size, 0, none⟩ : Addr).add 0 = ⟨w.heap.size, 0, none⟩ from rfl, (Blk.new w #[.string q] _).cell]; rfl
  · intro u hu; simp at hu; subst hu; rfl
  · unfold maxLen; omega
  · omega
  · simp; omega
  · intro v' w' ho' hg' _
    have hO : OwnF strF w' lo v' (xs ++ [q]) := ⟨by
      rw [strF_flat] at ho' ⊢
      show w'.ownsRow lo 9 1 v' _ _
      simpa using ho', fun y hy => by
      rcases List.mem_append.1 hy with hy | hy
      · exact hown.2 y hy
      · simp at hy; subst hy; exact hq⟩
    obtain ⟨A', c', rfl, _, _⟩ := hO.form
    rw [List.length_append] at hO
    have := h A' c' w' hO ⟨hg'.os, hg'.tape, hg'.output, Nat.le_trans (by simp) hg'.size, fun k hk hne => (hg'.block k (by simp; omega) hne).trans (Below.heap_alloc w _ k hk)⟩
    rwa [List.length_append]
end Go.Proofs.Ytdfijojkkmpllaa
