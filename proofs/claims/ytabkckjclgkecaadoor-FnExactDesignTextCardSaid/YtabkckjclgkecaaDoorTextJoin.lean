/- Texts put together with a sign between; numbers told by the library; append of a text. Condition: the library's table stands as its text says, where it is asked. -/
import Derived.Test.YtabkckjclgkecaaDoorStrs
import Derived.Test.YtabkckjclgkecaaDoorTab
import Derived.Lib.Join
import Derived.BigQuiet
import Derived.Deep.RegionHeld3
import Derived.RegionTactic
import Derived.BigRegion
namespace Go.Proofs.YtabkckjclgkecaaDoor
open Go.RowKit

theorem bytes_catJ (a b : ByteArray) : (a ++ b).data.toList = a.data.toList ++ b.data.toList := by rw [ByteArray.data_append, Array.toList_append]
/-- The first texts of a list, a sign between them. -/
def joinTo (sep : UInt8) (ts : List ByteArray) : Nat → ByteArray
  | 0 => ⟨#[]⟩
  | k + 1 => match ts[k]? with
    | some t => (if k = 0 then joinTo sep ts k else joinTo sep ts k ++ ⟨#[sep]⟩) ++ t
    | none => joinTo sep ts k
theorem joinTo_succ {sep : UInt8} {ts : List ByteArray} {k : Nat} {t : ByteArray} (h : ts[k]? = some t) : joinTo sep ts (k + 1) = (if k = 0 then joinTo sep ts k else joinTo sep ts k ++ ⟨#[sep]⟩) ++ t := by rw [joinTo, h]
theorem joinTo_size {sep : UInt8} {ts : List ByteArray} {m : Nat} (hm : ∀ t ∈ ts, t.size ≤ m) : ∀ k, (joinTo sep ts k).size ≤ (m + 1) * k := by
  intro k
  induction k with
  | zero => simp [joinTo, ByteArray.size]
  | succ k ih =>
    cases h : ts[k]? with
    | none =>
      have e : joinTo sep ts (k + 1) = joinTo sep ts k := by rw [joinTo, h]
      rw [e, Nat.mul_succ]; omega
    | some t =>
      have h1 := hm t (List.mem_of_getElem? h)
      have e1 : (⟨#[sep]⟩ : ByteArray).size = 1 := rfl
      rw [joinTo_succ h, ByteArray.size_append, Nat.mul_succ]
      split
      · omega
      · rw [ByteArray.size_append]; omega
theorem join_toJ {sep : UInt8} {ts : List ByteArray} : ∀ k, k ≤ ts.length → Lib.join ((ts.take k).map (·.data.toList)) [sep] = (joinTo sep ts k).data.toList := by
  intro k
  induction k with
  | zero => intro _; rfl
  | succ k ih =>
    intro hk
    obtain ⟨p, hq⟩ : ∃ p, ts[k]? = some p := ⟨_, List.getElem?_eq_getElem (by omega)⟩
    have IH := ih (by omega)
    rw [joinTo_succ hq]
    cases hx : ts with
    | nil => rw [hx] at hq; simp at hq
    | cons x r =>
      cases k with
      | zero =>
        rw [hx] at hq
        simp at hq
        subst hq
        simp [Lib.join_one, joinTo]
      | succ k =>
        rw [hx] at hq IH
        simp only [List.getElem?_cons_succ] at hq
        simp only [List.take_succ_cons, List.map_cons] at IH ⊢
        rw [Lib.join_cons] at IH ⊢
        have ht : (r.map (·.data.toList))[k]? = some p.data.toList := by simp [hq]
        rw [List.map_take] at IH ⊢
        rw [Lib.joinTail_take_succ [sep] _ k _ ht, ← List.append_assoc, ← List.append_assoc, IH, if_neg (by omega)]
        simp
theorem join_allJ (sep : UInt8) (ts : List ByteArray) : (⟨(Lib.join (ts.map (·.data.toList)) [sep]).toArray⟩ : ByteArray) = joinTo sep ts ts.length := by
  have := join_toJ (sep := sep) (ts := ts) ts.length (Nat.le_refl _)
  rw [List.take_of_length_le (Nat.le_refl _)] at this
  rw [this]
theorem itoa_anyJ (n : Int) (w : World) (h0 : -999999 ≤ n) (h1 : n ≤ 999999) (ht : Tab w) : Calls Tryd.prog 20 #[.int .i64 n] w fun e w' => e = .returned (.string (numB n)) ∧ Below w.heap.size w w' := by
  refine (Tryd.strconv_Itoa n (by omega) (by omega) w ht.tab).mono ?_
  rintro e w' ⟨rfl, k, os, rfl⟩
  exact ⟨rfl, below_grow _ _ _⟩
/-- The library's Join, over a list of texts of the call's own. -/
theorem joinS_any (sep : UInt8) (A : Option Addr) (c lo : Nat) (ts : List ByteArray) (w : World) (own : OwnF strF w lo (.slice A ts.length c) ts) (hn : ts.length ≤ 1000) (hs : (joinTo sep ts ts.length).size ≤ 1000000) :
    Calls Tryd.prog 14 #[.slice A ts.length c, .string ⟨#[sep]⟩] w (Out w (.string (joinTo sep ts ts.length))) := by
  cases ts with
  | nil =>
    refine (Tryd.strings_Join_none A c ⟨#[sep]⟩ w).mono ?_
    rintro e w' ⟨rfl, rfl⟩
    exact ⟨rfl, Below.refl _ _⟩
  | cons t r =>
    obtain ⟨g, rfl, hg1, hg2⟩ := own.some_ (by simp)
    have HA := join_allJ sep (t :: r)
    have hcap := own.rd.cap
    have hcall := Tryd.strings_Join g 0 c (t :: r) ⟨#[sep]⟩ w (fun j x hj => by
      have := own.cell (i := 0) hj rfl
      rw [show strF.k = 1 from rfl, Nat.mul_one, Nat.add_zero] at this
      rw [Nat.zero_add]
      exact this) hg2 (by omega) hcap (by
      have e := congrArg ByteArray.size HA
      have e2 : (⟨(Lib.join ((t :: r).map (·.data.toList)) [sep]).toArray⟩ : ByteArray).size = (Lib.join ((t :: r).map (·.data.toList)) [sep]).length := by simp [ByteArray.size]
      show (Lib.join ((t :: r).map (·.data.toList)) [sep]).length ≤ _
      omega)
    rw [show (⟨#[sep]⟩ : ByteArray).data.toList = [sep] from rfl, HA] at hcall
    refine hcall.mono ?_
    rintro e w7 ⟨rfl, hb7⟩
    exact ⟨rfl, hb7⟩
theorem wp_append_s {P : Program} {o : Oper} {a : Act} {K : Act → World → Prop} {Q : Exit → Act → World → Prop} (w : World) (s x : Operand) (T : TypeId)
    (ho : o.op = .call { callee := .builtin .append, args := #[s, x], argTypes := #[T, T] }) (ht : P.underlying T = some (.slice 9)) (hinfo : (P.info? 9).map (fun i => (i.zero, i.size, i.bytes)) = some (some (.string ⟨#[]⟩), 1, 16))
    (lo n : Nat) (v : Value) (xs : List ByteArray) (q : ByteArray) (hn : xs.length = n)
    (hs : a.eval s = v) (hx : a.eval x = .slice (some ⟨w.heap.size, 0, none⟩) 1 1) (hown : OwnF strF w lo v xs) (hlen : n ≤ 1073741824) (hq : q.size ≤ maxLen) (hlo : lo ≤ w.heap.size)
    (h : ∀ A' c' w', OwnF strF w' lo (.slice A' (n + 1) c') (xs ++ [q]) → w.grownBy w' v.ownBlock → K (a.put o.dst (.slice A' (n + 1) c')) w') :
    o.wp P a (w.alloc (.cells #[.string q] 9)) K Q := by
  subst hn
  obtain ⟨i0, hi, hz0, hz1, hz2⟩ := info_parts hinfo
  refine wp_append_own _ s x T ho lo 9 i0 (.string ⟨#[]⟩) 1 16 ht hi hz0 hz1 hz2 rfl (by decide) v xs.length _ hs (hown.alloc _).1 ⟨w.heap.size, 0, none⟩ 1 1 [.string q] hx rfl ?_ ?_ ?_ ?_ ?_ ?_
  · intro j u hj
    match j, hj with
    | 0, hj =>
      simp at hj; subst hj
      exact (Blk.new w #[.string q] 9).cell 0
  · intro u hu; simp at hu; subst hu; rfl
  · unfold maxLen; omega
  · omega
  · simp; omega
  · intro v' w' ho' hg' _
    have hO : OwnF strF w' lo v' (xs ++ [q]) := ⟨by
      rw [strF_flat] at ho' ⊢
      show w'.ownsRow lo 9 1 v' _ _
      simpa using ho', fun y hy => by
      rcases List.mem_append.1 hy with hy | hy
      · exact hown.2 y hy
      · simp at hy; subst hy; exact hq⟩
    obtain ⟨A', c', rfl, _, _⟩ := hO.form
    rw [List.length_append] at hO
    have := h A' c' w' hO ⟨hg'.os, hg'.tape, hg'.output, Nat.le_trans (by simp) hg'.size, fun k hk hne => (hg'.block k (by simp; omega) hne).trans (Below.heap_alloc w _ k hk)⟩
    rwa [List.length_append]
theorem wpList_append_sN {P : Program} {ops : Array Oper} {rest : List Oper} {o : Oper} {a : Act} {Q : Exit → Act → World → Prop} (w : World) (hgd : o.guard = none) (s x : Operand) (T : TypeId)
    (ho : o.op = .call { callee := .builtin .append, args := #[s, x], argTypes := #[T, T] }) (ht : P.underlying T = some (.slice 9)) (hinfo : (P.info? 9).map (fun i => (i.zero, i.size, i.bytes)) = some (some (.string ⟨#[]⟩), 1, 16))
    (lo n : Nat) (v : Value) (xs : List ByteArray) (q : ByteArray) (hn : xs.length = n)
    (hs : a.eval s = v) (hx : a.eval x = .slice (some ⟨w.heap.size, 0, none⟩) 1 1) (hown : OwnF strF w lo v xs) (hlen : n ≤ 1073741824) (hq : q.size ≤ maxLen) (hlo : lo ≤ w.heap.size)
    (h : ∀ A' c' w', OwnF strF w' lo (.slice A' (n + 1) c') (xs ++ [q]) → w.grownBy w' v.ownBlock → wpList P ops Q rest (a.put o.dst (.slice A' (n + 1) c')) w') :
    wpList P ops Q (o :: rest) a (w.alloc (.cells #[.string q] 9)) :=
  wpList_plain hgd fun _ hK => wp_append_s w s x T ho ht hinfo lo n v xs q hn hs hx hown hlen hq hlo (fun A' c' w' h1 h2 => hK _ _ (h A' c' w' h1 h2))
end Go.Proofs.YtabkckjclgkecaaDoor
