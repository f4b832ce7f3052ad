/- Words for slices of bytes that the call itself made: what they hold, append of a byte and of a string, the string that they give. No condition. -/
import Derived.Test.YteiaanaljimghaaMem
import Derived.Lib.AppendStr
import Derived.Laws.IdiomStrings
import Derived.Laws.BytesArg
namespace Go.Proofs.Yteiaanaljimghaa
open Go.RowKit

def byteV (b : UInt8) : Value := .int .u8 (b.toNat : Int)
/-- The slice v holds the bytes bs in a block of its own, from block lo on. -/
def OwnB (w : World) (lo : Nat) (v : Value) (bs : List UInt8) : Prop := w.ownsRow lo 5 1 v bs.length (bs.map byteV)
theorem info_byte : (Try.prog.info? 5).map (fun i => (i.zero, i.size, i.bytes)) = some (some (.int .u8 0), 1, 1) := by kernel_rfl
section
variable {w w' : World} {lo : Nat} {v : Value} {bs : List UInt8}
theorem OwnB.nil (w : World) (lo : Nat) : OwnB w lo (.slice none 0 0) [] := World.ownsRow_nil w lo _ _
theorem OwnB.lt (h : OwnB w lo v bs) : ∀ k, v.ownBlock = some k → lo ≤ k ∧ k < w.heap.size := World.ownsRow.lt h
theorem OwnB.form (h : OwnB w lo v bs) : ∃ A c, v = .slice A bs.length c := by
  rcases h.2 with ⟨rfl, h0⟩ | ⟨g, cap, cur, rfl, _⟩
  · exact ⟨none, 0, by rw [h0]⟩
  · exact ⟨_, cap, rfl⟩
theorem OwnB.mark {row : Option Nat} (h : OwnB w lo v bs) (hg : w.grownBy w' row) (hd : ∀ k k', row = some k → v.ownBlock = some k' → k ≠ k') : OwnB w' lo v bs :=
  World.ownsRow.kept h hg (by
    cases hv : v.ownBlock with
    | none => exact .inl rfl
    | some k' => exact .inr fun e => hd k' k' e.symm hv rfl)
theorem OwnB.all (h : OwnB w lo v bs) (hb : Below w.heap.size w w') : OwnB w' lo v bs := by
  refine ⟨h.1, ?_⟩
  rcases h.2 with h0 | ⟨g, cap, cur, rfl, hbb, hg, r⟩
  · exact .inl h0
  · exact .inr ⟨g, cap, cur, rfl, hbb, (hb.block g (Array.getElem?_eq_some_iff.1 hg).1).trans hg, r⟩
theorem OwnB.alloc (h : OwnB w lo v bs) (o : Obj) : OwnB (w.alloc o) lo v bs := h.all ((Below.refl _ _).alloc (Nat.le_refl _) o)
/-- The string of an owned slice of bytes. -/
theorem OwnB.str {A : Option Addr} {n c : Nat} (h : OwnB w lo (.slice A n c) bs) (src dst : TypeId) {P : Program} (hs : P.underlying src = some (.slice 5)) (he : P.underlying 5 = some (.int .u8)) (hd : P.underlying dst = some .string) :
    (convert src dst (.slice A n c)).run P w = .ok (.string ⟨bs.toArray⟩) w := by
  rcases h.2 with ⟨e, h0⟩ | ⟨g, cap, cur, e, hb, hg, hle, hm, hsz, ht⟩
  · cases e
    obtain rfl := List.eq_nil_of_length_eq_zero h0
    exact run_convert_bytes_nil w src 5 hs he 0 0 dst hd
  · cases e
    refine run_convert_bytes_back w src dst 5 ⟨g, 0, none⟩ c bs hs he hd fun j hj => ?_
    have e : (⟨g, 0, none⟩ : Addr).add j = ⟨g, j, none⟩ := by unfold Addr.add; split <;> simp_all
    rw [e, cell_of_row w g j cur _ (0, 0) hg, ← Array.getElem?_toList]
    have : (cur.toList.take (bs.length * 1))[j]? = (bs.map byteV)[j]? := by rw [ht]
    rw [List.getElem?_take, if_pos (by omega), List.getElem?_map, List.getElem?_eq_getElem hj] at this
    rw [this]; rfl
end
/-- append of one byte. -/
theorem wpList_appendB_one {P : Program} {ops : Array Oper} {rest : List Oper} {o : Oper} {a : Act} {Q : Exit → Act → World → Prop} (w : World) (hgd : o.guard = none) (s x : Operand) (T : TypeId)
    (ho : o.op = .call { callee := .builtin .append, args := #[s, x], argTypes := #[T, T] }) (ht : P.underlying T = some (.slice 5)) (hinfo : (P.info? 5).map (fun i => (i.zero, i.size, i.bytes)) = some (some (.int .u8 0), 1, 1))
    (lo : Nat) (v : Value) (bs : List UInt8) (q : Int) (b : UInt8) (hq : q = (b.toNat : Int))
    (hs : a.eval s = v) (hx : a.eval x = .slice (some ⟨w.heap.size, 0, none⟩) 1 1) (hown : OwnB w lo v bs) (hlen : bs.length ≤ 1073741824) (hlo : lo ≤ w.heap.size)
    (h : ∀ A' c' w', OwnB w' lo (.slice A' (bs.length + 1) c') (bs ++ [b]) → w.grownBy w' v.ownBlock → wpList P ops Q rest (a.put o.dst (.slice A' (bs.length + 1) c')) w') :
    wpList P ops Q (o :: rest) a (w.alloc (.cells #[.int .u8 q] 5)) := by
  subst hq
  obtain ⟨i0, hi, hz0, hz1, hz2⟩ := info_parts hinfo
  refine wpList_append_own _ hgd s x T ho lo 5 i0 (.int .u8 0) 1 1 ht hi hz0 hz1 hz2 rfl (by decide) v bs.length _ hs (hown.alloc _) ⟨w.heap.size, 0, none⟩ 1 1 [byteV b] hx rfl ?_ ?_ ?_ ?_ ?_ ?_
  · intro j u hj
    match j, hj with
    | 0, hj =>
      simp at hj; subst hj
      exact (Blk.new w #[byteV b] 5).cell 0
  · intro u hu; simp at hu; subst hu; rfl
  · unfold maxLen; omega
  · omega
  · simp; omega
  · intro v' w' ho' hg' _
    have hO : OwnB w' lo v' (bs ++ [b]) := by unfold OwnB; simpa using ho'
    obtain ⟨A', c', rfl⟩ := hO.form
    rw [List.length_append] at hO
    have := h A' c' w' hO ⟨hg'.os, hg'.tape, hg'.output, Nat.le_trans (by simp) hg'.size, fun k hk hne => (hg'.block k (by simp; omega) hne).trans (Below.heap_alloc w _ k hk)⟩
    rwa [List.length_append]
/-- append of a string. -/
theorem wpList_appendB_str {P : Program} {ops : Array Oper} {rest : List Oper} {o : Oper} {a : Act} {Q : Exit → Act → World → Prop} (w : World) (hgd : o.guard = none) (s x : Operand) (T U : TypeId)
    (ho : o.op = .call { callee := .builtin .append, args := #[s, x], argTypes := #[T, U] }) (ht : P.underlying T = some (.slice 5)) (hu : P.underlying U = some .string) (hinfo : (P.info? 5).map (fun i => (i.zero, i.size, i.bytes)) = some (some (.int .u8 0), 1, 1))
    (lo : Nat) (v : Value) (bs : List UInt8) (st : ByteArray) (hs : a.eval s = v) (hx : a.eval x = .string st) (hown : OwnB w lo v bs) (hlen : bs.length + st.size ≤ 1073741824) (hlo : lo ≤ w.heap.size)
    (h : ∀ A' c' w', OwnB w' lo (.slice A' (bs.length + st.size) c') (bs ++ st.data.toList) → w.grownBy w' v.ownBlock → wpList P ops Q rest (a.put o.dst (.slice A' (bs.length + st.size) c')) w') :
    wpList P ops Q (o :: rest) a w := by
  obtain ⟨i0, hi, hz0, hz1, hz2⟩ := info_parts hinfo
  refine Lib.wpList_append_own_string w hgd s x T U ho lo 5 i0 ht hu hi hz0 hz1 hz2 v bs.length _ hs hown st hx (by unfold maxLen; omega) (by omega) hlo ?_
  intro v' w' ho' hg' _
  have hl : st.data.toList.length = st.size := by rw [Array.length_toList]; rfl
  have hO : OwnB w' lo v' (bs ++ st.data.toList) := by
    unfold OwnB
    rw [List.length_append, hl, List.map_append]
    exact ho'
  obtain ⟨A', c', rfl⟩ := hO.form
  rw [List.length_append, hl] at hO
  have := h A' c' w' hO hg'
  rwa [List.length_append, hl]
end Go.Proofs.Yteiaanaljimghaa
