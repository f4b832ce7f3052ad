/- copy of elements of some cells each into a row of the call's own, as a step of a walk and of a region that draws its order; numbers as such elements. No condition. -/
import Derived.Test.YtihhlldpdfihfaaAppF
import Derived.Test.YtihhlldpdfihfaaCopyStep
namespace Go.Proofs.Ytihhlldpdfihfaa
open Go.RowKit

theorem run_copy_rowK {P : Program} (w : World) (dT sT ty elem : TypeId) (k g o dLen dCap : Nat) (a : Addr) (sLen sCap m : Nat) (cur : Array Value) (t : TypeId) (cs : List Value)
    (hu : P.underlying dT = some (.slice elem)) (hs : (P.info? elem).map (·.size) = some k)
    (hg : w.heap[g]? = some (.cells cur t (0, 0))) (hm : Nat.min sLen dLen = m) (hn : cs.length = m * k)
    (hsrc : ∀ j v, cs[j]? = some v → w.cell? (a.add j) = some v) (hfit : o + cs.length ≤ cur.size) (h1 : ∀ v ∈ cs, v.oneCell' = true) :
    (Builtin.copy_ #[dT, sT] ty #[.slice (some ⟨g, o, none⟩) dLen dCap, .slice (some a) sLen sCap]).run P w =
      .ok (goInt m) (w.setRow g (cur.toList.take o ++ cs ++ cur.toList.drop (o + cs.length)).toArray) := by
  have hl := run_loadCells_list (P := P) w a cs hsrc
  have hst := run_storeCells_at P g o t cs 0 cur w hg (by simpa using hfit) h1
  cases hq : P.info? elem with
  | none => simp [hq] at hs
  | some i =>
    have hi : i.size = k := by simpa [hq] using hs
    simp [Builtin.copy_, run_underlying hu, Builtin.lenOf, Builtin.firstCells, sizeOf, typeInfo, hq, hi, hm, ← hn, hl, hst]
section
variable {α : Type} {F : Flat α}
theorem splice_flat {enc : α → List Value} {k : Nat} (h : ∀ a, (enc a).length = k) (zs row : List α) (i : Nat) :
    splice (zs.flatMap enc) (i * k) (row.flatMap enc) = (splice zs i row).flatMap enc := by
  unfold splice
  rw [List.flatMap_append, List.flatMap_append, flat_take h, flat_len h, ← Nat.add_mul, flat_drop h]
/-- What a copy of elements leaves. -/
theorem run_copyF {P : Program} (F : Flat α) (w : World) (dT sT ty : TypeId) (hu : P.underlying dT = some (.slice F.t)) (hsz : (P.info? F.t).map (·.size) = some F.k) (hk : 0 < F.k)
    (lo g c i : Nat) (dLen dCap sLen sCap m b off B : Nat) (zs ys row : List α) (hown : OwnF F w lo (.slice (some ⟨g, 0, none⟩) zs.length c) zs)
    (hy : RdF F w B (some ⟨b, off, none⟩) sLen sCap ys) (hm : Nat.min sLen dLen = m) (hrow : row = ys.take m) (hfit : i + m ≤ zs.length) :
    ∃ w', (Builtin.copy_ #[dT, sT] ty #[.slice (some ⟨g, i * F.k, none⟩) dLen dCap, .slice (some ⟨b, off, none⟩) sLen sCap]).run P w = .ok (goInt m) w' ∧
      OwnF F w' lo (.slice (some ⟨g, 0, none⟩) zs.length c) (splice zs i row) ∧ w.grownBy w' (some g) := by
  subst hrow
  have hms : m ≤ sLen := by rw [← hm]; exact Nat.min_le_left _ _
  have hl := hy.len
  have hrl : (ys.take m).length = m := by rw [List.length_take]; omega
  have hR := hy.head (q := m) hms
  rcases hown.1.2 with ⟨h', _⟩ | ⟨g', cap, cur, h', hb, hg, hle, hmx, hs', ht⟩
  · cases h'
  · simp only [Value.slice.injEq, Option.some.injEq, Addr.mk.injEq, and_true, true_and] at h'
    obtain ⟨rfl, rfl⟩ := h'
    have hcl : cur.toList.length = c * F.k := by rw [Array.length_toList]; omega
    have hcs : ((ys.take m).flatMap F.enc).length = m * F.k := by rw [flat_len F.len, hrl]
    have hf1 : (i + m) * F.k ≤ zs.length * F.k := Nat.mul_le_mul_right _ hfit
    have hf2 : zs.length * F.k ≤ c * F.k := Nat.mul_le_mul_right _ hle
    rw [Nat.add_mul] at hf1
    have hlz : (splice zs i (ys.take m)).length = zs.length := length_splice _ _ _ (by rw [hrl]; exact hfit)
    refine ⟨_, run_copy_rowK w dT sT ty F.t F.k g (i * F.k) dLen dCap ⟨b, off, none⟩ sLen sCap m cur _ ((ys.take m).flatMap F.enc) hu hsz hg hm hcs (fun j v hv => ?_) (by rw [hcs, ← Array.length_toList, hcl]; omega) (flat_one F _), ⟨⟨by rw [flat_len F.len], ?_⟩, ?_⟩, ⟨rfl, rfl, rfl, by simp [World.setRow], fun k _ hk => setRow_other w g k _ (fun e => hk (by rw [e]))⟩⟩
    · exact hR.flat hk j v hv
    · refine .inr ⟨g, c, _, by rw [hlz], hb, setRow_heap w g _ _ _ _ hg, by rw [hlz]; exact hle, hmx, ?_, ?_⟩
      · have e := length_splice cur.toList (i * F.k) ((ys.take m).flatMap F.enc) (by rw [hcs, hcl]; omega)
        unfold splice at e
        rw [List.append_assoc, List.size_toArray, e, hcl]
      · have e := splice_take cur.toList ((ys.take m).flatMap F.enc) (i * F.k) (zs.length * F.k) (by rw [hcs]; omega) (by rw [hcl]; omega)
        unfold splice at e
        rw [List.append_assoc, List.toList_toArray, hlz, e, ht]
        exact splice_flat F.len zs (ys.take m) i
    · intro x hx
      rcases splice_mem hx with hx | hx
      · exact hown.2 x hx
      · exact hy.fits x (List.mem_of_mem_take hx)
theorem wpList_copyF {P : Program} (F : Flat α) {ops : Array Oper} {rest : List Oper} {o : Oper} {a : Act} {Q : Exit → Act → World → Prop} (hgd : o.guard = none) (w : World) (d s : Operand) (dT sT : TypeId)
    (ho : o.op = .call { callee := .builtin .copy, args := #[d, s], argTypes := #[dT, sT] }) (hu : P.underlying dT = some (.slice F.t)) (hsz : (P.info? F.t).map (·.size) = some F.k) (hk : 0 < F.k)
    (lo g n c i at_ : Nat) (dLen dCap sLen sCap m b off B : Nat) (zs ys row : List α) (hd : a.eval d = .slice (some ⟨g, at_, none⟩) dLen dCap) (hs : a.eval s = .slice (some ⟨b, off, none⟩) sLen sCap) (hat : at_ = i * F.k) (hzn : zs.length = n) (hown : OwnF F w lo (.slice (some ⟨g, 0, none⟩) n c) zs)
    (hy : RdF F w B (some ⟨b, off, none⟩) sLen sCap ys) (hm : Nat.min sLen dLen = m) (hrow : row = ys.take m) (hfit : i + m ≤ zs.length)
    (h : ∀ w', OwnF F w' lo (.slice (some ⟨g, 0, none⟩) n c) (splice zs i row) → w.grownBy w' (some g) → wpList P ops Q rest (a.put o.dst (goInt m)) w') :
    wpList P ops Q (o :: rest) a w := by
  subst hat
  subst hzn
  refine wpList_plain hgd fun K hK => ?_
  obtain ⟨w', hrun, h1, h2⟩ := run_copyF (P := P) F w dT sT o.type hu hsz hk lo g c i dLen dCap sLen sCap m b off B zs ys row hown hy hm hrow hfit
  unfold Oper.wp
  simp [execOp, ho, resolve, invoke, builtin, hd, hs, hrun, Result.andThen]
  exact hK _ _ (h w' h1 h2)
theorem step_copyF {P : Program} (F : Flat α) {ops : Array Oper} {o : Oper} {a : Act} {w : World} {K : Act → World → Prop} {Q : Exit → Act → World → Prop} {E : Prop} (hgd : o.guard = none) (d s : Operand) (dT sT : TypeId)
    (ho : o.op = .call { callee := .builtin .copy, args := #[d, s], argTypes := #[dT, sT] }) (hu : P.underlying dT = some (.slice F.t)) (hsz : (P.info? F.t).map (·.size) = some F.k) (hk : 0 < F.k)
    (lo g n c i at_ : Nat) (dLen dCap sLen sCap m b off B : Nat) (zs ys row : List α) (hd : a.eval d = .slice (some ⟨g, at_, none⟩) dLen dCap) (hs : a.eval s = .slice (some ⟨b, off, none⟩) sLen sCap) (hat : at_ = i * F.k) (hzn : zs.length = n) (hown : OwnF F w lo (.slice (some ⟨g, 0, none⟩) n c) zs)
    (hy : RdF F w B (some ⟨b, off, none⟩) sLen sCap ys) (hm : Nat.min sLen dLen = m) (hrow : row = ys.take m) (hfit : i + m ≤ zs.length)
    (h : ∀ w', OwnF F w' lo (.slice (some ⟨g, 0, none⟩) n c) (splice zs i row) → w.grownBy w' (some g) → K (a.put o.dst (goInt m)) w') :
    if Region.wanted o (yielded ops a.tmps) = true then Oper.wp P o a w K Q else E := by
  subst hat
  subst hzn
  rw [if_pos (show Region.wanted o (yielded ops a.tmps) = true by simp [Region.wanted, hgd])]
  obtain ⟨w', hrun, h1, h2⟩ := run_copyF (P := P) F w dT sT o.type hu hsz hk lo g c i dLen dCap sLen sCap m b off B zs ys row hown hy hm hrow hfit
  unfold Oper.wp
  simp [execOp, ho, resolve, invoke, builtin, hd, hs, hrun, Result.andThen]
  exact h w' h1 h2
end
/-- Numbers. -/
def intF : Flat Int := { t := 3, k := 1, enc := fun x => [.int .i64 x], ok := I64, len := fun _ => rfl, one := fun s v h => by simp only [List.mem_cons, List.not_mem_nil, or_false] at h; subst h; rfl }
theorem intF_map (xs : List Int) : xs.flatMap intF.enc = xs.map (Value.int .i64) := by
  induction xs with
  | nil => rfl
  | cons x xs ih => rw [List.flatMap_cons, ih]; rfl
theorem Own.toF {w : World} {lo : Nat} {v : Value} {xs : List Int} (h : Own w lo v xs) : OwnF intF w lo v xs := ⟨by rw [intF_map]; exact h.1, h.2⟩
theorem OwnF.toI {w : World} {lo : Nat} {v : Value} {xs : List Int} (h : OwnF intF w lo v xs) : Own w lo v xs := ⟨by have := h.1; rw [intF_map] at this; exact this, h.2⟩
theorem Rd.toF {w : World} {B n c : Nat} {A : Option Addr} {xs : List Int} (h : Rd w B A n c xs) : RdF intF w B A n c xs := by
  refine ⟨h.len, h.cap, h.max, fun hn => ?_, h.fits, h.nil⟩
  obtain ⟨b, off, e, hb, hc⟩ := h.cells hn
  refine ⟨b, off, e, hb, fun j i a v hj hi => ?_⟩
  obtain ⟨hjl, rfl⟩ := List.getElem?_eq_some_iff.1 hj
  have hi0 : i = 0 := by have := (List.getElem?_eq_some_iff.1 hi).1; simp [intF] at this; exact this
  subst hi0
  simp [intF] at hi
  subst hi
  have := hc j (by rw [← h.len]; exact hjl)
  rw [getD_at hjl] at this
  simpa [intF] using this
end Go.Proofs.Ytihhlldpdfihfaa
