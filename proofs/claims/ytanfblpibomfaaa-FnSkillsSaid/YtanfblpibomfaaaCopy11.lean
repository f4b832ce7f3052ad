/- Copies of a list of weavers; one cell of an owned list stored. Condition: at most 1000 weavers, not none. -/
import Derived.Test.YtanfblpibomfaaaFind11
import Derived.Test.YtanfblpibomfaaaShelf
namespace Go.Proofs.Ytanfblpibomfaaa
open Go.RowKit

section
variable {α : Type} {enc : α → List Value} {k : Nat}
theorem flat_set1 (h : ∀ a, (enc a).length = k) {i : Nat} {a y : α} {v : Value} (hi : i < k) (he : (enc a).set i v = enc y) : ∀ (xs : List α) (j : Nat), xs[j]? = some a → (xs.flatMap enc).set (j * k + i) v = (xs.set j y).flatMap enc
  | [], j, hj => by simp at hj
  | x :: xs, 0, hj => by
    simp at hj
    subst hj
    rw [List.flatMap_cons, List.set_cons_zero, List.flatMap_cons, Nat.zero_mul, Nat.zero_add, List.set_append, if_pos (by rw [h]; exact hi), he]
  | x :: xs, j + 1, hj => by
    rw [List.flatMap_cons, List.set_cons_succ, List.flatMap_cons, List.set_append, if_neg (by rw [h, Nat.succ_mul]; omega), h, show (j + 1) * k + i - k = j * k + i by rw [Nat.succ_mul]; omega, flat_set1 h hi he xs j (by simpa using hj)]
theorem OwnF.put1 {F : Flat α} {w : World} {lo g n c j i : Nat} {xs : List α} {a y : α} (h : OwnF F w lo (.slice (some ⟨g, 0, none⟩) n c) xs) (hj : xs[j]? = some a) (hi : i < F.k) (v : Value) (he : (F.enc a).set i v = F.enc y) (hy : F.ok y) :
    OwnF F (w.setCell ⟨g, j * F.k + i, none⟩ v) lo (.slice (some ⟨g, 0, none⟩) n c) (xs.set j y) ∧ w.grownBy (w.setCell ⟨g, j * F.k + i, none⟩ v) (some g) := by
  obtain ⟨A', c', hv, _, _⟩ := h.form
  cases hv
  have H := h.1.stored (j * F.k + i) v
  rw [flat_set1 F.len hi he xs j hj] at H
  refine ⟨⟨by rw [List.length_set]; exact H.1, fun x hx => ?_⟩, H.2⟩
  rcases List.mem_or_eq_of_mem_set hx with hx | rfl
  · exact h.2 x hx
  · exact hy
end
/-- What a copy leaves whose room is not told. -/
def Cloned {α : Type} (F : Flat α) (w : World) (xs : List α) (e : Ending) (w' : World) : Prop :=
  ∃ g c, e = .returned (.slice (some ⟨g, 0, none⟩) xs.length c) ∧ OwnF F w' w.heap.size (.slice (some ⟨g, 0, none⟩) xs.length c) xs ∧ Below w.heap.size w w'
set_option maxRecDepth 100000 in
set_option maxHeartbeats 1000000 in
theorem cloneWeavers_any (b off n c B : Nat) (xs : List WeaverR) (w : World) (h : RdF weaverF w B (some ⟨b, off, none⟩) n c xs) (hB : B ≤ w.heap.size) (hn0 : 0 < n) (hn : n ≤ 1000) :
    Calls Try.prog 70 #[.slice (some ⟨b, off, none⟩) n c] w (Cloned weaverF w xs) := by
  obtain rfl := h.len
  have hR := h.alloc hB (.cells #[] 40)
  have ho := OwnF.empty weaverF (w := w) (Nat.le_refl _)
  have hb : Below w.heap.size w (w.alloc (.cells #[] 40)) := (Below.refl _ _).alloc (Nat.le_refl _) _
  go_enter Try.func70, Try.ntmps70
  go_wp2_with fail
  rw [show Sem.run Try.prog (binOp BinOp.eql 24 (Value.slice (some ⟨b, off, none⟩) xs.length c) (Value.slice none 0 0)) w = .ok (.bool false) w from rfl]
  go_wp2_with (refine wpList_appendF weaverF rfl _ (.tmp 5) (.tmp 6) 24 (.agg #[.int .i64 0, .string ⟨#[]⟩, .int .i64 0, .int .i64 0, .int .i64 0]) 48 rfl Try.underlying24 info_Weaver rfl (by decide) (by decide) w.heap.size _ [] xs b off xs.length c B rfl rfl ho hR (by simp; omega) (by simp) ?_)
  intro A1 c1 w1 ho1 hg1
  (try simp only [List.length_nil, Nat.zero_add, List.nil_append] at ho1 ⊢)
  have hb1 := hb.grown hg1 (by simp) (fun k hk => (ho.bd k hk).1)
  obtain ⟨g, rfl, _, _⟩ := ho1.some_ hn0
  go_wp2
  go_ret
  exact ⟨g, c1, rfl, ho1, hb1⟩
set_option maxRecDepth 100000 in
set_option maxHeartbeats 400000 in
theorem clone_any (s : ByteArray) (w : World) (hm : s.size ≤ 281474976710656) : Calls Try.prog 71 #[.string s] w (Out w (.string s)) := by
  go_enter Try.func71, Try.ntmps71
  go_wp2_with fail
  refine (Try.stringslite_Clone s _ hm).mono ?_
  rintro e w1 ⟨rfl, hb⟩
  go_wp2
  go_ret
  exact ⟨rfl, hb⟩
/-- The names are short. -/
def Short (xs : List WeaverR) : Prop := ∀ a ∈ xs, a.f1.size ≤ 281474976710656
theorem weavers_short {xs : List WeaverR} (h : weaversB xs = true) : Short xs := fun a ha => by
  obtain ⟨i, hi, e⟩ := List.mem_iff_getElem.1 ha
  have h2 := (weaver_of (weavers_at h (i := i) (a := a) (by rw [List.getElem?_eq_getElem hi, e]))).2.1
  unfold wordB at h2
  rw [Bool.and_eq_true, decide_eq_true_eq] at h2
  omega
set_option maxRecDepth 100000 in
set_option maxHeartbeats 2000000 in
theorem copyWeavers_any (b off n c B : Nat) (xs : List WeaverR) (w : World) (h : RdF weaverF w B (some ⟨b, off, none⟩) n c xs) (hB : B ≤ w.heap.size) (hn0 : 0 < n) (hn : n ≤ 1000) (hs : Hid (Short xs)) :
    Calls Try.prog 49 #[.slice (some ⟨b, off, none⟩) n c] w (Cloned weaverF w xs) := by
  obtain rfl := h.len
  go_enter Try.func49, Try.ntmps49
  go_wp2_with fail
  refine (cloneWeavers_any b off _ c B xs _ h hB hn0 hn).mono ?_
  rintro e w1 ⟨g, c1, rfl, own, hb⟩
  clear h
  go_wp2
  go_loopw [9] (fun i wr => ∃ k : Nat, k ≤ xs.length ∧ i = .int .i64 k ∧ OwnF weaverF wr w.heap.size (.slice (some ⟨g, 0, none⟩) xs.length c1) xs ∧ Below w.heap.size w wr) (fun i _ => xs.length - (intOf i).toNat)
  case atStart => exact ⟨0, Nat.zero_le _, rfl, own, hb⟩
  case round =>
    obtain ⟨k, hk, rfl, own, hb⟩ := hrel
    have hzz := hb.size
    by_cases hlt : k < xs.length
    · obtain ⟨a, ha⟩ : ∃ a, xs[k]? = some a := ⟨_, List.getElem?_eq_getElem hlt⟩
      have ok := own.2 a (List.mem_of_getElem? ha)
      have HA := Lib.hid ha
      have e1 : wr.cell? ⟨g, k * 5 + 1, none⟩ = some (.string a.f1) := own.cell (F := weaverF) (i := 1) ha rfl
      clear ha
      go_wp2_with fail
      refine (clone_any a.f1 _ (hs.out a (List.mem_of_getElem? HA.out))).mono ?_
      rintro e w4 ⟨rfl, hb4⟩
      clear e1
      replace own := own.all hb4
      replace hb := hb.trans (hb4.mono hzz)
      have hgl := (own.bd g rfl).1
      obtain ⟨y1, hy1⟩ := own.there (j := k) (i := 1) (by omega) (by decide)
      have hf1 : w4.frozen? ⟨g, k * 5 + 1, none⟩ = false := own.frozen _
      replace hy1 : w4.cell? ⟨g, k * 5 + 1, none⟩ = some y1 := hy1
      have HP := own.put1 (i := 1) (y := a) HA.out (by decide) (.string a.f1) rfl ok
      have hset : xs.set k a = xs := by
        obtain ⟨h1, h2⟩ := List.getElem?_eq_some_iff.1 HA.out
        rw [← h2]
        exact List.set_getElem_self h1
      rw [hset] at HP
      clear hset
      go_wp2
      go_roundw
      case rel => exact ⟨k + 1, by omega, by go_num, HP.1, hb.grown HP.2 hb.size (fun j hj => by cases hj; exact hgl)⟩
      case measure => simp [intOf]; omega
    · obtain rfl : k = xs.length := by omega
      go_wp2
      go_ret
      exact ⟨g, c1, rfl, own, hb⟩
end Go.Proofs.Ytanfblpibomfaaa
