/- The sort of a shade card's copy: sorted, a permutation, nothing else of the world changed. Condition: at most 12 shades, their steps and depths in range. -/
import Derived.Test.YtbieejgmnhhdiaaOrderSort
import Derived.Test.YtbieejgmnhhdiaaOrderClone
namespace Go.Proofs.Ytbieejgmnhhdiaa
open Go.RowKit
open Go.Sort hiding Below

def ShS := { s : ShadeR // Step s.f2 ∧ Deep s.f3 }
instance : Inhabited ShS := ⟨⟨ShadeR.zero, by refine ⟨⟨?_, ?_⟩, ?_, ?_⟩ <;> decide⟩⟩
def encS (x : ShS) : List Value := shadeF.enc x.1
def cmpS (fr : Int) (x y : ShS) : Int := cmpI fr x.1 y.1
theorem ltS (fr : Int) (x y : ShS) : ltOf (cmpS fr) x y = true ↔ lexK fr x.1 y.1 := by
  unfold ltOf cmpS
  rw [decide_eq_true_eq]
  exact cmp_lex x.2.2 y.2.2
theorem ltS_no (fr : Int) (x y : ShS) : ltOf (cmpS fr) x y = false ↔ ¬ lexK fr x.1 y.1 := by
  rw [← ltS, Bool.not_eq_true]
theorem swoS (fr : Int) : SWO (ltOf (cmpS fr)) where
  irrefl x := by rw [ltS_no]; unfold lexK; omega
  trans x y z h1 h2 := by rw [ltS] at *; unfold lexK at *; omega
  ntrans x y z h1 h2 := by rw [ltS_no] at *; unfold lexK at *; omega
def subs (ys : List ShadeR) (h : ∀ a ∈ ys, Step a.f2 ∧ Deep a.f3) : List ShS := ys.attachWith _ h
theorem subs_val (ys : List ShadeR) (h : ∀ a ∈ ys, Step a.f2 ∧ Deep a.f3) : (subs ys h).map (fun x => x.1) = ys := List.attachWith_map_subtype_val h
theorem subs_len (ys : List ShadeR) (h : ∀ a ∈ ys, Step a.f2 ∧ Deep a.f3) : (subs ys h).length = ys.length := by
  have := congrArg List.length (subs_val ys h)
  simpa using this
theorem subs_at (ys : List ShadeR) (h : ∀ a ∈ ys, Step a.f2 ∧ Deep a.f3) {j : Nat} (hj : j < ys.length) : ys[j]? = some ((subs ys h).toArray[j]!).1 := by
  have hs : j < (subs ys h).length := by rw [subs_len]; exact hj
  have e := congrArg (fun l => l[j]?) (subs_val ys h)
  simp only [List.getElem?_map, List.getElem?_eq_getElem hs, Option.map_some] at e
  rw [← e, getElem!_pos _ j (by simpa using hs)]
  simp
theorem holdsS {w : World} {lo g n c : Nat} {ys : List ShadeR} (h : ∀ a ∈ ys, Step a.f2 ∧ Deep a.f3) (ho : OwnF shadeF w lo (.slice (some ⟨g, 0, none⟩) n c) ys) : HoldsK encS 5 w g 0 (subs ys h).toArray := by
  intro j hj
  rw [size_flatK] at hj
  have hj' : j < ys.length * 5 := by
    have : (subs ys h).toArray.size = ys.length := by rw [List.size_toArray, subs_len]
    rwa [this] at hj
  rw [get_flatK _ _ _ _ hj]
  have hq : j / 5 < ys.length := by omega
  have hm : j % 5 < (encS ((subs ys h).toArray[j / 5]!)).length := by show j % 5 < 5; omega
  have hc := ho.cell (j := j / 5) (i := j % 5) (subs_at ys h hq) (List.getElem?_eq_getElem hm)
  rw [show j / 5 * shadeF.k + j % 5 = 0 + j by show j / 5 * 5 + j % 5 = 0 + j; omega] at hc
  refine ⟨?_, by rw [Nat.zero_add]; exact ho.frozen j⟩
  rw [hc]
  show _ = some ((encS ((subs ys h).toArray[j / 5]!))[j % 5]!)
  rw [getElem!_pos (encS ((subs ys h).toArray[j / 5]!)) (j % 5) hm]
theorem grownK {α : Type} [Inhabited α] {enc : α → List Value} {k : Nat} {w : World} {g n : Nat} {os : Array Obj} (d : Array α) : w.grownBy (sortWorldK enc k w g 0 n d os) (some g) := by
  refine ⟨rfl, rfl, rfl, ?_, fun i hi hne => ?_⟩
  · unfold sortWorldK
    simp [putRowK, Go.Sort.putRow, Go.Sort.mapBlock, Go.Sort.ahead]
  · unfold sortWorldK
    rw [Go.Sort.heap_grow_old _ _ (by simpa [putRowK, Go.Sort.putRow, Go.Sort.mapBlock, Go.Sort.ahead] using hi)]
    have : g ≠ i := fun e => hne (by rw [e])
    simp [putRowK, Go.Sort.putRow, Go.Sort.mapBlock, Go.Sort.ahead, Array.getElem?_modify, this]
theorem isAggS (w : World) : (isAgg 47).run Try.prog w = .ok true w := by rfl
theorem sizeS (w : World) : (Go.sizeOf 47).run Try.prog w = .ok 5 w := by rfl
theorem hlenS (n : Nat) (W : World) (h : n ≤ 12) : Calls Try.prog 53 #[.int .u64 n] W fun e w' => (∃ l : Int, e = .returned (.int .i64 l)) ∧ w' = W :=
  (Try.bits_Len n W (by omega) (by omega)).mono fun _ _ ⟨he, hw⟩ => ⟨⟨_, he⟩, hw⟩
theorem sortShades_any (P : Nat) (fr : Int) (g c lo : Nat) (ys : List ShadeR) (w : World) (hf : Step fr) (h : ∀ a ∈ ys, Step a.f2 ∧ Deep a.f3) (ho : OwnF shadeF w lo (.slice (some ⟨g, 0, none⟩) ys.length c) ys)
    (hP : w.cell? ⟨P, 0, none⟩ = some (.int .i64 fr)) (hPl : P < lo) (h12 : ys.length ≤ 12) :
    Calls Try.prog 42 #[.slice (some ⟨g, 0, none⟩) ys.length c, .func (.func 43) #[] #[.pointer (some ⟨P, 0, none⟩)]] w
      fun e w' => e = .returned (.tuple #[]) ∧ ∃ zs : List ShadeR, zs.Perm ys ∧ zs.Pairwise (fun a b => ¬ cmpI fr b a < 0) ∧ RdF shadeF w' w'.heap.size (some ⟨g, 0, none⟩) ys.length c zs ∧ w.grownBy w' (some g) := by
  obtain ⟨hgl, hgw⟩ := ho.bd g rfl
  have hsz : (subs ys h).toArray.size = ys.length := by rw [List.size_toArray, subs_len]
  have hH := holdsS h ho
  have eg : ∀ args w, (callFunc 43 args).run Try.prog w = .ok (.enter 43 args) w := enters_of Try.func43 (by kernel_rfl) rfl
  have hC : CmpLays Try.prog 43 #[.pointer (some ⟨P, 0, none⟩)] encS 5 (cmpS fr) g 0 (subs ys h).toArray.size w := by
    intro m os dk hs x y
    refine closure_any P fr x.1 y.1 _ hf x.2.1 y.2.1 ?_ ?_
    · unfold sortWorldK
      rw [Go.Sort.cell?_grow _ _ _ (by show P < _; rw [size_putRowK]; show P < w.heap.size; omega), cell?_putRowK_other _ _ _ _ _ _ _ (by show P ≠ g; omega)]
      exact hP
    · exact Nat.lt_of_lt_of_le (show P < w.heap.size by omega) (grownK dk).size
  have hcon := AnyQ.slices_SortFunc_small_sorted Try.sortSh 5 isAggS sizeS encS (fun _ => rfl) (fun x v hv => shadeF.one x.1 v hv) (cmpS fr) 43 #[.pointer (some ⟨P, 0, none⟩)] (swoS fr) g 0 c (subs ys h).toArray w eg hC hH hgw (by omega) hlenS
  rw [hsz] at hcon
  refine (show Calls Try.prog 42 _ _ _ from hcon).mono ?_
  rintro e w' ⟨he, d', n, os, ⟨hp0, _, hp⟩, hs, rfl⟩
  rw [hsz] at hp0
  have hrd := ho.rd
  have hp' : d'.toList.Perm (subs ys h) := by
    rw [← hp0] at hp
    rw [Array.extract_size] at hp
    rw [hp0, ← hsz, Array.extract_size] at hp
    exact hp
  have hpm : (d'.toList.map fun x => x.1).Perm ys := by
    have := hp'.map (fun x : ShS => x.1)
    rwa [subs_val] at this
  have hlen : (d'.toList.map fun x => x.1).length = ys.length := hpm.length_eq
  have hH' := holdsK_sortWorldK_c encS 5 w g 0 (subs ys h).toArray d' n os hH hgw (by rw [hp0, hsz])
  refine ⟨he, d'.toList.map fun x => x.1, hpm, ?_, ⟨hlen, hrd.cap, hrd.max, fun _ => ⟨g, 0, rfl, Nat.lt_of_lt_of_le hgw (grownK d').size, fun j i a v hj hi => ?_⟩, fun x hx => hrd.fits x (hpm.mem_iff.1 hx), fun hh => by cases hh⟩, grownK d'⟩
  · rw [List.pairwise_map]
    refine List.pairwise_iff_getElem.2 fun i j hi hj hij => ?_
    have hj' : j < ys.length := by rw [← hp0]; simpa using hj
    have hi' : i < d'.size := by simpa using hi
    have := hs i j (Nat.zero_le _) hij hj'
    rw [getElem!_pos d' i hi', getElem!_pos d' j (by omega)] at this
    unfold ltOf cmpS at this
    simpa using this
  · rw [List.getElem?_map] at hj
    have hjd : j < d'.size := by
      rcases Nat.lt_or_ge j d'.size with h1 | h1
      · exact h1
      · rw [List.getElem?_eq_none (by simpa using h1)] at hj; cases hj
    have hi5 : i < 5 := (List.getElem?_eq_some_iff.1 hi).1
    rw [List.getElem?_eq_getElem (by simpa using hjd)] at hj
    cases hj
    have := (hH'.cell hjd hi5).1
    rw [show 0 + (j * shadeF.k + i) = 0 + j * 5 + i by show 0 + (j * 5 + i) = _; omega, this]
    have hi6 : i < (encS d'[j]!).length := hi5
    rw [getElem!_pos (encS d'[j]!) i hi6, ← List.getElem?_eq_getElem hi6, ← hi, getElem!_pos d' j hjd]
    rfl
end Go.Proofs.Ytbieejgmnhhdiaa
