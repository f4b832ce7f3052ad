/- The walk that tells the stuffs of two recipes, each once, in order. Condition: valid recipes. -/
import Derived.Test.YtnfleambfidllaaMix1
namespace Go.Proofs.Ytnfleambfidllaa
open Go.RowKit

theorem clone_any (s : ByteArray) (w : World) (hm : s.size ≤ 281474976710656) : Calls Try.prog 55 #[.string s] w (Out w (.string s)) := by
  go_enter Try.func55, Try.ntmps55
  go_wp2_with fail
  refine (Try.stringslite_Clone s _ hm).mono ?_
  rintro e w1 ⟨rfl, hb⟩
  go_wp2
  go_ret
  exact ⟨rfl, hb⟩
/-- The names of the parts. -/
def namesB (xs : List DyePartR) : List ByteArray := xs.map (·.f0)
theorem namesB_at {xs : List DyePartR} {k : Nat} {p : DyePartR} (h : xs[k]? = some p) : (namesB xs)[k]? = some p.f0 := by simp [namesB, h]
theorem namesB_len (xs : List DyePartR) : (namesB xs).length = xs.length := by simp [namesB]
theorem names_enc (a b : List DyePartR) : (namesB (a ++ b)).flatMap strF.enc = (namesL a b).map encStr := by
  rw [strF_flat]
  unfold namesB namesL
  rw [List.map_map, List.map_map]
  refine List.map_congr_left fun p _ => ?_
  show Value.string p.f0 = encStr p.f0.data.toList
  unfold encStr
  rw [list_data]
theorem stuffs_enc (a b : List DyePartR) : (sortedL a b).map encStr = (stuffsL a b).flatMap strF.enc := by
  rw [strF_flat]
  unfold stuffsL
  rw [List.map_map]
  rfl
set_option maxRecDepth 100000 in
set_option maxHeartbeats 1000000 in
theorem stuffsOf_any (A : Option Addr) (n c B : Nat) (a : List DyePartR) (A' : Option Addr) (n' c' B' : Nat) (b : List DyePartR) (w : World) (h : RdF dyePartF w B A n c a) (hB : B ≤ w.heap.size) (h' : RdF dyePartF w B' A' n' c' b) (hB' : B' ≤ w.heap.size) (ha : recB a = true) (hb : recB b = true) :
    Calls Try.prog 53 #[.slice A n c, .slice A' n' c'] w fun e w' => ∃ g cc, e = .returned (.slice (some ⟨g, 0, none⟩) (stuffsL a b).length cc) ∧ OwnF strF w' w.heap.size (.slice (some ⟨g, 0, none⟩) (stuffsL a b).length cc) (stuffsL a b) ∧ Below w.heap.size w w' := by
  have hla := rec_len ha
  have hlb := rec_len hb
  obtain rfl := h.len
  obtain rfl := h'.len
  have HBK := Blk.new w #[.slice A a.length c, .slice A' b.length c'] 24
  have hb0 : Below w.heap.size w (w.alloc (.cells #[.slice A a.length c, .slice A' b.length c'] 24)) := (Below.refl _ _).alloc (Nat.le_refl _) _
  have hRa := (h.alloc hB (.cells #[.slice A a.length c, .slice A' b.length c'] 24))
  have hRb := (h'.alloc hB' (.cells #[.slice A a.length c, .slice A' b.length c'] 24))
  have hs : RdF sliF (w.alloc (.cells #[.slice A a.length c, .slice A' b.length c'] 24)) (w.heap.size + 1) (some ⟨w.heap.size, 0, none⟩) 2 2 [⟨A, a.length, c⟩, ⟨A', b.length, c'⟩] := by
    refine ⟨rfl, Nat.le_refl _, by unfold maxLen; omega, fun _ => ⟨w.heap.size, 0, rfl, by omega, fun j i s v hj hi => ?_⟩, fun _ _ => trivial, fun h => by cases h⟩
    rw [HBK.cell]
    match j, hj with
    | 0, hj =>
      simp at hj
      subst hj
      match i, hi with
      | 0, hi => simp [sliF] at hi; subst hi; rfl
      | i + 1, hi => simp [sliF] at hi
    | 1, hj =>
      simp at hj
      subst hj
      match i, hi with
      | 0, hi => simp [sliF] at hi; subst hi; rfl
      | i + 1, hi => simp [sliF] at hi
    | j + 2, hj => simp at hj
  have hz0 : w.heap.size + 1 ≤ (w.alloc (.cells #[.slice A a.length c, .slice A' b.length c'] 24)).heap.size := by simp
  have hS : SeenS (w.alloc (.cells #[.slice A a.length c, .slice A' b.length c'] 24)) (w.alloc (.cells #[.slice A a.length c, .slice A' b.length c'] 24)).heap.size [⟨A, a.length, c⟩, ⟨A', b.length, c'⟩] [a, b] := by
    refine ⟨rfl, fun j s ys hj hy => ?_⟩
    match j, hj, hy with
    | 0, hj, hy =>
      simp at hj hy
      subst hj
      subst hy
      exact ⟨rfl, by omega, hRa.more (by simp; omega)⟩
    | 1, hj, hy =>
      simp at hj hy
      subst hj
      subst hy
      exact ⟨rfl, by omega, hRb.more (by simp; omega)⟩
    | j + 2, hj, _ => simp at hj
  have htot : lenTo [a, b] 2 ≤ 4096 := by simp [lenTo]; omega
  have hcc := concat_any (some ⟨w.heap.size, 0, none⟩) 2 2 (w.heap.size + 1) [⟨A, a.length, c⟩, ⟨A', b.length, c'⟩] [a, b] _ hs hz0 hS (by omega) htot
  rw [show [a, b].flatten = a ++ b by simp] at hcc
  obtain ⟨L, hL⟩ : ∃ L, a ++ b = L := ⟨_, rfl⟩
  have hL12 : 2 ≤ L.length ∧ L.length ≤ 12 := by rw [← hL, List.length_append]; omega
  rw [hL] at hcc
  have HL := Lib.hid hL
  clear hs hS htot HBK hL
  go_enter Try.func53, Try.ntmps53
  go_wp2_with fail
  generalize w.alloc (.cells #[.slice A a.length c, .slice A' b.length c'] 24) = W1 at *
  refine hcc.mono ?_
  rintro e w2 ⟨A5, c5, rfl, own5, hb2⟩
  have HB2 := hb0.trans (hb2.mono (by omega))
  have hsz2 := HB2.size
  replace own5 := own5.mono (show w.heap.size ≤ W1.heap.size by omega)
  have hb5 : ∀ q, (Value.slice A5 L.length c5).ownBlock = some q → q < w2.heap.size := fun q hq => (own5.bd q hq).2
  clear hcc hb2 hb0 hRa hRb
  go_wp2
  go_loopw [13, 5] (fun i s wr => ∃ (k : Nat) (A6 : Option Addr) (c6 : Nat), k ≤ L.length ∧ i = .int .i64 k ∧ s = .slice A6 k c6 ∧ OwnF strF wr w2.heap.size (.slice A6 k c6) ((namesB L).take k) ∧ OwnF dyePartF wr w.heap.size (.slice A5 L.length c5) L ∧ Below w.heap.size w wr ∧ w2.heap.size ≤ wr.heap.size) (fun i _ _ => L.length - (intOf i).toNat)
  case atStart => exact ⟨0, none, 0, Nat.zero_le _, rfl, rfl, OwnF.nil _ _ _, own5, HB2, Nat.le_refl _⟩
  case round =>
    clear own5 HB2
    obtain ⟨k, A6, c6, hk, rfl, rfl, own6, own5, HB, hz⟩ := hrel
    have hsz := HB.size
    by_cases hlt : k < L.length
    · obtain ⟨b1, off, p, hA5, hb1, hp, HX, hc0, hc1⟩ := DyePartR_at (F := dyePartF) rfl (fun _ => rfl) (fun _ => rfl) own5.rd hlt
      subst hA5
      have HN := Lib.hid (namesB_at HX.out)
      have HK := Lib.hid (show (namesB L).take (k + 1) = (namesB L).take k ++ [p.f0] by
        obtain ⟨hi, e⟩ := List.getElem?_eq_some_iff.1 HN.out
        rw [List.take_succ_eq_append_getElem hi, e])
      have hlen : ((namesB L).take k).length = k := by rw [List.length_take, namesB_len]; omega
      have hki : (0 : Int) ≤ (k : Int) := by omega
      have hkn : (k : Int) < (L.length : Int) := by omega
      have x7 := Blk.new wr #[.string p.f0, .int .i64 p.f1] 43
      have own6a := own6.alloc (.cells #[.string p.f0, .int .i64 p.f1] 43)
      have own5a := own5.alloc (.cells #[.string p.f0, .int .i64 p.f1] 43)
      have HBa := HB.alloc hsz (.cells #[.string p.f0, .int .i64 p.f1] 43)
      have hza : w2.heap.size ≤ (wr.alloc (.cells #[.string p.f0, .int .i64 p.f1] 43)).heap.size := by simp; omega
      have e0 := x7.cell 0
      have hpm := hp.1
      generalize (namesB L).take k = T at *
      have hsza := HBa.size
      have HLN := Lib.hid hlen
      clear own6 own5 HB
      go_upto_region 5 with fail
      clear hc0 hc1
      generalize wr.alloc (.cells #[.string p.f0, .int .i64 p.f1] 43) = W4 at *
      generalize wr.heap.size = P at *
      go_wp2_with (at_builtin; refine wpList_append_s W4 rfl (.tmp 17) (.tmp 20) 68 rfl Try.underlying68 info_str w2.heap.size _ T p.f0 rfl rfl own6a (by omega) hpm hza ?_)
      intro A8 c8 w8 o8 hg8
      (try rw [HLN.out] at o8 ⊢)
      have HB8 := HBa.grown hg8 hsza (fun q hq => by have := (own6a.bd q hq).1; omega)
      have own58 := own5a.mark hg8 (fun q q' hq hq' => by have h1 := (own6a.bd q hq).1; have h2 := hb5 q' hq'; omega)
      have hz8 : w2.heap.size ≤ w8.heap.size := Nat.le_trans hza hg8.size
      clear own6a own5a HBa hg8 x7 e0
      go_wp2
      go_roundw
      case rel => exact ⟨k + 1, A8, c8, by omega, by go_num, rfl, by rw [HK.out]; exact o8, own58, HB8, hz8⟩
      case measure => simp [intOf]; omega
    · obtain rfl : k = L.length := by omega
      rw [List.take_of_length_le (by rw [namesB_len]; exact Nat.le_refl _)] at own6
      have hrow := own6.1
      rw [namesB_len, ← HL.out, names_enc a b] at hrow
      have hNl : (namesL a b).length = L.length := by unfold namesL; rw [List.length_map, HL.out]
      rw [HL.out] at hrow
      obtain ⟨g, cap, hv, hg1, hg2, hcap, hcm, hln, hH⟩ := Lib.holds_of_ownsRow hrow (by intro e; injection e with _ e2 _; omega)
      cases hv
      have cSort := Try.slices_Sort_string g 0 c6 (namesL a b) wr hH hg2 (by omega)
      have cComp : ∀ nn os, Calls Try.prog 69 #[.slice (some ⟨g, 0, none⟩) (namesL a b).length c6] (Go.Sort.grow (Go.Sort.putRow encStr (Go.Sort.ahead wr nn) g 0 ((namesL a b).mergeSort fun x y => decide (x ≤ y)).toArray) os) fun e w' =>
          e = .returned (.slice (some ⟨g, 0, none⟩) (sortedL a b).length c6) ∧ ∃ q, w' = Go.Sort.putRow encStr (Go.Sort.ahead (Go.Sort.grow (Go.Sort.putRow encStr (Go.Sort.ahead wr nn) g 0 ((namesL a b).mergeSort fun x y => decide (x ≤ y)).toArray) os) q) g 0 (sortedL a b ++ List.replicate ((namesL a b).length - (sortedL a b).length) []).toArray := fun nn os => by
        have hl2 : ((namesL a b).mergeSort fun x y => decide (x ≤ y)).length = (namesL a b).length := List.length_mergeSort _
        have hH2 : Go.Sort.Holds encStr (Go.Sort.grow (Go.Sort.putRow encStr (Go.Sort.ahead wr nn) g 0 ((namesL a b).mergeSort fun x y => decide (x ≤ y)).toArray) os) g 0 ((namesL a b).mergeSort fun x y => decide (x ≤ y)).toArray :=
          Go.Sort.holds_grow encStr _ os g 0 _ (by simpa [Go.Sort.putRow, Go.Sort.mapBlock, Go.Sort.ahead] using hg2) (Go.Sort.holds_putRow encStr _ g 0 _ _ (Go.Sort.holds_ahead encStr wr nn g 0 _ hH) (by simp))
        have := Try.slices_Compact_string g 0 c6 ((namesL a b).mergeSort fun x y => decide (x ≤ y)) _ hH2 (by omega) (by omega)
        rw [hl2] at this
        exact this
      rw [hln] at cSort cComp
      have HF := Lib.hid (fun (nn q : Nat) (os : Array Obj) => left_own (nn := nn) (q := q) (os := os) hrow hln (show w2.heap.size ≤ wr.heap.size from hz))
      clear hrow hH own6 own5
      go_wp2_with fail
      refine cSort.mono ?_
      rintro e w9 ⟨rfl, nn, os, rfl⟩
      go_wp2_with fail
      refine (cComp nn os).mono ?_
      rintro e w10 ⟨rfl, q, rfl⟩
      obtain ⟨f1, f2⟩ := HF.out nn q os
      rw [show Lib.compact ((namesL a b).mergeSort fun x y => decide (x ≤ y)) = sortedL a b from rfl, stuffs_enc] at f1
      rw [show Lib.compact ((namesL a b).mergeSort fun x y => decide (x ≤ y)) = sortedL a b from rfl] at f2
      have hsl : (sortedL a b).length = (stuffsL a b).length := by unfold stuffsL; rw [List.length_map]
      rw [hsl] at f1 f2 ⊢
      go_wp2
      go_ret
      have hfit : ∀ x ∈ stuffsL a b, x.size ≤ maxLen := fun x hx => by
        obtain ⟨q, hq, rfl⟩ := (stuffs_mem a b x).1 hx
        rcases List.mem_append.1 hq with hq | hq
        · exact (h.fits q hq).1
        · exact (h'.fits q hq).1
      exact ⟨g, c6, rfl, OwnF.mono ⟨f1, hfit⟩ hsz2, HB.trans (f2.mono hsz2)⟩
end Go.Proofs.Ytnfleambfidllaa
