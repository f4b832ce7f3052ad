/- The walk of the law FnStrings. No condition. -/
import Derived.Test.YtojfjadmgaogcaaDoorParseT
import Derived.Test.YtojfjadmgaogcaaDoorVerifyT
import Derived.Test.YtojfjadmgaogcaaDoorStringsMathT
import Derived.Test.YtojfjadmgaogcaaDoorDraws1T
import Derived.Laws.IdiomStrings
import Derived.Laws.AppendOwn
namespace Go.Proofs.YtojfjadmgaogcaaDoor
open Go.RowKit

theorem rd_is (l : List UInt8) : ∃ m b, rd l = .returned (.tuple #[.int .i64 m, .bool b]) := by
  unfold rd
  split
  · exact ⟨_, _, rfl⟩
  · exact ⟨_, _, rfl⟩
theorem fmt_is (x : Int) : ∃ s b, fmtE x = .returned (.tuple #[.string s, .bool b]) ∧ s.size ≤ 7 ∧ (b = true → rd s.data.toList = .returned (.tuple #[.int .i64 x, .bool true])) := by
  unfold fmtE
  split
  · rename_i h
    refine ⟨_, _, rfl, numB_size x h.1 h.2, fun _ => ?_⟩
    exact rd_yes _ x (by rw [numB_toList]; exact readM_of x h.1 h.2)
  · exact ⟨_, _, rfl, by decide, fun h => by cases h⟩
theorem ap_is (x : ByteArray) : ∃ s b, apE x = .returned (.tuple #[.string s, .bool b]) ∧ s.size ≤ 4000 ∧ (b = false → s = ⟨#[]⟩) ∧ (b = true → 1 ≤ s.size ∧ verE s = .returned (.tuple #[.string x, .bool true]) ∧ ∀ (y : ByteArray) (i : Nat) (c : UInt8) (hi : i < s.data.toList.length), s.data.toList[i] ≠ c → y.data.toList = s.data.toList.set i c → verE y = .returned (.tuple #[.string ⟨#[]⟩, .bool false])) := by
  unfold apE
  split
  · rename_i h
    refine ⟨_, _, rfl, h.2.2, (fun h => by cases h), fun _ => ⟨by have := (sealB_size x).1; omega, ver_sealB h.2.1 h.2.2, fun y i c hi hc hy => ver_changed h.2.1 hi hc hy⟩⟩
  · exact ⟨_, _, rfl, by decide, fun _ => rfl, fun h => by cases h⟩
theorem vAt_any (A : Option Addr) (n c B : Nat) (i : Nat) (w : World) (R : RdB w B A n c) (hi : i ≤ 100) (hn : n ≤ 65536) : Calls Tryd.prog 15 #[.slice A n c, .int .i64 (i : Int)] w fun e w' => (∃ x : Int, e = .returned (.int .i64 x) ∧ 0 ≤ x ∧ x ≤ 255) ∧ w = w' := by
  by_cases hlt : i < n
  · obtain ⟨b, off, rfl, hbB, hcell⟩ := R.cells (by omega)
    obtain ⟨x, x0, x1, hx⟩ := hcell i hlt
    clear hcell
    go_enter Tryd.func15, Tryd.ntmps15
    go_wp2
    go_ret
    exact ⟨⟨x, ret_int (by first | rfl | (unfold IntKind.wrap; simp; omega) | omega), x0, x1⟩, rfl⟩
  · go_enter Tryd.func15, Tryd.ntmps15
    go_wp2
    go_ret
    exact ⟨⟨_, rfl, by omega, by omega⟩, rfl⟩
theorem wrapU8 {x : Int} (h0 : 0 ≤ x) (h1 : x ≤ 255) : IntKind.u8.wrap x = x := by
  simp [IntKind.wrap, IntKind.bits, IntKind.signed]
  omega
theorem xor_byte (a : UInt8) (d : Int) (h0 : 1 ≤ d) (h1 : d ≤ 255) : ∃ c : UInt8, bits .xor .u8 (a.toNat : Int) d = (c.toNat : Int) ∧ a ≠ c := by
  refine ⟨⟨BitVec.ofInt 8 (a.toNat : Int) ^^^ BitVec.ofInt 8 d⟩, ?_, fun e => ?_⟩
  · have h := (BitVec.ofInt 8 (a.toNat : Int) ^^^ BitVec.ofInt 8 d).isLt
    show IntKind.u8.wrap (((BitVec.ofInt 8 (a.toNat : Int) ^^^ BitVec.ofInt 8 d).toNat : Nat) : Int) = ((BitVec.ofInt 8 (a.toNat : Int) ^^^ BitVec.ofInt 8 d).toNat : Int)
    exact wrapU8 (by omega) (by omega)
  · have e1 : BitVec.ofInt 8 (a.toNat : Int) = a.toBitVec := by
      rw [BitVec.ofInt_natCast]
      exact BitVec.ofNat_toNat 8 a.toBitVec |>.trans (by simp)
    have e2 : a.toBitVec = a.toBitVec ^^^ BitVec.ofInt 8 d := by
      have := congrArg UInt8.toBitVec e
      rw [e1] at this
      exact this
    have e3 : BitVec.ofInt 8 d = 0#8 := by
      have h := congrArg (fun z => a.toBitVec ^^^ z) e2
      simp only [← BitVec.xor_assoc, BitVec.xor_self, BitVec.zero_xor] at h
      exact h.symm
    have e4 := congrArg BitVec.toNat e3
    rw [BitVec.toNat_ofInt] at e4
    simp at e4
    omega
theorem wrapd (x : Int) (h0 : 0 ≤ x) : IntKind.u8.wrap (IntKind.i64.wrap (1 + x.tmod 255)) = 1 + x % 255 := by
  rw [Int.tmod_eq_emod_of_nonneg h0, IntWalk.i64_in _ (by omega)]
  exact wrapU8 (by omega) (by omega)
/-- A row of bytes that a conversion has laid. -/
def BRow (w : World) (q : Nat) (cs : Array Value) : Prop := ∃ m, w.heap[q]? = some (.cells cs 5 (m, m + 1)) ∧ cs.size ≤ m
theorem BRow.cell {w : World} {q : Nat} {cs : Array Value} (h : BRow w q cs) (j : Nat) : w.cell? ⟨q, j, none⟩ = cs[j]? := by
  obtain ⟨m, h1, _⟩ := h
  exact cell_of_row w q j cs _ _ h1
theorem BRow.lt {w : World} {q : Nat} {cs : Array Value} (h : BRow w q cs) : q < w.heap.size := by
  obtain ⟨m, h1, _⟩ := h
  exact (Array.getElem?_eq_some_iff.1 h1).1
theorem BRow.frozen {w : World} {q : Nat} {cs : Array Value} (h : BRow w q cs) {j : Nat} (hj : j < cs.size) : w.frozen? ⟨q, j, none⟩ = false := by
  obtain ⟨m, h1, h2⟩ := h
  simp [World.frozen?, h1]
  omega
theorem BRow.set_ {w : World} {q : Nat} {cs : Array Value} (h : BRow w q cs) (i : Nat) (v : Value) : BRow (w.setCell ⟨q, i, none⟩ v) q (cs.setIfInBounds i v) := by
  obtain ⟨m, h1, h2⟩ := h
  exact ⟨m, by simp [World.setCell, Array.getElem?_modify, h1], by simpa using h2⟩
theorem BRow.all {w w' : World} {q : Nat} {cs : Array Value} (h : BRow w q cs) (hb : Below w.heap.size w w') : BRow w' q cs := by
  have hl := h.lt
  obtain ⟨m, h1, h2⟩ := h
  exact ⟨m, (hb.block q hl).trans h1, h2⟩
theorem cvB (w : World) (s : ByteArray) : ∃ (cap : Nat) (w' : World) (cs : Array Value), (convert 9 22 (.string s)).run Tryd.prog w = .ok (.slice (some ⟨w.heap.size, 0, none⟩) s.size cap) w' ∧ s.size ≤ cap ∧ Below w.heap.size w w' ∧ BRow w' w.heap.size cs ∧ s.size ≤ cs.size ∧ ∀ j (hj : j < s.data.toList.length), cs[j]? = some (.int .u8 (s.data.toList[j].toNat : Int)) := by
  have h := run_bytes_of_string w 9 22 5 s Tryd.underlying9 Tryd.underlying22 Tryd.underlying5
  refine ⟨_, _, bytesRow s (grownCap w s.size 0 5), h, grownCap_ge _ _ _ _, ?_, ⟨_, ?_, Nat.le_refl _⟩, ?_, fun j hj => ?_⟩
  · refine ⟨rfl, rfl, rfl, by simp, fun k hk => ?_⟩
    exact Below.heap_alloc w.drew _ k hk
  · exact heap_alloc_new w.drew _
  · unfold bytesRow
    rw [Array.size_append, Array.size_map]
    exact Nat.le_add_right _ _
  · have hj' : j < s.data.size := by simpa using hj
    rw [bytesRow_at s _ j hj']
    simp
theorem cvBack (w : World) (q cap k : Nat) (s : ByteArray) (cs : Array Value) (c : UInt8) (h : BRow w q (cs.setIfInBounds k (.int .u8 (c.toNat : Int)))) (hk : k < cs.size) (hc : ∀ j (hj : j < s.data.toList.length), cs[j]? = some (.int .u8 (s.data.toList[j].toNat : Int))) :
    (convert 22 9 (.slice (some ⟨q, 0, none⟩) s.size cap)).run Tryd.prog w = .ok (.string ⟨(s.data.toList.set k c).toArray⟩) w := by
  have h1 := run_convert_bytes_back w 22 9 5 ⟨q, 0, none⟩ cap (s.data.toList.set k c) Tryd.underlying22 Tryd.underlying5 Tryd.underlying9 (fun j hj => by
    have hj2 : j < s.data.toList.length := by simpa using hj
    have e : (⟨q, 0, none⟩ : Addr).add j = ⟨q, j, none⟩ := by unfold Addr.add; split <;> simp_all
    rw [e, h.cell j, Array.getElem?_setIfInBounds]
    by_cases hkj : k = j
    · subst hkj
      simp [hk]
    · rw [if_neg hkj, hc j hj2]
      simp [hkj])
  have hl : (s.data.toList.set k c).length = s.size := by rw [List.length_set]; exact Array.length_toList
  rw [hl] at h1
  exact h1
set_option maxRecDepth 100000 in
set_option maxHeartbeats 16000000 in
theorem fnStrings_walk (w : World) (A : Option Addr) (n c : Nat) (R : RdB w w.heap.size A n c) (HE : EnvP w) (HS : EnvS w) : Calls Tryd.prog 3 #[.slice A n c] w fun e w' => e = .returned (.bool true) ∧ Below w.heap.size w w' := by
  have hcap := R.cap
  have hmax := R.max
  unfold maxLen at hmax
  have HB := Below.refl w.heap.size w
  have HEN : Hid (∀ w', Below w.heap.size w w' → EnvP w' ∧ EnvS w') := Lib.hid fun w' hb => ⟨HE.below hb rfl, HS.below hb rfl⟩
  clear HE HS
  by_cases hn : n ≤ 65536
  · go_enter Tryd.func3, Tryd.ntmps3
    go_wp2_with fail
    refine (vBig_is A n c _ (by omega) false (by simp; omega)).mono ?_
    rintro e w' ⟨rfl, rfl⟩
    go_wp2_with fail
    refine (drawFormatInt_any A n c w.heap.size _ R HB.size hn).mono ?_
    rintro e w1 ⟨x, rfl, hx, hb⟩
    replace R := R.all hb HB.size
    replace HB := HB.trans (hb.mono HB.size)
    clear hb hx
    obtain ⟨fs, fo, hf, hfl, hfr⟩ := fmt_is x
    obtain ⟨bm, bo, hbk⟩ := rd_is fs.data.toList
    have HFI := Lib.hid (fun w ht => hf ▸ implFormat_any x w ht)
    have HFS := Lib.hid (fun w => hf ▸ specFormat_any x w)
    have HBK := Lib.hid (fun w he => hbk ▸ implParse_any fs w (by omega) he)
    have HBX : Hid (fo = true → bm = x ∧ bo = true) := Lib.hid fun h => by
      have h1 := (hfr h).symm.trans hbk
      injection h1 with h1
      injection h1 with h1
      simp at h1
      exact ⟨h1.1.symm, h1.2⟩
    clear hf hbk hfr hfl
    go_wp2_with fail
    refine (HFI.out _ (HEN.out _ HB).1.tab).mono ?_
    rintro e w2 ⟨rfl, hb⟩
    replace R := R.all hb HB.size
    replace HB := HB.trans (hb.mono HB.size)
    clear hb HFI
    go_wp2_with fail
    refine (HFS.out _).mono ?_
    rintro e w3 ⟨rfl, m3, rfl⟩
    replace R := R.all (low_drewN w2 m3) HB.size
    replace HB := HB.trans ((low_drewN w2 m3).mono HB.size)
    clear HFS
    go_wp2_with fail
    refine (drawParseInt_any A n c w.heap.size _ R HB.size hn).mono ?_
    rintro e w4 ⟨t, rfl, ht, hb⟩
    replace R := R.all hb HB.size
    replace HB := HB.trans (hb.mono HB.size)
    clear hb
    obtain ⟨gm, gb, hg⟩ := rd_is t.data.toList
    have HPI := Lib.hid (fun w he => hg ▸ implParse_any t w (by omega) he)
    have HPS := Lib.hid (fun w => hg ▸ specParse_any t w (by omega))
    clear hg ht
    go_wp2_with fail
    refine (HPI.out _ (HEN.out _ HB).1).mono ?_
    rintro e w5 ⟨rfl, hb⟩
    replace R := R.all hb HB.size
    replace HB := HB.trans (hb.mono HB.size)
    clear hb HPI
    go_wp2_with fail
    refine (HPS.out _).mono ?_
    rintro e w6 ⟨rfl, m6, rfl⟩
    replace R := R.all (low_drewN w5 m6) HB.size
    replace HB := HB.trans ((low_drewN w5 m6).mono HB.size)
    clear HPS
    go_wp2_with fail
    refine (drawAppendChecksum_any A n c w.heap.size _ R HB.size hn).mono ?_
    rintro e w7 ⟨xs, rfl, hxs, hb⟩
    replace R := R.all hb HB.size
    replace HB := HB.trans (hb.mono HB.size)
    clear hb
    obtain ⟨ys, yo, hy, hyl, hyn, hyy⟩ := ap_is xs
    have HAI := Lib.hid (fun w he => hy ▸ implAppend_any xs w (by omega) he)
    have HAS := Lib.hid (fun w => hy ▸ specAppend_any xs w (by omega))
    have HYN := Lib.hid hyn
    have HYY := Lib.hid hyy
    clear hy hyn hyy hxs
    go_wp2_with fail
    refine (HAI.out _ (HEN.out _ HB).2).mono ?_
    rintro e w8 ⟨rfl, hb⟩
    replace R := R.all hb HB.size
    replace HB := HB.trans (hb.mono HB.size)
    clear hb HAI
    go_wp2_with fail
    refine (HAS.out _).mono ?_
    rintro e w9 ⟨rfl, m9, rfl⟩
    replace R := R.all (low_drewN w8 m9) HB.size
    replace HB := HB.trans ((low_drewN w8 m9).mono HB.size)
    clear HAS
    go_wp2_with fail
    refine (HBK.out _ (HEN.out _ HB).1).mono ?_
    rintro e w10 ⟨rfl, hb⟩
    replace R := R.all hb HB.size
    replace HB := HB.trans (hb.mono HB.size)
    clear hb HBK
    cases fo
    · cases yo
      · obtain rfl := HYN.out rfl
        go_wp2
        go_ret
        exact ⟨rfl, HB⟩
      · go_wp2_with fail
        obtain ⟨hy1, hyv, hyc⟩ := HYY.out trivial
        refine (implVerify_any ys _ (by omega) (HEN.out _ HB).2).mono ?_
        rw [hyv]
        rintro e w11 ⟨rfl, hb⟩
        replace R := R.all hb HB.size
        replace HB := HB.trans (hb.mono HB.size)
        clear hb hyv HYY HYN HBX
        obtain ⟨cap, w12, cs, hcv, hcap2, hb, hR, hcs, hcc⟩ := cvB w11 ys
        replace R := R.all hb HB.size
        have HBq := HB
        replace HB := HB.trans (hb.mono HB.size)
        have hq := HBq.size
        clear hb
        go_wp2_with fail
        refine (vAt_any A n c w.heap.size 9 w12 R (by omega) hn).mono ?_
        rintro e w' ⟨⟨a9, rfl, a0, a1⟩, rfl⟩
        clear hcv
        obtain ⟨L, hL⟩ : ∃ L : Nat, L = ys.size := ⟨_, rfl⟩
        obtain ⟨k, hk⟩ : ∃ k : Nat, Int.tmod a9 (ys.size : Int) = (k : Int) := ⟨(Int.tmod a9 (ys.size : Int)).toNat, by rw [Int.toNat_of_nonneg]; rw [Int.tmod_eq_emod_of_nonneg a0]; exact Int.emod_nonneg _ (by omega)⟩
        have hkl : k < ys.size := by
          rw [Int.tmod_eq_emod_of_nonneg a0] at hk
          have := Int.emod_lt_of_pos a9 (show (0 : Int) < (ys.size : Int) by omega)
          omega
        go_wp2
        --BYTE{
        refine wp_region_noPanic ?_
        refine wp_region_held_drew (S := fun _ => True) (by kernel_rfl) (by go_keep) (fun hHeld => ?_)
        replace R := R.all (low_drewN w12 1) HB.size
        replace HB := HB.trans ((low_drewN w12 1).mono HB.size)
        replace hR := hR.all (low_drewN w12 1)
        obtain ⟨wd, hwd⟩ : ∃ v, w12.drew = v := ⟨_, rfl⟩
        rw [show w12.drewN 1 = w12.drew from rfl, hwd] at R HB hR
        rw [hwd]
        clear hwd
        have hbk := hcc k (by rw [Array.length_toList]; exact hkl)
        have u := hR.cell k
        rw [hbk] at u
        have z := hR.frozen (show k < cs.size by omega)
        refine wpAnyH_take (i := 0) (v := ?_) rfl (by kernel_rfl) (by kernel_rfl) (by kernel_rfl) (fun _ _ _ h => h) (Or.inl ⟨by rfl, ?_⟩) (by assumption) ?_
        rotate_left
        · intro w hSw; (try dsimp only at hSw); go_simp; (try with_reducible rfl)
        (try simp only [Act.put, List.getElem_toArray, List.getElem_cons_zero, List.setIfInBounds_toArray, List.set_cons_zero, List.set_cons_succ])
        refine wpAnyH_take (i := 1) (v := ?_) rfl (by kernel_rfl) (by kernel_rfl) (by kernel_rfl) (fun _ _ _ h => h) (Or.inl ⟨by rfl, ?_⟩) (by assumption) ?_
        rotate_left
        · intro w hSw; (try dsimp only at hSw); go_simp; (try with_reducible rfl)
        (try simp only [Act.put, List.getElem_toArray, List.getElem_cons_zero, List.getElem_cons_succ, List.setIfInBounds_toArray, List.set_cons_zero, List.set_cons_succ])
        refine wpAnyH_take (i := 2) (v := ?_) rfl (by kernel_rfl) (by kernel_rfl) (by kernel_rfl) (fun _ _ _ h => h) (Or.inl ⟨by rfl, ?_⟩) (by assumption) ?_
        rotate_left
        · intro w hSw; (try dsimp only at hSw); go_simp; (try with_reducible rfl)
        (try simp only [Act.put, List.getElem_toArray, List.getElem_cons_zero, List.getElem_cons_succ, List.setIfInBounds_toArray, List.set_cons_zero, List.set_cons_succ])
        refine wpAnyH_take (i := 3) (v := ?_) rfl (by kernel_rfl) (by kernel_rfl) (by kernel_rfl) (fun _ _ _ h => h) (Or.inl ⟨by rfl, ?_⟩) (by assumption) ?_
        rotate_left
        · intro w hSw; (try dsimp only at hSw); go_simp; (try with_reducible rfl)
        (try simp only [Act.put, List.getElem_toArray, List.getElem_cons_zero, List.getElem_cons_succ, List.setIfInBounds_toArray, List.set_cons_zero, List.set_cons_succ])
        refine wpAnyH_take (i := 4) (v := ?_) rfl (by kernel_rfl) (by kernel_rfl) (by kernel_rfl) (fun _ _ _ h => h) (Or.inl ⟨by rfl, ?_⟩) (by assumption) ?_
        rotate_left
        · intro w hSw; (try dsimp only at hSw); go_simp; (try with_reducible rfl)
        (try simp only [Act.put, List.getElem_toArray, List.getElem_cons_zero, List.getElem_cons_succ, List.setIfInBounds_toArray, List.set_cons_zero, List.set_cons_succ])
        refine wpAnyH_take (i := 6) (v := ?_) rfl (by kernel_rfl) (by kernel_rfl) (by kernel_rfl) (fun _ _ _ h => h) (Or.inl ⟨by rfl, ?_⟩) (by assumption) ?_
        rotate_left
        · intro w hSw; (try dsimp only at hSw); go_simp; (try with_reducible rfl)
        (try simp only [Act.put, List.getElem_toArray, List.getElem_cons_zero, List.getElem_cons_succ, List.setIfInBounds_toArray, List.set_cons_zero, List.set_cons_succ])
        clear hHeld
        refine wpAnyH_ready (rs := [5, 7]) (by kernel_rfl) (by simp) ?_
        refine AllReadyH.cons rfl (fun K hK => ?_) ?_
        · skip
          go_simp
          refine hK.out _ _ trivial (fun hHeld => ?_)
          clear hK K
          (try simp only [Act.put, List.getElem_toArray, List.getElem_cons_zero, List.getElem_cons_succ, List.setIfInBounds_toArray, List.set_cons_zero, List.set_cons_succ])
          clear hHeld
          refine wpAnyH_ready (rs := [7]) (by kernel_rfl) (by simp) ?_
          refine AllReadyH.cons rfl (fun K hK => ?_) AllReadyH.nil
          go_simp
          refine (vAt_any A n c w.heap.size 10 wd R (by omega) hn).mono ?_
          rintro e w' ⟨⟨a10, rfl, b0, b1⟩, rfl⟩
          refine hK.out _ _ trivial (fun hHeld => ?_)
          clear hK K
          (try simp only [Act.put, List.getElem_toArray, List.getElem_cons_zero, List.getElem_cons_succ, List.setIfInBounds_toArray, List.set_cons_zero, List.set_cons_succ])
          refine wpAnyH_take (i := 8) (v := ?_) rfl (by kernel_rfl) (by kernel_rfl) (by kernel_rfl) (fun _ _ _ h => h) (Or.inl ⟨by rfl, ?_⟩) (by assumption) ?_
          rotate_left
          · intro w hSw; (try dsimp only at hSw); go_simp; (try with_reducible rfl)
          (try simp only [Act.put, List.getElem_toArray, List.getElem_cons_zero, List.getElem_cons_succ, List.setIfInBounds_toArray, List.set_cons_zero, List.set_cons_succ])
          refine wpAnyH_take (i := 9) (v := ?_) rfl (by kernel_rfl) (by kernel_rfl) (by kernel_rfl) (fun _ _ _ h => h) (Or.inl ⟨by rfl, ?_⟩) (by assumption) ?_
          rotate_left
          · intro w hSw; (try dsimp only at hSw); go_simp; (try with_reducible rfl)
          (try simp only [Act.put, List.getElem_toArray, List.getElem_cons_zero, List.getElem_cons_succ, List.setIfInBounds_toArray, List.set_cons_zero, List.set_cons_succ])
          refine wpAnyH_take (i := 10) (v := ?_) rfl (by kernel_rfl) (by kernel_rfl) (by kernel_rfl) (fun _ _ _ h => h) (Or.inl ⟨by rfl, ?_⟩) (by assumption) ?_
          rotate_left
          · intro w hSw; (try dsimp only at hSw); go_simp; (try with_reducible rfl)
          (try simp only [Act.put, List.getElem_toArray, List.getElem_cons_zero, List.getElem_cons_succ, List.setIfInBounds_toArray, List.set_cons_zero, List.set_cons_succ])
          refine wpAnyH_take (i := 11) (v := ?_) rfl (by kernel_rfl) (by kernel_rfl) (by kernel_rfl) (fun _ _ _ h => h) (Or.inl ⟨by rfl, ?_⟩) (by assumption) ?_
          rotate_left
          · intro w hSw; (try dsimp only at hSw); go_simp; (try with_reducible rfl)
          (try simp only [Act.put, List.getElem_toArray, List.getElem_cons_zero, List.getElem_cons_succ, List.setIfInBounds_toArray, List.set_cons_zero, List.set_cons_succ])
          refine wpAnyH_take (i := 12) (v := ?_) rfl (by kernel_rfl) (by kernel_rfl) (by kernel_rfl) (fun _ _ _ h => h) (Or.inl ⟨by rfl, ?_⟩) (by assumption) ?_
          rotate_left
          · intro w hSw; (try dsimp only at hSw); go_simp; (try with_reducible rfl)
          (try simp only [Act.put, List.getElem_toArray, List.getElem_cons_zero, List.getElem_cons_succ, List.setIfInBounds_toArray, List.set_cons_zero, List.set_cons_succ])
          clear hHeld
          refine wpAnyH_ready (rs := [13]) (by kernel_rfl) (by simp) ?_
          refine AllReadyH.cons rfl (fun K hK => ?_) AllReadyH.nil
          skip
          go_simp
          refine hK.out _ _ trivial (fun hHeld => ?_)
          clear hK K
          (try simp only [Act.put, List.getElem_toArray, List.getElem_cons_zero, List.getElem_cons_succ, List.setIfInBounds_toArray, List.set_cons_zero, List.set_cons_succ])
          refine wpAnyH_done (by kernel_rfl) ?_ _
          refine NoPanic.normal ?_
          obtain ⟨cc, hc1, hc2⟩ := xor_byte (ys.data[k]'hkl) (1 + a10 % 255) (by omega) (by omega)
          rw [wrapd a10 b0, hc1]
          have hR2 := hR.set_ k (.int .u8 (cc.toNat : Int))
          have hcb := cvBack _ w11.heap.size cap k ys cs cc hR2 (by omega) hcc
          have HB2 : Below w.heap.size w (wd.setCell ⟨w11.heap.size, k, none⟩ (.int .u8 (cc.toNat : Int))) := ⟨HB.os, HB.tape, HB.output, Nat.le_trans HB.size (by simp [World.setCell]), fun i hi => (heap_setCell_other wd ⟨w11.heap.size, k, none⟩ i _ (by show i ≠ w11.heap.size; omega)).trans (HB.block i hi)⟩
          obtain ⟨w13, h13⟩ : ∃ v, wd.setCell ⟨w11.heap.size, k, none⟩ (.int .u8 (cc.toNat : Int)) = v := ⟨_, rfl⟩
          rw [h13] at hR2 hcb HB2 ⊢
          clear h13 hR hc1 u z hbk R HB hHeld hR2
          go_wp2_with fail
          refine (implVerify_any _ _ (by show (ys.data.toList.set k cc).toArray.size ≤ _; rw [List.size_toArray, List.length_set, Array.length_toList]; exact Nat.le_trans hyl (by omega)) (HEN.out _ HB2).2).mono ?_
          rw [hyc ⟨(ys.data.toList.set k cc).toArray⟩ k cc (by rw [Array.length_toList]; exact hkl) (by simpa using hc2) (by simp)]
          rintro e w14 ⟨rfl, hb⟩
          go_wp2
          go_ret
          exact ⟨ret_bool (by simp), HB2.trans (hb.mono HB2.size)⟩
        refine AllReadyH.cons rfl (fun K hK => ?_) AllReadyH.nil
        go_simp
        refine (vAt_any A n c w.heap.size 10 wd R (by omega) hn).mono ?_
        rintro e w' ⟨⟨a10, rfl, b0, b1⟩, rfl⟩
        refine hK.out _ _ trivial (fun hHeld => ?_)
        clear hK K
        (try simp only [Act.put, List.getElem_toArray, List.getElem_cons_zero, List.getElem_cons_succ, List.setIfInBounds_toArray, List.set_cons_zero, List.set_cons_succ])
        refine wpAnyH_take (i := 8) (v := ?_) rfl (by kernel_rfl) (by kernel_rfl) (by kernel_rfl) (fun _ _ _ h => h) (Or.inl ⟨by rfl, ?_⟩) (by assumption) ?_
        rotate_left
        · intro w hSw; (try dsimp only at hSw); go_simp; (try with_reducible rfl)
        (try simp only [Act.put, List.getElem_toArray, List.getElem_cons_zero, List.getElem_cons_succ, List.setIfInBounds_toArray, List.set_cons_zero, List.set_cons_succ])
        refine wpAnyH_take (i := 9) (v := ?_) rfl (by kernel_rfl) (by kernel_rfl) (by kernel_rfl) (fun _ _ _ h => h) (Or.inl ⟨by rfl, ?_⟩) (by assumption) ?_
        rotate_left
        · intro w hSw; (try dsimp only at hSw); go_simp; (try with_reducible rfl)
        (try simp only [Act.put, List.getElem_toArray, List.getElem_cons_zero, List.getElem_cons_succ, List.setIfInBounds_toArray, List.set_cons_zero, List.set_cons_succ])
        refine wpAnyH_take (i := 10) (v := ?_) rfl (by kernel_rfl) (by kernel_rfl) (by kernel_rfl) (fun _ _ _ h => h) (Or.inl ⟨by rfl, ?_⟩) (by assumption) ?_
        rotate_left
        · intro w hSw; (try dsimp only at hSw); go_simp; (try with_reducible rfl)
        (try simp only [Act.put, List.getElem_toArray, List.getElem_cons_zero, List.getElem_cons_succ, List.setIfInBounds_toArray, List.set_cons_zero, List.set_cons_succ])
        clear hHeld
        refine wpAnyH_ready (rs := [5]) (by kernel_rfl) (by simp) ?_
        refine AllReadyH.cons rfl (fun K hK => ?_) AllReadyH.nil
        go_simp
        refine hK.out _ _ trivial (fun hHeld => ?_)
        clear hK K
        (try simp only [Act.put, List.getElem_toArray, List.getElem_cons_zero, List.getElem_cons_succ, List.setIfInBounds_toArray, List.set_cons_zero, List.set_cons_succ])
        refine wpAnyH_take (i := 11) (v := ?_) rfl (by kernel_rfl) (by kernel_rfl) (by kernel_rfl) (fun _ _ _ h => h) (Or.inl ⟨by rfl, ?_⟩) (by assumption) ?_
        rotate_left
        · intro w hSw; (try dsimp only at hSw); go_simp; (try with_reducible rfl)
        (try simp only [Act.put, List.getElem_toArray, List.getElem_cons_zero, List.getElem_cons_succ, List.setIfInBounds_toArray, List.set_cons_zero, List.set_cons_succ])
        refine wpAnyH_take (i := 12) (v := ?_) rfl (by kernel_rfl) (by kernel_rfl) (by kernel_rfl) (fun _ _ _ h => h) (Or.inl ⟨by rfl, ?_⟩) (by assumption) ?_
        rotate_left
        · intro w hSw; (try dsimp only at hSw); go_simp; (try with_reducible rfl)
        (try simp only [Act.put, List.getElem_toArray, List.getElem_cons_zero, List.getElem_cons_succ, List.setIfInBounds_toArray, List.set_cons_zero, List.set_cons_succ])
        clear hHeld
        refine wpAnyH_ready (rs := [13]) (by kernel_rfl) (by simp) ?_
        refine AllReadyH.cons rfl (fun K hK => ?_) AllReadyH.nil
        skip
        go_simp
        refine hK.out _ _ trivial (fun hHeld => ?_)
        clear hK K
        (try simp only [Act.put, List.getElem_toArray, List.getElem_cons_zero, List.getElem_cons_succ, List.setIfInBounds_toArray, List.set_cons_zero, List.set_cons_succ])
        refine wpAnyH_done (by kernel_rfl) ?_ _
        refine NoPanic.normal ?_
        obtain ⟨cc, hc1, hc2⟩ := xor_byte (ys.data[k]'hkl) (1 + a10 % 255) (by omega) (by omega)
        rw [wrapd a10 b0, hc1]
        have hR2 := hR.set_ k (.int .u8 (cc.toNat : Int))
        have hcb := cvBack _ w11.heap.size cap k ys cs cc hR2 (by omega) hcc
        have HB2 : Below w.heap.size w (wd.setCell ⟨w11.heap.size, k, none⟩ (.int .u8 (cc.toNat : Int))) := ⟨HB.os, HB.tape, HB.output, Nat.le_trans HB.size (by simp [World.setCell]), fun i hi => (heap_setCell_other wd ⟨w11.heap.size, k, none⟩ i _ (by show i ≠ w11.heap.size; omega)).trans (HB.block i hi)⟩
        obtain ⟨w13, h13⟩ : ∃ v, wd.setCell ⟨w11.heap.size, k, none⟩ (.int .u8 (cc.toNat : Int)) = v := ⟨_, rfl⟩
        rw [h13] at hR2 hcb HB2 ⊢
        clear h13 hR hc1 u z hbk R HB hHeld hR2
        go_wp2_with fail
        refine (implVerify_any _ _ (by show (ys.data.toList.set k cc).toArray.size ≤ _; rw [List.size_toArray, List.length_set, Array.length_toList]; exact Nat.le_trans hyl (by omega)) (HEN.out _ HB2).2).mono ?_
        rw [hyc ⟨(ys.data.toList.set k cc).toArray⟩ k cc (by rw [Array.length_toList]; exact hkl) (by simpa using hc2) (by simp)]
        rintro e w14 ⟨rfl, hb⟩
        go_wp2
        go_ret
        exact ⟨ret_bool (by simp), HB2.trans (hb.mono HB2.size)⟩
        --BYTE}
    · obtain ⟨rfl, rfl⟩ := HBX.out rfl
      cases yo
      · obtain rfl := HYN.out rfl
        go_wp2
        go_ret
        exact ⟨rfl, HB⟩
      · go_wp2_with fail
        obtain ⟨hy1, hyv, hyc⟩ := HYY.out trivial
        refine (implVerify_any ys _ (by omega) (HEN.out _ HB).2).mono ?_
        rw [hyv]
        rintro e w11 ⟨rfl, hb⟩
        replace R := R.all hb HB.size
        replace HB := HB.trans (hb.mono HB.size)
        clear hb hyv HYY HYN HBX
        obtain ⟨cap, w12, cs, hcv, hcap2, hb, hR, hcs, hcc⟩ := cvB w11 ys
        replace R := R.all hb HB.size
        have HBq := HB
        replace HB := HB.trans (hb.mono HB.size)
        have hq := HBq.size
        clear hb
        go_wp2_with fail
        refine (vAt_any A n c w.heap.size 9 w12 R (by omega) hn).mono ?_
        rintro e w' ⟨⟨a9, rfl, a0, a1⟩, rfl⟩
        clear hcv
        obtain ⟨L, hL⟩ : ∃ L : Nat, L = ys.size := ⟨_, rfl⟩
        obtain ⟨k, hk⟩ : ∃ k : Nat, Int.tmod a9 (ys.size : Int) = (k : Int) := ⟨(Int.tmod a9 (ys.size : Int)).toNat, by rw [Int.toNat_of_nonneg]; rw [Int.tmod_eq_emod_of_nonneg a0]; exact Int.emod_nonneg _ (by omega)⟩
        have hkl : k < ys.size := by
          rw [Int.tmod_eq_emod_of_nonneg a0] at hk
          have := Int.emod_lt_of_pos a9 (show (0 : Int) < (ys.size : Int) by omega)
          omega
        go_wp2
        --again{
        refine wp_region_noPanic ?_
        refine wp_region_held_drew (S := fun _ => True) (by kernel_rfl) (by go_keep) (fun hHeld => ?_)
        replace R := R.all (low_drewN w12 1) HB.size
        replace HB := HB.trans ((low_drewN w12 1).mono HB.size)
        replace hR := hR.all (low_drewN w12 1)
        obtain ⟨wd, hwd⟩ : ∃ v, w12.drew = v := ⟨_, rfl⟩
        rw [show w12.drewN 1 = w12.drew from rfl, hwd] at R HB hR
        rw [hwd]
        clear hwd
        have hbk := hcc k (by rw [Array.length_toList]; exact hkl)
        have u := hR.cell k
        rw [hbk] at u
        have z := hR.frozen (show k < cs.size by omega)
        refine wpAnyH_take (i := 0) (v := ?_) rfl (by kernel_rfl) (by kernel_rfl) (by kernel_rfl) (fun _ _ _ h => h) (Or.inl ⟨by rfl, ?_⟩) (by assumption) ?_
        rotate_left
        · intro w hSw; (try dsimp only at hSw); go_simp; (try with_reducible rfl)
        (try simp only [Act.put, List.getElem_toArray, List.getElem_cons_zero, List.setIfInBounds_toArray, List.set_cons_zero, List.set_cons_succ])
        refine wpAnyH_take (i := 1) (v := ?_) rfl (by kernel_rfl) (by kernel_rfl) (by kernel_rfl) (fun _ _ _ h => h) (Or.inl ⟨by rfl, ?_⟩) (by assumption) ?_
        rotate_left
        · intro w hSw; (try dsimp only at hSw); go_simp; (try with_reducible rfl)
        (try simp only [Act.put, List.getElem_toArray, List.getElem_cons_zero, List.getElem_cons_succ, List.setIfInBounds_toArray, List.set_cons_zero, List.set_cons_succ])
        refine wpAnyH_take (i := 2) (v := ?_) rfl (by kernel_rfl) (by kernel_rfl) (by kernel_rfl) (fun _ _ _ h => h) (Or.inl ⟨by rfl, ?_⟩) (by assumption) ?_
        rotate_left
        · intro w hSw; (try dsimp only at hSw); go_simp; (try with_reducible rfl)
        (try simp only [Act.put, List.getElem_toArray, List.getElem_cons_zero, List.getElem_cons_succ, List.setIfInBounds_toArray, List.set_cons_zero, List.set_cons_succ])
        refine wpAnyH_take (i := 3) (v := ?_) rfl (by kernel_rfl) (by kernel_rfl) (by kernel_rfl) (fun _ _ _ h => h) (Or.inl ⟨by rfl, ?_⟩) (by assumption) ?_
        rotate_left
        · intro w hSw; (try dsimp only at hSw); go_simp; (try with_reducible rfl)
        (try simp only [Act.put, List.getElem_toArray, List.getElem_cons_zero, List.getElem_cons_succ, List.setIfInBounds_toArray, List.set_cons_zero, List.set_cons_succ])
        refine wpAnyH_take (i := 4) (v := ?_) rfl (by kernel_rfl) (by kernel_rfl) (by kernel_rfl) (fun _ _ _ h => h) (Or.inl ⟨by rfl, ?_⟩) (by assumption) ?_
        rotate_left
        · intro w hSw; (try dsimp only at hSw); go_simp; (try with_reducible rfl)
        (try simp only [Act.put, List.getElem_toArray, List.getElem_cons_zero, List.getElem_cons_succ, List.setIfInBounds_toArray, List.set_cons_zero, List.set_cons_succ])
        refine wpAnyH_take (i := 6) (v := ?_) rfl (by kernel_rfl) (by kernel_rfl) (by kernel_rfl) (fun _ _ _ h => h) (Or.inl ⟨by rfl, ?_⟩) (by assumption) ?_
        rotate_left
        · intro w hSw; (try dsimp only at hSw); go_simp; (try with_reducible rfl)
        (try simp only [Act.put, List.getElem_toArray, List.getElem_cons_zero, List.getElem_cons_succ, List.setIfInBounds_toArray, List.set_cons_zero, List.set_cons_succ])
        clear hHeld
        refine wpAnyH_ready (rs := [5, 7]) (by kernel_rfl) (by simp) ?_
        refine AllReadyH.cons rfl (fun K hK => ?_) ?_
        · skip
          go_simp
          refine hK.out _ _ trivial (fun hHeld => ?_)
          clear hK K
          (try simp only [Act.put, List.getElem_toArray, List.getElem_cons_zero, List.getElem_cons_succ, List.setIfInBounds_toArray, List.set_cons_zero, List.set_cons_succ])
          clear hHeld
          refine wpAnyH_ready (rs := [7]) (by kernel_rfl) (by simp) ?_
          refine AllReadyH.cons rfl (fun K hK => ?_) AllReadyH.nil
          go_simp
          refine (vAt_any A n c w.heap.size 10 wd R (by omega) hn).mono ?_
          rintro e w' ⟨⟨a10, rfl, b0, b1⟩, rfl⟩
          refine hK.out _ _ trivial (fun hHeld => ?_)
          clear hK K
          (try simp only [Act.put, List.getElem_toArray, List.getElem_cons_zero, List.getElem_cons_succ, List.setIfInBounds_toArray, List.set_cons_zero, List.set_cons_succ])
          refine wpAnyH_take (i := 8) (v := ?_) rfl (by kernel_rfl) (by kernel_rfl) (by kernel_rfl) (fun _ _ _ h => h) (Or.inl ⟨by rfl, ?_⟩) (by assumption) ?_
          rotate_left
          · intro w hSw; (try dsimp only at hSw); go_simp; (try with_reducible rfl)
          (try simp only [Act.put, List.getElem_toArray, List.getElem_cons_zero, List.getElem_cons_succ, List.setIfInBounds_toArray, List.set_cons_zero, List.set_cons_succ])
          refine wpAnyH_take (i := 9) (v := ?_) rfl (by kernel_rfl) (by kernel_rfl) (by kernel_rfl) (fun _ _ _ h => h) (Or.inl ⟨by rfl, ?_⟩) (by assumption) ?_
          rotate_left
          · intro w hSw; (try dsimp only at hSw); go_simp; (try with_reducible rfl)
          (try simp only [Act.put, List.getElem_toArray, List.getElem_cons_zero, List.getElem_cons_succ, List.setIfInBounds_toArray, List.set_cons_zero, List.set_cons_succ])
          refine wpAnyH_take (i := 10) (v := ?_) rfl (by kernel_rfl) (by kernel_rfl) (by kernel_rfl) (fun _ _ _ h => h) (Or.inl ⟨by rfl, ?_⟩) (by assumption) ?_
          rotate_left
          · intro w hSw; (try dsimp only at hSw); go_simp; (try with_reducible rfl)
          (try simp only [Act.put, List.getElem_toArray, List.getElem_cons_zero, List.getElem_cons_succ, List.setIfInBounds_toArray, List.set_cons_zero, List.set_cons_succ])
          refine wpAnyH_take (i := 11) (v := ?_) rfl (by kernel_rfl) (by kernel_rfl) (by kernel_rfl) (fun _ _ _ h => h) (Or.inl ⟨by rfl, ?_⟩) (by assumption) ?_
          rotate_left
          · intro w hSw; (try dsimp only at hSw); go_simp; (try with_reducible rfl)
          (try simp only [Act.put, List.getElem_toArray, List.getElem_cons_zero, List.getElem_cons_succ, List.setIfInBounds_toArray, List.set_cons_zero, List.set_cons_succ])
          refine wpAnyH_take (i := 12) (v := ?_) rfl (by kernel_rfl) (by kernel_rfl) (by kernel_rfl) (fun _ _ _ h => h) (Or.inl ⟨by rfl, ?_⟩) (by assumption) ?_
          rotate_left
          · intro w hSw; (try dsimp only at hSw); go_simp; (try with_reducible rfl)
          (try simp only [Act.put, List.getElem_toArray, List.getElem_cons_zero, List.getElem_cons_succ, List.setIfInBounds_toArray, List.set_cons_zero, List.set_cons_succ])
          clear hHeld
          refine wpAnyH_ready (rs := [13]) (by kernel_rfl) (by simp) ?_
          refine AllReadyH.cons rfl (fun K hK => ?_) AllReadyH.nil
          skip
          go_simp
          refine hK.out _ _ trivial (fun hHeld => ?_)
          clear hK K
          (try simp only [Act.put, List.getElem_toArray, List.getElem_cons_zero, List.getElem_cons_succ, List.setIfInBounds_toArray, List.set_cons_zero, List.set_cons_succ])
          refine wpAnyH_done (by kernel_rfl) ?_ _
          refine NoPanic.normal ?_
          obtain ⟨cc, hc1, hc2⟩ := xor_byte (ys.data[k]'hkl) (1 + a10 % 255) (by omega) (by omega)
          rw [wrapd a10 b0, hc1]
          have hR2 := hR.set_ k (.int .u8 (cc.toNat : Int))
          have hcb := cvBack _ w11.heap.size cap k ys cs cc hR2 (by omega) hcc
          have HB2 : Below w.heap.size w (wd.setCell ⟨w11.heap.size, k, none⟩ (.int .u8 (cc.toNat : Int))) := ⟨HB.os, HB.tape, HB.output, Nat.le_trans HB.size (by simp [World.setCell]), fun i hi => (heap_setCell_other wd ⟨w11.heap.size, k, none⟩ i _ (by show i ≠ w11.heap.size; omega)).trans (HB.block i hi)⟩
          obtain ⟨w13, h13⟩ : ∃ v, wd.setCell ⟨w11.heap.size, k, none⟩ (.int .u8 (cc.toNat : Int)) = v := ⟨_, rfl⟩
          rw [h13] at hR2 hcb HB2 ⊢
          clear h13 hR hc1 u z hbk R HB hHeld hR2
          go_wp2_with fail
          refine (implVerify_any _ _ (by show (ys.data.toList.set k cc).toArray.size ≤ _; rw [List.size_toArray, List.length_set, Array.length_toList]; exact Nat.le_trans hyl (by omega)) (HEN.out _ HB2).2).mono ?_
          rw [hyc ⟨(ys.data.toList.set k cc).toArray⟩ k cc (by rw [Array.length_toList]; exact hkl) (by simpa using hc2) (by simp)]
          rintro e w14 ⟨rfl, hb⟩
          go_wp2
          go_ret
          exact ⟨ret_bool (by simp), HB2.trans (hb.mono HB2.size)⟩
        refine AllReadyH.cons rfl (fun K hK => ?_) AllReadyH.nil
        go_simp
        refine (vAt_any A n c w.heap.size 10 wd R (by omega) hn).mono ?_
        rintro e w' ⟨⟨a10, rfl, b0, b1⟩, rfl⟩
        refine hK.out _ _ trivial (fun hHeld => ?_)
        clear hK K
        (try simp only [Act.put, List.getElem_toArray, List.getElem_cons_zero, List.getElem_cons_succ, List.setIfInBounds_toArray, List.set_cons_zero, List.set_cons_succ])
        refine wpAnyH_take (i := 8) (v := ?_) rfl (by kernel_rfl) (by kernel_rfl) (by kernel_rfl) (fun _ _ _ h => h) (Or.inl ⟨by rfl, ?_⟩) (by assumption) ?_
        rotate_left
        · intro w hSw; (try dsimp only at hSw); go_simp; (try with_reducible rfl)
        (try simp only [Act.put, List.getElem_toArray, List.getElem_cons_zero, List.getElem_cons_succ, List.setIfInBounds_toArray, List.set_cons_zero, List.set_cons_succ])
        refine wpAnyH_take (i := 9) (v := ?_) rfl (by kernel_rfl) (by kernel_rfl) (by kernel_rfl) (fun _ _ _ h => h) (Or.inl ⟨by rfl, ?_⟩) (by assumption) ?_
        rotate_left
        · intro w hSw; (try dsimp only at hSw); go_simp; (try with_reducible rfl)
        (try simp only [Act.put, List.getElem_toArray, List.getElem_cons_zero, List.getElem_cons_succ, List.setIfInBounds_toArray, List.set_cons_zero, List.set_cons_succ])
        refine wpAnyH_take (i := 10) (v := ?_) rfl (by kernel_rfl) (by kernel_rfl) (by kernel_rfl) (fun _ _ _ h => h) (Or.inl ⟨by rfl, ?_⟩) (by assumption) ?_
        rotate_left
        · intro w hSw; (try dsimp only at hSw); go_simp; (try with_reducible rfl)
        (try simp only [Act.put, List.getElem_toArray, List.getElem_cons_zero, List.getElem_cons_succ, List.setIfInBounds_toArray, List.set_cons_zero, List.set_cons_succ])
        clear hHeld
        refine wpAnyH_ready (rs := [5]) (by kernel_rfl) (by simp) ?_
        refine AllReadyH.cons rfl (fun K hK => ?_) AllReadyH.nil
        go_simp
        refine hK.out _ _ trivial (fun hHeld => ?_)
        clear hK K
        (try simp only [Act.put, List.getElem_toArray, List.getElem_cons_zero, List.getElem_cons_succ, List.setIfInBounds_toArray, List.set_cons_zero, List.set_cons_succ])
        refine wpAnyH_take (i := 11) (v := ?_) rfl (by kernel_rfl) (by kernel_rfl) (by kernel_rfl) (fun _ _ _ h => h) (Or.inl ⟨by rfl, ?_⟩) (by assumption) ?_
        rotate_left
        · intro w hSw; (try dsimp only at hSw); go_simp; (try with_reducible rfl)
        (try simp only [Act.put, List.getElem_toArray, List.getElem_cons_zero, List.getElem_cons_succ, List.setIfInBounds_toArray, List.set_cons_zero, List.set_cons_succ])
        refine wpAnyH_take (i := 12) (v := ?_) rfl (by kernel_rfl) (by kernel_rfl) (by kernel_rfl) (fun _ _ _ h => h) (Or.inl ⟨by rfl, ?_⟩) (by assumption) ?_
        rotate_left
        · intro w hSw; (try dsimp only at hSw); go_simp; (try with_reducible rfl)
        (try simp only [Act.put, List.getElem_toArray, List.getElem_cons_zero, List.getElem_cons_succ, List.setIfInBounds_toArray, List.set_cons_zero, List.set_cons_succ])
        clear hHeld
        refine wpAnyH_ready (rs := [13]) (by kernel_rfl) (by simp) ?_
        refine AllReadyH.cons rfl (fun K hK => ?_) AllReadyH.nil
        skip
        go_simp
        refine hK.out _ _ trivial (fun hHeld => ?_)
        clear hK K
        (try simp only [Act.put, List.getElem_toArray, List.getElem_cons_zero, List.getElem_cons_succ, List.setIfInBounds_toArray, List.set_cons_zero, List.set_cons_succ])
        refine wpAnyH_done (by kernel_rfl) ?_ _
        refine NoPanic.normal ?_
        obtain ⟨cc, hc1, hc2⟩ := xor_byte (ys.data[k]'hkl) (1 + a10 % 255) (by omega) (by omega)
        rw [wrapd a10 b0, hc1]
        have hR2 := hR.set_ k (.int .u8 (cc.toNat : Int))
        have hcb := cvBack _ w11.heap.size cap k ys cs cc hR2 (by omega) hcc
        have HB2 : Below w.heap.size w (wd.setCell ⟨w11.heap.size, k, none⟩ (.int .u8 (cc.toNat : Int))) := ⟨HB.os, HB.tape, HB.output, Nat.le_trans HB.size (by simp [World.setCell]), fun i hi => (heap_setCell_other wd ⟨w11.heap.size, k, none⟩ i _ (by show i ≠ w11.heap.size; omega)).trans (HB.block i hi)⟩
        obtain ⟨w13, h13⟩ : ∃ v, wd.setCell ⟨w11.heap.size, k, none⟩ (.int .u8 (cc.toNat : Int)) = v := ⟨_, rfl⟩
        rw [h13] at hR2 hcb HB2 ⊢
        clear h13 hR hc1 u z hbk R HB hHeld hR2
        go_wp2_with fail
        refine (implVerify_any _ _ (by show (ys.data.toList.set k cc).toArray.size ≤ _; rw [List.size_toArray, List.length_set, Array.length_toList]; exact Nat.le_trans hyl (by omega)) (HEN.out _ HB2).2).mono ?_
        rw [hyc ⟨(ys.data.toList.set k cc).toArray⟩ k cc (by rw [Array.length_toList]; exact hkl) (by simpa using hc2) (by simp)]
        rintro e w14 ⟨rfl, hb⟩
        go_wp2
        go_ret
        exact ⟨ret_bool (by simp), HB2.trans (hb.mono HB2.size)⟩
        --again}
  · go_enter Tryd.func3, Tryd.ntmps3
    go_wp2_with fail
    refine (vBig_is A n c _ (by omega) true (by simp; omega)).mono ?_
    rintro e w' ⟨rfl, rfl⟩
    go_wp2
    go_ret
    exact ⟨rfl, HB⟩
end Go.Proofs.YtojfjadmgaogcaaDoor
