/- The walks of chapter 1's draws: a text and a sign, texts and a sign, two texts. Condition: a code of at most 65536 bytes. -/
import Derived.Test.YtdfijojkkmpllaaOf
import Derived.Test.YtdfijojkkmpllaaBytes
namespace Go.Proofs.Ytdfijojkkmpllaa
open Go.RowKit

theorem cur_new {w : World} {B n c : Nat} {A : Option Addr} (h : RdB w B A n c) (hB : B ≤ w.heap.size) (hn : n ≤ 65536) : Cur (w.alloc (.cells #[.slice A n c, .int .i64 0, .int .u64 0] 41)) w.heap.size 0 :=
  ⟨B, A, n, c, 0, 0, Blk.new _ _ _, h.alloc hB _, hB, hn, Nat.le_refl _⟩
theorem vBig_eq (A : Option Addr) (n c : Nat) (w : World) (hn : n ≤ 9223372036854775807) (d : Bool) (hd : decide (65536 < n) = d) : Calls Try.prog 6 #[.slice A n c] w fun e w' => e = .returned (.bool d) ∧ w = w' := by
  subst hd
  go_enter Try.func6, Try.ntmps6
  go_wp2
  go_ret
  exact ⟨ret_bool (by rw [Bool.eq_iff_iff]; simp <;> omega), rfl⟩
def sepL : List ByteArray := [⟨#[44]⟩, ⟨#[44]⟩, ⟨#[32]⟩, ⟨#[]⟩, ⟨#[44, 44]⟩]
theorem sepL_bd : ∀ x ∈ sepL, x.size ≤ 10 := by decide
def markL : List ByteArray := [⟨#[44]⟩, ⟨#[59]⟩, ⟨#[59]⟩, ⟨#[]⟩, ⟨#[97, 98]⟩]
theorem markL_bd : ∀ x ∈ markL, x.size ≤ 10 := by decide
set_option maxRecDepth 100000 in
set_option maxHeartbeats 400000 in
theorem drawSplitString_any (A : Option Addr) (n c B : Nat) (w : World) (h : RdB w B A n c) (hB : B ≤ w.heap.size) (hn : n ≤ 65536) : Calls Try.prog 7 #[.slice A n c] w fun e w' => ∃ a b : ByteArray, e = .returned (.tuple #[.string a, .string b]) ∧ a.size ≤ 10 ∧ b.size ≤ 10 ∧ Below w.heap.size w w' := by
  have hc0 := cur_new h hB hn
  have hb0 := (Below.refl w.heap.size w).alloc (Nat.le_refl _) (.cells #[.slice A n c, .int .i64 0, .int .u64 0] 41)
  clear h
  go_enter Try.func7, Try.ntmps7
  go_wp2_with fail
  refine (any1_any w.heap.size 0 _ hc0 (by omega)).mono ?_
  rintro e w1 ⟨a, rfl, ha, hc1, hg1⟩
  have HB1 := hb0.trans (grown_below (B := w.heap.size) hg1 (Nat.le_refl _) (by simp))
  clear hc0 hg1 hb0
  go_wp2_with fail
  refine (of_lit w.heap.size (0 + 2) w1.heap.size 5 sepL w1 rfl rfl hc1 (by omega) (by decide) (by decide) (fun x hx => by have := sepL_bd x hx; unfold maxLen; omega)).mono ?_
  rintro e w2 ⟨b, rfl, hy, hc2, hg2⟩
  have hb := sepL_bd b hy
  have HB2 := HB1.trans (grown_below (B := w.heap.size) hg2 (Nat.le_refl _) HB1.size)
  clear hc1 hc2 hg2 hy
  go_wp2
  go_ret2
  exact ⟨a, b, rfl, ha, hb, HB2⟩
set_option maxRecDepth 100000 in
set_option maxHeartbeats 400000 in
theorem drawLessString_any (A : Option Addr) (n c B : Nat) (w : World) (h : RdB w B A n c) (hB : B ≤ w.heap.size) (hn : n ≤ 65536) : Calls Try.prog 12 #[.slice A n c] w fun e w' => ∃ a b : ByteArray, e = .returned (.tuple #[.string a, .string b]) ∧ a.size ≤ 10 ∧ b.size ≤ 10 ∧ Below w.heap.size w w' := by
  have hc0 := cur_new h hB hn
  have hb0 := (Below.refl w.heap.size w).alloc (Nat.le_refl _) (.cells #[.slice A n c, .int .i64 0, .int .u64 0] 41)
  clear h
  go_enter Try.func12, Try.ntmps12
  go_wp2_with fail
  refine (any1_any w.heap.size 0 _ hc0 (by omega)).mono ?_
  rintro e w1 ⟨a, rfl, ha, hc1, hg1⟩
  have HB1 := hb0.trans (grown_below (B := w.heap.size) hg1 (Nat.le_refl _) (by simp))
  clear hc0 hg1 hb0
  go_wp2_with fail
  refine (any1_any w.heap.size (0 + 2) _ hc1 (by omega)).mono ?_
  rintro e w2 ⟨b, rfl, hb, hc2, hg2⟩
  have HB2 := HB1.trans (grown_below (B := w.heap.size) hg2 (Nat.le_refl _) HB1.size)
  clear hc1 hc2 hg2
  go_wp2
  go_ret2
  exact ⟨a, b, rfl, ha, hb, HB2⟩
set_option maxRecDepth 100000 in
set_option maxHeartbeats 4000000 in
theorem drawJoinStrings_any (A : Option Addr) (n c B : Nat) (w : World) (h : RdB w B A n c) (hB : B ≤ w.heap.size) (hn : n ≤ 65536) : Calls Try.prog 9 #[.slice A n c] w fun e w' => ∃ (A' : Option Addr) (c' : Nat) (ps : List ByteArray) (b : ByteArray), e = .returned (.tuple #[.slice A' ps.length c', .string b]) ∧ OwnF strF w' w.heap.size (.slice A' ps.length c') ps ∧ (∀ x ∈ ps, x.size ≤ 4100) ∧ b.size ≤ 10 ∧ Below w.heap.size w w' := by
  have hc0 := (cur_new h hB hn).all ((Below.refl _ _).alloc (Nat.le_refl _) (.cells #[] 9))
  have ho0 : OwnF strF ((w.alloc (.cells #[.slice A n c, .int .i64 0, .int .u64 0] 41)).alloc (.cells #[] 9)) (w.heap.size + 1) (.slice (some ⟨w.heap.size + 1, 0, none⟩) 0 0) [] := by
    have := OwnF.empty strF (w := w.alloc (.cells #[.slice A n c, .int .i64 0, .int .u64 0] 41)) (lo := w.heap.size + 1) (by simp)
    rw [World.size_alloc] at this
    exact this
  have hb0 := ((Below.refl w.heap.size w).alloc (Nat.le_refl _) (.cells #[.slice A n c, .int .i64 0, .int .u64 0] 41)).alloc (by simp) (.cells #[] 9)
  clear h
  go_enter Try.func9, Try.ntmps9
  go_wp2_with fail
  refine (pick_any w.heap.size 0 4 _ hc0 (by omega) (by omega) (by omega)).mono ?_
  rintro e w1 ⟨m, rfl, ⟨m0, m1⟩, hc1, hg1⟩
  have HB1 := hb0.trans (grown_below (B := w.heap.size) hg1 (Nat.le_refl _) (by simp; omega))
  have ho1 := ho0.mark hg1 (fun k k' hk hk' => by cases hk; have := (ho0.bd k' hk').1; omega)
  have hm4 : m ≤ 4 := by omega
  clear hc0 hg1 hb0 ho0 m1
  go_wp2
  go_loopw [5, 7] (fun l i wr => ∃ (j : Nat) (ps : List ByteArray) (A' : Option Addr) (c' : Nat), (j : Int) ≤ m ∧ i = .int .i64 j ∧ l = .slice A' ps.length c' ∧ OwnF strF wr (w.heap.size + 1) (.slice A' ps.length c') ps ∧ (∀ x ∈ ps, x.size ≤ 4100) ∧ ps.length ≤ j ∧ Cur wr w.heap.size (2 + 2 * j) ∧ Below w.heap.size w wr) (fun _ i _ => m.toNat - (intOf i).toNat)
  case atStart => exact ⟨0, [], _, _, by omega, rfl, rfl, ho1, by simp, Nat.le_refl _, hc1, HB1⟩
  case round =>
    obtain ⟨j, ps, A', c', hj, rfl, rfl, ho, hps, hpl, hc, HB⟩ := hrel
    have HPS := Lib.hid hps
    clear hps hc1 HB1 ho1
    by_cases hlt : (j : Int) < m
    · go_wp2_with fail
      refine (any1_any w.heap.size (2 + 2 * j) _ hc (by omega)).mono ?_
      rintro e w2 ⟨y, rfl, hy, hc2, hg2⟩
      have ho2 := ho.mark hg2 (fun k k' hk hk' => by cases hk; have := (ho.bd k' hk').1; omega)
      have HB2 := HB.trans (grown_below (B := w.heap.size) hg2 (Nat.le_refl _) HB.size)
      have hlo : w.heap.size + 1 ≤ w2.heap.size := by have := hc2.lt; omega
      clear hc hg2 ho HB
      go_wp2_with (at_builtin; refine wpList_append_s _ rfl (.tmp 19) (.tmp 22) 26 rfl Try.underlying26 info_str (w.heap.size + 1) _ ps y rfl rfl ho2 (by omega) (by unfold maxLen; omega) hlo ?_)
      intro A5 c5 w5 ho5 hg5
      have hc5 := hc2.mark hg5 (fun z hz => by have := (ho2.bd z hz).1; omega)
      have HB5 := HB2.grown hg5 HB2.size (fun z hz => by have := (ho2.bd z hz).1; omega)
      have HPS5 := Lib.hid (show ∀ x ∈ ps ++ [y], x.size ≤ 4100 from fun x hx => by
        rcases List.mem_append.1 hx with hx | hx
        · exact HPS.out x hx
        · simp at hx; subst hx; omega)
      have HL5 := Lib.hid (show ps.length + 1 = (ps ++ [y]).length by simp)
      clear ho2 hg5 hc2 HB2
      go_wp2
      go_roundw
      case rel => exact ⟨j + 1, ps ++ [y], A5, c5, by omega, by go_num, by rw [HL5.out], by rw [← HL5.out]; exact ho5, HPS5.out, by rw [← HL5.out]; omega, hc5.more (by omega), HB5⟩
      case measure => simp [intOf]; omega
    · go_wp2_with fail
      refine (one_any w.heap.size (2 + 2 * j) 20 _ hc (by omega) (by omega) (by omega)).mono ?_
      rintro e w2 ⟨d, rfl, hc2, hg2⟩
      have ho2 := ho.mark hg2 (fun k k' hk hk' => by cases hk; have := (ho.bd k' hk').1; omega)
      have HB2 := HB.trans (grown_below (B := w.heap.size) hg2 (Nat.le_refl _) HB.size)
      have hlo : w.heap.size + 1 ≤ w2.heap.size := by have := hc2.lt; omega
      clear hc hg2 ho HB
      cases d
      · go_wp2_with fail
        refine (of_lit w.heap.size (2 + 2 * j + 2) w2.heap.size 5 markL w2 rfl rfl hc2 (by omega) (by decide) (by decide) (fun x hx => by have := markL_bd x hx; unfold maxLen; omega)).mono ?_
        rintro e w3 ⟨b, rfl, hy, hc3, hg3⟩
        have hb := markL_bd b hy
        have ho3 := ho2.mark hg3 (fun k k' hk hk' => by cases hk; have := (ho2.bd k' hk').1; omega)
        have HB3 := HB2.trans (grown_below (B := w.heap.size) hg3 (Nat.le_refl _) HB2.size)
        clear hc2 hc3 hg3 hy
        go_wp2
        go_ret2
        exact ⟨A', c', ps, b, rfl, ho3.mono (by omega), HPS.out, hb, HB3⟩
      · go_wp2_with fail
        refine (pick_any w.heap.size (2 + 2 * j + 2) 20 _ hc2 (by omega) (by omega) (by omega)).mono ?_
        rintro e w3 ⟨z, rfl, ⟨z0, z1⟩, hc3, hg3⟩
        obtain ⟨q, rfl⟩ := Int.eq_ofNat_of_zero_le z0
        have hq20 : q < 20 := by omega
        have ho3 := ho2.mark hg3 (fun k k' hk hk' => by cases hk; have := (ho2.bd k' hk').1; omega)
        have HB3 := HB2.trans (grown_below (B := w.heap.size) hg3 (Nat.le_refl _) HB2.size)
        have hlo3 : w.heap.size + 1 ≤ w3.heap.size := by have := hc3.lt; omega
        clear hc2 hg3 ho2 HB2 z0 z1
        obtain ⟨i0, hi, hz0, hz1, hz2⟩ := info_parts info_byte
        go_wp2_with (at_make; refine wpList_make_full _ rfl _ _ 22 rfl (w.heap.size + 1) 5 i0 (.int .u8 0) 1 Try.underlying22 hi hz0 hz1 _ _ _ _ (3990 + q) rfl rfl (by omega) (by omega) (by rw [hz2]; omega) (by unfold maxLen; omega) hlo3 ?_)
        intro w4 hown4 hgrow4
        have hob : OwnB w4 (w.heap.size + 1) (.slice (some ⟨w3.heap.size, 0, none⟩) (3990 + q) (3990 + q)) (List.replicate (3990 + q) 0) := by
          unfold OwnB; rw [List.length_replicate]; simpa [toList_madeCells_one, List.map_replicate, byteV] using hown4
        have hcv := hob.str 22 9 Try.underlying22 Try.underlying5 Try.underlying9
        obtain ⟨Z, hZ⟩ : ∃ Z : ByteArray, (⟨(List.replicate (3990 + q) (0 : UInt8)).toArray⟩ : ByteArray) = Z := ⟨_, rfl⟩
        have hZs : Z.size = 3990 + q := by rw [← hZ]; simp [ByteArray.size]
        rw [hZ] at hcv
        have ho4 := ho3.mark hgrow4 (fun k k' hk => by cases hk)
        have hc4 := hc3.mark hgrow4 (fun z hz => by cases hz)
        have HB4 := HB3.grown hgrow4 HB3.size (fun z hz => by cases hz)
        have hlo4 : w.heap.size + 1 ≤ w4.heap.size := by have := hc4.lt; omega
        clear ho3 hc3 HB3 hZ hown4 hgrow4 hob
        go_wp2_with (at_builtin; refine wpList_append_s _ rfl (.tmp 26) (.tmp 32) 26 rfl Try.underlying26 info_str (w.heap.size + 1) _ ps Z rfl rfl ho4 (by omega) (by unfold maxLen; omega) hlo4 ?_)
        intro A5 c5 w5 ho5 hg5
        have hc5 := hc4.mark hg5 (fun z hz => by have := (ho4.bd z hz).1; omega)
        have HB5 := HB4.grown hg5 HB4.size (fun z hz => by have := (ho4.bd z hz).1; omega)
        have HPS5 := Lib.hid (show ∀ x ∈ ps ++ [Z], x.size ≤ 4100 from fun x hx => by
          rcases List.mem_append.1 hx with hx | hx
          · exact HPS.out x hx
          · simp at hx; subst hx; omega)
        have HL5 := Lib.hid (show ps.length + 1 = (ps ++ [Z]).length by simp)
        clear ho4 hg5 hc4 HB4
        go_wp2_with fail
        refine (of_lit w.heap.size (2 + 2 * j + 2 + 2) w5.heap.size 5 markL w5 rfl rfl hc5 (by omega) (by decide) (by decide) (fun x hx => by have := markL_bd x hx; unfold maxLen; omega)).mono ?_
        rintro e w6 ⟨b, rfl, hy, hc6, hg6⟩
        have hb := markL_bd b hy
        have ho6 := ho5.mark hg6 (fun k k' hk hk' => by cases hk; have := (ho5.bd k' hk').1; omega)
        have HB6 := HB5.trans (grown_below (B := w.heap.size) hg6 (Nat.le_refl _) HB5.size)
        clear hc5 hc6 hg6 hy
        go_wp2
        go_ret2
        exact ⟨A5, c5, ps ++ [Z], b, by rw [← HL5.out]; rfl, by rw [← HL5.out]; exact ho6.mono (by omega), HPS5.out, hb, HB6⟩
end Go.Proofs.Ytdfijojkkmpllaa
