/- The draws of the law FnLots: lots, a chart to dye, an assignment. Condition: a code of at most 65536 bytes. -/
import Derived.Test.YtpnmnkdnlajfiaaDraws12
import Derived.Test.YtpnmnkdnlajfiaaMgFst
import Derived.Test.YtpnmnkdnlajfiaaNumbers
namespace Go.Proofs.Ytpnmnkdnlajfiaa
open Go.RowKit
set_option maxRecDepth 100000

def lenV : Value → Nat
  | .slice _ n _ => n
  | _ => 0
theorem Blk.far3q {w : World} {p q : Nat} {t : TypeId} {cs : Array Value} {a b c : Value} (h : Blk w q t cs) (hp : q ≠ p) : Blk (((w.setCell ⟨p, 0, none⟩ a).setCell ⟨p, 1, none⟩ b).setCell ⟨p, 2, none⟩ c) q t cs :=
  ((h.far (a := ⟨p, 0, none⟩) hp a).far (a := ⟨p, 1, none⟩) hp b).far (a := ⟨p, 2, none⟩) hp c
theorem Blk.put3q {w : World} {p : Nat} {t : TypeId} {a b c : Value} (h : Blk w p t #[a, b, c]) (a' b' c' : Value) : Blk (((w.setCell ⟨p, 0, none⟩ a').setCell ⟨p, 1, none⟩ b').setCell ⟨p, 2, none⟩ c') p t #[a', b', c'] := by
  have := ((h.set_ 0 a').set_ 1 b').set_ 2 c'
  simpa using this
/-- Lots drawn. -/
def DrewLots (w : World) (p k : Nat) (e : Ending) (w' : World) : Prop := ∃ (A : Option Addr) (c : Nat) (xs : List Int), e = .returned (.slice A xs.length c) ∧ xs.length ≤ 8 ∧ (∀ x ∈ xs, 0 ≤ x ∧ x ≤ 101) ∧ Own w' w.heap.size (.slice A xs.length c) xs ∧ Cur w' p k ∧ w.grownBy w' (some p)
set_option maxRecDepth 100000 in
set_option maxHeartbeats 8000000 in
theorem lots_any (p k : Nat) (w : World) (h : Cur w p k) (hk : k + 100 ≤ 4294967296) : Calls Try.prog 42 #[.pointer (some ⟨p, 0, none⟩)] w (DrewLots w p (k + 100)) := by
  have hpw := h.lt
  have hb0 := (Below.refl w.heap.size w).alloc (Nat.le_refl _) (.cells #[] 3)
  have hc0 := h.all hb0
  have ho0 : Own (w.alloc (.cells #[] 3)) w.heap.size (.slice (some ⟨w.heap.size, 0, none⟩) 0 0) [] := Own.empty (Nat.le_refl _)
  have HG0 := Lib.hid (below_grown (row := some p) hb0)
  clear h hb0
  go_enter Try.func42, Try.ntmps42
  go_wp2_with fail
  refine (pick_any p k 4 _ hc0 (by omega) (by omega) (by omega)).mono ?_
  rintro e w1 ⟨n0, rfl, hn0, hc, hg⟩
  have ho := ho0.mark hg (fun z z' hz hz' => by cases hz; have := (ho0.bd z' hz').1; omega)
  have HG := Lib.hid (grown_trans HG0.out hg)
  obtain ⟨j0, rfl⟩ := Int.eq_ofNat_of_zero_le hn0.1
  have hj3 : j0 ≤ 3 := by omega
  have hw0 : IntKind.i64.wrap (1 + (j0 : Int)) = ((1 + j0 : Nat) : Int) := by rw [IntWalk.i64_in _ (by omega)]; omega
  clear hc0 ho0 HG0 hg hn0
  go_wp2
  clear hw0
  go_loopw [3, 4] (fun s3 s4 wr => ∃ (j kk : Nat) (xs : List Int) (A : Option Addr) (c : Nat), j ≤ 4 ∧ s4 = .int .i64 j ∧ s3 = .slice A xs.length c ∧ xs.length + j ≤ 4 ∧ kk + 2 * j ≤ k + 20 ∧ Hid (∀ x ∈ xs, 0 ≤ x ∧ x ≤ 101) ∧ Own wr w.heap.size (.slice A xs.length c) xs ∧ Cur wr p kk ∧ Hid (w.grownBy wr (some p))) (fun _ s4 _ => (intOf s4).toNat)
  case atStart => exact ⟨1 + j0, k + 2, [], _, 0, by omega, rfl, rfl, by simp; omega, by omega, Lib.hid (fun x hx => by simp at hx), ho, hc, HG⟩
  case round =>
    clear ho hc HG hj3
    obtain ⟨j, kk, xs, A, c, hj4, rfl, rfl, hxj, hkk, HX, ho, hc, HG⟩ := hrel
    have hz0 := HG.out.size
    by_cases hj : 0 < j
    · have hji : (0 : Int) < (j : Int) := by omega
      have hr := lit_rd wr [1, 2, 3, 5, 8, 20, 100] (by intro x hx; simp at hx; unfold I64; omega) (by decide)
      have hal := (Below.refl wr.heap.size wr).alloc (Nat.le_refl _) (.cells ([1, 2, 3, 5, 8, 20, 100].map (Value.int .i64)).toArray 3)
      have hc1 := hc.all hal
      go_wp2_with fail
      refine (among_any p kk wr.heap.size 0 7 7 _ [1, 2, 3, 5, 8, 20, 100] _ hc1 (by omega) hr (by omega) (by omega) (by have := hc.lt; omega)).mono ?_
      rintro e w3 ⟨y, rfl, hy, hc3, hg3⟩
      have hyb : 0 ≤ y ∧ y ≤ 101 := by simp at hy; omega
      have hy64 : I64 y := ⟨by omega, by omega⟩
      have hg13 := grown_trans (below_grown (row := some p) hal) hg3
      have ho3 := ho.mark hg13 (fun z z' hz hz' => by cases hz; have := (ho.bd z' hz').1; omega)
      have HG3 := Lib.hid (grown_trans HG.out hg13)
      have hz3 : w.heap.size ≤ w3.heap.size := HG3.out.size
      clear hal hc hc1 hr hg3 hg13 ho hy HG
      go_wp2_with (at_builtin; refine wpList_append_one w3 rfl (.tmp 13) (.tmp 17) 24 rfl Try.underlying24 info_int w.heap.size _ xs y rfl rfl ho3 (by omega) hy64 hz3 ?_)
      intro A9 c9 w9 o9 hg9
      have c9' := hc3.mark hg9 (fun z hz => by have := (ho3.bd z hz).1; omega)
      have hb9 := (Below.refl w.heap.size w3).grown hg9 hz3 (fun z hz => (ho3.bd z hz).1)
      have HGA := Lib.hid (grown_own HG3.out hb9)
      have HX9 : ∀ x ∈ xs ++ [y], 0 ≤ x ∧ x ≤ 101 := fun x hx => by
        rcases List.mem_append.1 hx with hx | hx
        · exact HX.out x hx
        · rw [List.mem_singleton.1 hx]; omega
      obtain ⟨zs, hzs, hzl⟩ : ∃ zs, xs ++ [y] = zs ∧ xs.length + 1 = zs.length := ⟨_, rfl, by simp⟩
      have hz1 : zs.length ≤ xs.length + 1 := by omega
      have hz2 : xs.length + 1 ≤ zs.length := by omega
      rw [hzs] at o9 HX9
      rw [hzl] at o9 ⊢
      clear hzl
      clear hzs hg9 hb9 ho3 hc3 HG3
      go_wp2
      go_roundw
      case rel => exact ⟨j - 1, kk + 2, zs, A9, c9, by omega, by go_num, rfl, by omega, by omega, Lib.hid HX9, o9, c9', HGA⟩
      case measure => simp [intOf]; omega
    · obtain rfl : j = 0 := by omega
      go_wp2_with fail
      refine (pick_any p kk 32 _ hc (by omega) (by omega) (by omega)).mono ?_
      rintro e w2 ⟨s, rfl, hs, hc2, hg⟩
      have ho2 := ho.mark hg (fun z z' hz hz' => by cases hz; have := (ho.bd z' hz').1; omega)
      have HG2 := Lib.hid (grown_trans HG.out hg)
      clear ho hc HG hg
      have ho := ho2
      have HG := HG2
      have hc := hc2
      have hz2 := HG.out.size
      clear ho2 HG2 hc2
      by_cases s0 : s = 0
      · subst s0
        have hr := lit_rd w2 [0, 101] (by intro x hx; simp at hx; unfold I64; omega) (by decide)
        have hal := (Below.refl w2.heap.size w2).alloc (Nat.le_refl _) (.cells ([0, 101].map (Value.int .i64)).toArray 3)
        have hc1 := hc.all hal
        go_wp2_with fail
        refine (among_any p (kk + 2) w2.heap.size 0 2 2 _ [0, 101] _ hc1 (by omega) hr (by omega) (by omega) (by have := hc.lt; omega)).mono ?_
        rintro e w3 ⟨y, rfl, hy, hc3, hg3⟩
        have hyb : 0 ≤ y ∧ y ≤ 101 := by simp at hy; omega
        have hy64 : I64 y := ⟨by omega, by omega⟩
        have hg13 := grown_trans (below_grown (row := some p) hal) hg3
        have ho3 := ho.mark hg13 (fun z z' hz hz' => by cases hz; have := (ho.bd z' hz').1; omega)
        have HG3 := Lib.hid (grown_trans HG.out hg13)
        have hz3 : w.heap.size ≤ w3.heap.size := HG3.out.size
        clear hal hc hc1 hr hg3 hg13 ho hy HG
        go_wp2_with (at_builtin; refine wpList_append_one w3 rfl (.tmp 23) (.tmp 27) 24 rfl Try.underlying24 info_int w.heap.size _ xs y rfl rfl ho3 (by omega) hy64 hz3 ?_)
        intro A9 c9 w9 o9 hg9
        have c9' := hc3.mark hg9 (fun z hz => by have := (ho3.bd z hz).1; omega)
        have hb9 := (Below.refl w.heap.size w3).grown hg9 hz3 (fun z hz => (ho3.bd z hz).1)
        have HGA := Lib.hid (grown_own HG3.out hb9)
        have HX9 : ∀ x ∈ xs ++ [y], 0 ≤ x ∧ x ≤ 101 := fun x hx => by
          rcases List.mem_append.1 hx with hx | hx
          · exact HX.out x hx
          · rw [List.mem_singleton.1 hx]; omega
        obtain ⟨zs, hzs, hzl⟩ : ∃ zs, xs ++ [y] = zs ∧ xs.length + 1 = zs.length := ⟨_, rfl, by simp⟩
        have hz1 : zs.length ≤ xs.length + 1 := by omega
        have hz2 : xs.length + 1 ≤ zs.length := by omega
        rw [hzs] at o9 HX9
        rw [hzl] at o9 ⊢
        clear hzl
        clear hzs hg9 hb9 ho3 hc3 HG3
        go_wp2
        go_ret
        exact ⟨A9, c9, zs, rfl, by omega, HX9, o9, c9'.more (by omega), HGA.out⟩
      · have e0 : (s == 0) = false := by simp [s0]
        by_cases s1 : s = 1
        · subst s1
          have hb9 := (Below.refl w2.heap.size w2).alloc (Nat.le_refl _) (.cells #[] 3)
          have o9 : Own (w2.alloc (.cells #[] 3)) w.heap.size (.slice (some ⟨w2.heap.size, 0, none⟩) 0 0) [] := (Own.empty (Nat.le_refl _)).mono hz2
          have c9 := hc.all hb9
          have HGA := grown_trans HG.out (below_grown (row := some p) hb9)
          clear hb9
          go_wp2
          go_ret
          exact ⟨_, 0, [], rfl, by simp, fun x hx => by simp at hx, o9, c9.more (by omega), HGA⟩
        · have e1 : (s == 1) = false := by simp [s1]
          by_cases s2 : s = 2
          · subst s2
            clear e0 e1 s0 s1
            go_wp2
            go_loopw [3] (fun s3 wr => ∃ (kk : Nat) (xs : List Int) (A : Option Addr) (c : Nat), s3 = .slice A xs.length c ∧ xs.length ≤ 7 ∧ kk + 2 * (7 - xs.length) ≤ k + 60 ∧ Hid (∀ x ∈ xs, 0 ≤ x ∧ x ≤ 101) ∧ Own wr w.heap.size (.slice A xs.length c) xs ∧ Cur wr p kk ∧ Hid (w.grownBy wr (some p))) (fun s3 _ => 7 - lenV s3)
            case atStart => exact ⟨kk + 2, xs, A, c, rfl, by omega, by omega, HX, ho, hc, HG⟩
            case round =>
              clear ho hc HG HX hkk hxj
              obtain ⟨kk, xs, A, c, rfl, hxl, hkk, HX, ho, hc, HG⟩ := hrel
              have hz0 := HG.out.size
              go_wp2_with fail
              refine (pick_any p kk 2 _ hc (by omega) (by omega) (by omega)).mono ?_
              rintro e w3 ⟨u, rfl, hu, hc3, hg⟩
              have ho3 := ho.mark hg (fun z z' hz hz' => by cases hz; have := (ho.bd z' hz').1; omega)
              have HG3 := Lib.hid (grown_trans HG.out hg)
              have hz3 := HG3.out.size
              have hwu : IntKind.i64.wrap (6 + u) = 6 + u := IntWalk.i64_in _ (by omega)
              clear ho hc HG hg
              by_cases hlt : (xs.length : Int) < 6 + u
              · have hy64 : I64 4 := ⟨by omega, by omega⟩
                go_wp2_with (at_builtin; refine wpList_append_one w3 rfl (.tmp 40) (.tmp 41) 24 rfl Try.underlying24 info_int w.heap.size _ xs 4 rfl rfl ho3 (by omega) hy64 hz3 ?_)
                intro A9 c9 w9 o9 hg9
                have c9' := hc3.mark hg9 (fun z hz => by have := (ho3.bd z hz).1; omega)
                have hb9 := (Below.refl w.heap.size w3).grown hg9 hz3 (fun z hz => (ho3.bd z hz).1)
                have HGA := Lib.hid (grown_own HG3.out hb9)
                have HX9 : ∀ x ∈ xs ++ [4], 0 ≤ x ∧ x ≤ 101 := fun x hx => by
                  rcases List.mem_append.1 hx with hx | hx
                  · exact HX.out x hx
                  · rw [List.mem_singleton.1 hx]; omega
                obtain ⟨zs, hzs, hzl⟩ : ∃ zs, xs ++ [4] = zs ∧ xs.length + 1 = zs.length := ⟨_, rfl, by simp⟩
                have hz1 : zs.length ≤ xs.length + 1 := by omega
                have hz2 : xs.length + 1 ≤ zs.length := by omega
                rw [hzs] at o9 HX9
                rw [hzl] at o9 ⊢
                clear hzl
                clear hzs hg9 hb9 ho3 hc3 HG3
                go_wp2
                go_roundw
                case rel => exact ⟨kk + 2, zs, A9, c9, rfl, by omega, by omega, Lib.hid HX9, o9, c9'.more (by omega), HGA⟩
                case measure => simp [lenV]; omega
              · go_wp2
                go_ret
                exact ⟨A, c, xs, rfl, by omega, HX.out, ho3, hc3.more (by omega), HG3.out⟩
          · have e2 : (s == 2) = false := by simp [s2]
            go_wp2
            go_ret
            exact ⟨A, c, xs, rfl, by omega, HX.out, ho, hc.more (by omega), HG.out⟩
/-- A chart, a color and lots drawn. -/
def DrewDyed (w : World) (p k : Nat) (e : Ending) (w' : World) : Prop := ∃ (W H : Int) (A : Option Addr) (c : Nat) (xs : List Int) (f : Int) (A' : Option Addr) (c' : Nat) (ls : List Int), e = .returned (.tuple #[chartV W H (.slice A xs.length c), .int .i64 f, .slice A' ls.length c']) ∧ Small W H xs ∧ (-1 ≤ f ∧ f ≤ 6) ∧ ls.length ≤ 8 ∧ Own w' w.heap.size (.slice A xs.length c) xs ∧ Own w' w.heap.size (.slice A' ls.length c') ls ∧ Cur w' p k ∧ w.grownBy w' (some p)
set_option maxRecDepth 100000 in
set_option maxHeartbeats 16000000 in
theorem dyed_any (p k : Nat) (w : World) (h : Cur w p k) (hk : k + 2000 ≤ 4294967296) : Calls Try.prog 18 #[.pointer (some ⟨p, 0, none⟩)] w (DrewDyed w p (k + 2000)) := by
  have hpw := h.lt
  have hb0 := (Below.refl w.heap.size w).alloc (Nat.le_refl _) (.cells #[.int .i64 0, .int .i64 0, .slice none 0 0] 26)
  have HG0 := Lib.hid (below_grown (row := some p) hb0)
  have hc0 := h.all hb0
  have r0 := Blk.new w #[.int .i64 0, .int .i64 0, .slice none 0 0] 26
  clear h hb0
  go_enter Try.func18, Try.ntmps18
  go_wp2_with fail
  refine (chart_any p k _ hc0 (by omega)).mono ?_
  rintro e w1 ⟨W, H, A1, c1, xs, rfl, hsm, own, hc1, hg1⟩
  have r1 := r0.mark hg1 (fun z hz => by cases hz; omega)
  have HG1 := Lib.hid (grown_trans HG0.out hg1)
  have hs2 : w.heap.size + 1 ≤ w1.heap.size := by have := hg1.size; simpa using this
  replace own := own.mono (show w.heap.size ≤ _ by simp)
  clear hc0 hg1 r0 HG0
  have hal := (Below.refl w1.heap.size w1).alloc (Nat.le_refl _) (.cells #[.int .i64 W, .int .i64 H, .slice A1 xs.length c1] 26)
  have BmF := Blk.new w1 #[.int .i64 W, .int .i64 H, .slice A1 xs.length c1] 26
  have cF := hc1.all hal
  have R2F := r1.all hal
  have OF := own.all hal
  have gF := grown_trans HG1.out (below_grown (row := some p) hal)
  have hne1 : ∀ z', (Value.slice A1 xs.length c1).ownBlock = some z' → z' ≠ p := fun z' hz' => by have := (own.bd z' hz').1; omega
  clear hc1 r1 own HG1 hal
  go_wp2_with fail
  obtain ⟨wX, hwX⟩ : ∃ v, w1.alloc (.cells #[.int .i64 W, .int .i64 H, .slice A1 xs.length c1] 26) = v := ⟨_, rfl⟩
  rw [hwX] at BmF cF R2F OF gF ⊢
  obtain ⟨Q4, hQ4⟩ : ∃ q, w1.heap.size = q := ⟨_, rfl⟩
  rw [hQ4] at BmF hs2 ⊢
  clear hwX hQ4
  refine (one_any p (k + 1000) 3 _ cF (by omega) (by omega) (by omega)).mono ?_
  rintro e wu ⟨d, rfl, hc, hg⟩
  replace BmF := BmF.mark hg (fun z hz => by cases hz; omega)
  replace R2F := R2F.mark hg (fun z hz => by cases hz; omega)
  replace OF := OF.mark hg (fun z z' hz hz' => by cases hz; exact fun e => hne1 z' hz' e.symm)
  replace gF := grown_trans gF hg
  replace cF := hc
  clear hc hg
  cases d with
  | false =>
    have ex00 := BmF.cell 0
    have ex01 := BmF.cell 1
    have ex02 := BmF.cell 2
    go_wp2
    refine wp_region_noPanic ?_
    refine wp_region_held_drew (S := (fun w' => w'.cell? ⟨Q4, 0, none⟩ = some (.int .i64 W) ∧ w'.cell? ⟨Q4, 1, none⟩ = some (.int .i64 H) ∧ w'.cell? ⟨Q4, 2, none⟩ = some (.slice A1 xs.length c1))) (by kernel_rfl) (by go_keep) (fun hHeld => ?_)
    have cFz := cur_drew cF
    have BmFz : Blk wu.drew _ _ _ := BmF.all (low_drewN wu 1)
    have R2Fz : Blk wu.drew _ _ _ := R2F.all (low_drewN wu 1)
    have OFz : Own wu.drew _ _ _ := OF.all (low_drewN wu 1)
    have gFz := grown_trans gF (drew_grown _ _)
    obtain ⟨wdT1, hwd⟩ : ∃ v, wu.drew = v := ⟨_, rfl⟩
    rw [hwd] at hHeld cFz BmFz R2Fz OFz gFz ⊢
    clear hwd
    refine wpAnyH_take (i := 0) (v := ?_) rfl (by kernel_rfl) (by kernel_rfl) (by kernel_rfl) (fun _ _ _ h => h) (Or.inl ⟨by rfl, ?_⟩) (by assumption) ?_
    rotate_left
    · intro w hSw; (try dsimp only at hSw); go_simp; (try with_reducible rfl)
    (try simp only [Act.put, List.getElem_toArray, List.getElem_cons_zero, List.setIfInBounds_toArray, List.set_cons_zero, List.set_cons_succ])
    refine wpAnyH_take (i := 1) (v := ?_) rfl (by kernel_rfl) (by kernel_rfl) (by kernel_rfl) (fun _ _ _ h => h) (Or.inl ⟨by rfl, ?_⟩) (by assumption) ?_
    rotate_left
    · intro w hSw; (try dsimp only at hSw); go_simp; (try with_reducible rfl)
    (try simp only [Act.put, List.getElem_toArray, List.getElem_cons_zero, List.getElem_cons_succ, List.setIfInBounds_toArray, List.set_cons_zero, List.set_cons_succ])
    refine wpAnyH_take (i := 3) (v := ?_) rfl (by kernel_rfl) (by kernel_rfl) (by kernel_rfl) (fun _ _ _ h => h) (Or.inl ⟨by rfl, ?_⟩) (by assumption) ?_
    rotate_left
    · intro w hSw; (try dsimp only at hSw); go_simp; (try with_reducible rfl)
    (try simp only [Act.put, List.getElem_toArray, List.getElem_cons_zero, List.getElem_cons_succ, List.setIfInBounds_toArray, List.set_cons_zero, List.set_cons_succ])
    clear hHeld
    refine wpAnyH_ready (rs := [2]) (by kernel_rfl) (by simp) ?_
    refine AllReadyH.cons rfl (fun K hK => ?_) AllReadyH.nil
    go_simp
    refine (color_any p (k + 1000 + 2) _ cFz (by omega)).mono ?_
    rintro e wq1001 ⟨x2, rfl, hx2, hc, hg⟩
    clear cFz
    have cFz := hc
    replace BmFz := BmFz.mark hg (fun z hz => by cases hz; omega)
    replace R2Fz := R2Fz.mark hg (fun z hz => by cases hz; omega)
    replace OFz := OFz.mark hg (fun z z' hz hz' => by cases hz; exact fun e => hne1 z' hz' e.symm)
    replace gFz := grown_trans gFz hg
    clear hc hg
    refine hK.out _ _ (by exact ⟨BmFz.cell 0, BmFz.cell 1, BmFz.cell 2⟩) (fun hHeld => ?_)
    clear hK K
    (try simp only [Act.put, List.getElem_toArray, List.getElem_cons_zero, List.getElem_cons_succ, List.setIfInBounds_toArray, List.set_cons_zero, List.set_cons_succ])
    clear hHeld
    refine wpAnyH_ready (rs := [4]) (by kernel_rfl) (by simp) ?_
    refine AllReadyH.cons rfl (fun K hK => ?_) AllReadyH.nil
    go_simp
    refine (lots_any p ((k + 1000 + 2) + 2) _ cFz (by omega)).mono ?_
    rintro e wq1002 ⟨A8, c8, ls, rfl, hll, hlb, own8, hc, hg⟩
    clear hlb
    replace own8 := own8.mono (show w.heap.size ≤ _ from gFz.size)
    clear cFz
    have cFz := hc
    replace BmFz := BmFz.mark hg (fun z hz => by cases hz; omega)
    replace R2Fz := R2Fz.mark hg (fun z hz => by cases hz; omega)
    replace OFz := OFz.mark hg (fun z z' hz hz' => by cases hz; exact fun e => hne1 z' hz' e.symm)
    replace gFz := grown_trans gFz hg
    clear hc hg
    refine hK.out _ _ (by exact ⟨BmFz.cell 0, BmFz.cell 1, BmFz.cell 2⟩) (fun hHeld => ?_)
    clear hK K
    (try simp only [Act.put, List.getElem_toArray, List.getElem_cons_zero, List.getElem_cons_succ, List.setIfInBounds_toArray, List.set_cons_zero, List.set_cons_succ])
    clear hHeld
    refine wpAnyH_ready (rs := [5]) (by kernel_rfl) (by simp) ?_
    refine AllReadyH.cons rfl (fun K hK => ?_) AllReadyH.nil
    have g0 := R2Fz.cell 0
    have g1 := R2Fz.cell 1
    have g2 := R2Fz.cell 2
    have z0 := R2Fz.frozen 0
    have z1 := R2Fz.frozen 1
    have z2 := R2Fz.frozen 2
    have F_OF := fin3 (p := w.heap.size) (w0 := wq1002) (B := w.heap.size) (a := .int .i64 W) (b := .int .i64 H) (c := .slice A1 xs.length c1) OFz (row_ne' OFz.1 R2Fz (by decide)) (Below.refl _ _) (by omega)
    have F_O8 := fin3 (p := w.heap.size) (w0 := wq1002) (B := w.heap.size) (a := .int .i64 W) (b := .int .i64 H) (c := .slice A1 xs.length c1) own8 (row_ne' own8.1 R2Fz (by decide)) (Below.refl _ _) (by omega)
    have cFzs := cFz.below F_OF.2 hpw
    have gFzs := grown_own gFz F_OF.2
    have BmFzs := BmFz.far3q (p := w.heap.size) (a := .int .i64 W) (b := .int .i64 H) (c := .slice A1 xs.length c1) (by omega)
    have R2Fzs := R2Fz.put3q (.int .i64 W) (.int .i64 H) (.slice A1 xs.length c1)
    clear cFz gFz BmFz R2Fz OFz own8
    go_simp
    obtain ⟨ws1003, hws⟩ : ∃ v, ((wq1002.setCell ⟨w.heap.size, 0, none⟩ (.int .i64 W)).setCell ⟨w.heap.size, 1, none⟩ (.int .i64 H)).setCell ⟨w.heap.size, 2, none⟩ (.slice A1 xs.length c1) = v := ⟨_, rfl⟩
    rw [hws] at cFzs gFzs BmFzs R2Fzs F_OF F_O8 ⊢
    clear hws g0 g1 g2 z0 z1 z2
    have OFzs := F_OF.1
    have own8s := F_O8.1
    clear F_OF F_O8
    refine hK.out _ _ (by exact ⟨BmFzs.cell 0, BmFzs.cell 1, BmFzs.cell 2⟩) (fun hHeld => ?_)
    clear hK K
    (try simp only [Act.put, List.getElem_toArray, List.getElem_cons_zero, List.getElem_cons_succ, List.setIfInBounds_toArray, List.set_cons_zero, List.set_cons_succ])
    refine wpAnyH_take (i := 6) (v := ?_) rfl (by kernel_rfl) (by kernel_rfl) (by kernel_rfl) (fun _ _ _ h => h) (Or.inl ⟨by rfl, ?_⟩) (by assumption) ?_
    rotate_left
    · intro w hSw; (try dsimp only at hSw); go_simp; (try with_reducible rfl)
    (try simp only [Act.put, List.getElem_toArray, List.getElem_cons_zero, List.getElem_cons_succ, List.setIfInBounds_toArray, List.set_cons_zero, List.set_cons_succ])
    refine wpAnyH_take (i := 7) (v := ?_) rfl (by kernel_rfl) (by kernel_rfl) (by kernel_rfl) (fun _ _ _ h => h) (Or.inl ⟨by rfl, ?_⟩) (by assumption) ?_
    rotate_left
    · intro w hSw; (try dsimp only at hSw); go_simp; (try with_reducible rfl)
    (try simp only [Act.put, List.getElem_toArray, List.getElem_cons_zero, List.getElem_cons_succ, List.setIfInBounds_toArray, List.set_cons_zero, List.set_cons_succ])
    refine wpAnyH_done (by kernel_rfl) ?_ _
    refine NoPanic.normal ?_
    have g0 := R2Fzs.cell 0
    have g1 := R2Fzs.cell 1
    have g2 := R2Fzs.cell 2
    go_wp2
    exact bodyPost_ret (v := .tuple #[chartV W H (.slice A1 xs.length c1), .int .i64 x2, .slice A8 ls.length c8]) (by simp [results, Try.results18, go_sem, g0, g1, g2]) rfl ⟨W, H, A1, c1, xs, x2, A8, c8, ls, rfl, hsm, hx2, hll, OFzs, own8s, cFzs.more (by omega), gFzs⟩
  | true =>
    go_wp2_with fail
    refine (among_lit p (k + 1000 + 2) wu.heap.size 3 [2, 3, 4] wu rfl rfl cF (by omega) (by decide) (by decide) (I64.lit (by decide))).mono ?_
    rintro e wa ⟨y3, rfl, hy3, hc, hg⟩
    have hbx3 : 2 ≤ y3 ∧ y3 ≤ 4 := by simp at hy3; omega
    obtain ⟨x3, rfl⟩ := Int.eq_ofNat_of_zero_le (show 0 ≤ y3 by omega)
    replace hbx3 : 2 ≤ x3 ∧ x3 ≤ 4 := by omega
    clear hy3
    replace BmF := BmF.mark hg (fun z hz => by cases hz; omega)
    replace R2F := R2F.mark hg (fun z hz => by cases hz; omega)
    replace OF := OF.mark hg (fun z z' hz hz' => by cases hz; exact fun e => hne1 z' hz' e.symm)
    replace gF := grown_trans gF hg
    replace cF := hc
    clear hc hg
    go_wp2_with fail
    refine (among_lit p (k + 1000 + 2 + 2) wa.heap.size 3 [2, 3, 4] wa rfl rfl cF (by omega) (by decide) (by decide) (I64.lit (by decide))).mono ?_
    rintro e wb ⟨y6, rfl, hy6, hc, hg⟩
    have hbx6 : 2 ≤ y6 ∧ y6 ≤ 4 := by simp at hy6; omega
    obtain ⟨x6, rfl⟩ := Int.eq_ofNat_of_zero_le (show 0 ≤ y6 by omega)
    replace hbx6 : 2 ≤ x6 ∧ x6 ≤ 4 := by omega
    clear hy6
    replace BmF := BmF.mark hg (fun z hz => by cases hz; omega)
    replace R2F := R2F.mark hg (fun z hz => by cases hz; omega)
    replace OF := OF.mark hg (fun z z' hz hz' => by cases hz; exact fun e => hne1 z' hz' e.symm)
    replace gF := grown_trans gF hg
    replace cF := hc
    clear hc hg
    have hml := Nat.mul_le_mul (show x3 ≤ 4 by omega) (show x6 ≤ 4 by omega)
    go_wp2_with fail
    refine (plain_any p (k + 1000 + 2 + 2 + 2) x3 x6 _ cF (by omega) (by omega) (by omega)).mono ?_
    rintro e wc ⟨W7, H7, A7, c7, ys, rfl, ⟨hW7, hH7, hl7⟩, O7, hc, hg⟩
    have hsm7 : Small W7 H7 ys := ⟨by omega, ⟨by omega, by omega⟩, ⟨by omega, by omega⟩⟩
    replace hc := hc.more (show _ ≤ (k + 1000 + 2 + 2 + 2 + 64) by omega)
    have hne7 : ∀ z', (Value.slice A7 ys.length c7).ownBlock = some z' → z' ≠ p := fun z' hz' => by have h1 := (O7.bd z' hz').1; have h2 := cF.lt; omega
    replace O7 := O7.mono (show w.heap.size ≤ _ from gF.size)
    skip
    replace BmF := BmF.mark hg (fun z hz => by cases hz; omega)
    replace R2F := R2F.mark hg (fun z hz => by cases hz; omega)
    replace OF := OF.mark hg (fun z z' hz hz' => by cases hz; exact fun e => hne1 z' hz' e.symm)
    replace gF := grown_trans gF hg
    replace cF := hc
    clear hc hg
    clear hW7 hH7 hl7 hml OF
    have g0 := BmF.cell 0
    have g1 := BmF.cell 1
    have g2 := BmF.cell 2
    have z0 := BmF.frozen 0
    have z1 := BmF.frozen 1
    have z2 := BmF.frozen 2
    have F_O7 := fin3 (p := Q4) (w0 := wc) (B := w.heap.size) (a := .int .i64 W7) (b := .int .i64 H7) (c := .slice A7 ys.length c7) O7 (row_ne' O7.1 BmF (by decide)) (Below.refl _ _) (by omega)
    have cFs := cF.below F_O7.2 hpw
    have gFs := grown_own gF F_O7.2
    have BmFs := BmF.put3q (.int .i64 W7) (.int .i64 H7) (.slice A7 ys.length c7)
    have R2Fs := R2F.far3q (p := Q4) (a := .int .i64 W7) (b := .int .i64 H7) (c := .slice A7 ys.length c7) (by omega)
    clear cF gF BmF R2F O7
    go_wp2
    obtain ⟨ws8, hws⟩ : ∃ v, ((wc.setCell ⟨Q4, 0, none⟩ (.int .i64 W7)).setCell ⟨Q4, 1, none⟩ (.int .i64 H7)).setCell ⟨Q4, 2, none⟩ (.slice A7 ys.length c7) = v := ⟨_, rfl⟩
    rw [hws] at cFs gFs BmFs R2Fs F_O7 ⊢
    clear hws g0 g1 g2 z0 z1 z2
    have O7s := F_O7.1
    clear F_O7
    have cF := cFs
    have BmF := BmFs
    have R2F := R2Fs
    have O7 := O7s
    have gF := gFs
    clear cFs gFs BmFs R2Fs O7s
    have ex00 := BmF.cell 0
    have ex01 := BmF.cell 1
    have ex02 := BmF.cell 2
    refine wp_region_noPanic ?_
    refine wp_region_held_drew (S := (fun w' => w'.cell? ⟨Q4, 0, none⟩ = some (.int .i64 W7) ∧ w'.cell? ⟨Q4, 1, none⟩ = some (.int .i64 H7) ∧ w'.cell? ⟨Q4, 2, none⟩ = some (.slice A7 ys.length c7))) (by kernel_rfl) (by go_keep) (fun hHeld => ?_)
    have cFz := cur_drew cF
    have BmFz : Blk ws8.drew _ _ _ := BmF.all (low_drewN ws8 1)
    have R2Fz : Blk ws8.drew _ _ _ := R2F.all (low_drewN ws8 1)
    have O7z : Own ws8.drew _ _ _ := O7.all (low_drewN ws8 1)
    have gFz := grown_trans gF (drew_grown _ _)
    obtain ⟨wdT2, hwd⟩ : ∃ v, ws8.drew = v := ⟨_, rfl⟩
    rw [hwd] at hHeld cFz BmFz R2Fz O7z gFz ⊢
    clear hwd
    refine wpAnyH_take (i := 0) (v := ?_) rfl (by kernel_rfl) (by kernel_rfl) (by kernel_rfl) (fun _ _ _ h => h) (Or.inl ⟨by rfl, ?_⟩) (by assumption) ?_
    rotate_left
    · intro w hSw; (try dsimp only at hSw); go_simp; (try with_reducible rfl)
    (try simp only [Act.put, List.getElem_toArray, List.getElem_cons_zero, List.setIfInBounds_toArray, List.set_cons_zero, List.set_cons_succ])
    refine wpAnyH_take (i := 1) (v := ?_) rfl (by kernel_rfl) (by kernel_rfl) (by kernel_rfl) (fun _ _ _ h => h) (Or.inl ⟨by rfl, ?_⟩) (by assumption) ?_
    rotate_left
    · intro w hSw; (try dsimp only at hSw); go_simp; (try with_reducible rfl)
    (try simp only [Act.put, List.getElem_toArray, List.getElem_cons_zero, List.getElem_cons_succ, List.setIfInBounds_toArray, List.set_cons_zero, List.set_cons_succ])
    refine wpAnyH_take (i := 3) (v := ?_) rfl (by kernel_rfl) (by kernel_rfl) (by kernel_rfl) (fun _ _ _ h => h) (Or.inl ⟨by rfl, ?_⟩) (by assumption) ?_
    rotate_left
    · intro w hSw; (try dsimp only at hSw); go_simp; (try with_reducible rfl)
    (try simp only [Act.put, List.getElem_toArray, List.getElem_cons_zero, List.getElem_cons_succ, List.setIfInBounds_toArray, List.set_cons_zero, List.set_cons_succ])
    clear hHeld
    refine wpAnyH_ready (rs := [2]) (by kernel_rfl) (by simp) ?_
    refine AllReadyH.cons rfl (fun K hK => ?_) AllReadyH.nil
    go_simp
    refine (color_any p (k + 1000 + 2 + 2 + 2 + 64) _ cFz (by omega)).mono ?_
    rintro e wq2001 ⟨x2, rfl, hx2, hc, hg⟩
    clear cFz
    have cFz := hc
    replace BmFz := BmFz.mark hg (fun z hz => by cases hz; omega)
    replace R2Fz := R2Fz.mark hg (fun z hz => by cases hz; omega)
    replace O7z := O7z.mark hg (fun z z' hz hz' => by cases hz; exact fun e => hne7 z' hz' e.symm)
    replace gFz := grown_trans gFz hg
    clear hc hg
    refine hK.out _ _ (by exact ⟨BmFz.cell 0, BmFz.cell 1, BmFz.cell 2⟩) (fun hHeld => ?_)
    clear hK K
    (try simp only [Act.put, List.getElem_toArray, List.getElem_cons_zero, List.getElem_cons_succ, List.setIfInBounds_toArray, List.set_cons_zero, List.set_cons_succ])
    clear hHeld
    refine wpAnyH_ready (rs := [4]) (by kernel_rfl) (by simp) ?_
    refine AllReadyH.cons rfl (fun K hK => ?_) AllReadyH.nil
    go_simp
    refine (lots_any p ((k + 1000 + 2 + 2 + 2 + 64) + 2) _ cFz (by omega)).mono ?_
    rintro e wq2002 ⟨A8, c8, ls, rfl, hll, hlb, own8, hc, hg⟩
    clear hlb
    replace own8 := own8.mono (show w.heap.size ≤ _ from gFz.size)
    clear cFz
    have cFz := hc
    replace BmFz := BmFz.mark hg (fun z hz => by cases hz; omega)
    replace R2Fz := R2Fz.mark hg (fun z hz => by cases hz; omega)
    replace O7z := O7z.mark hg (fun z z' hz hz' => by cases hz; exact fun e => hne7 z' hz' e.symm)
    replace gFz := grown_trans gFz hg
    clear hc hg
    refine hK.out _ _ (by exact ⟨BmFz.cell 0, BmFz.cell 1, BmFz.cell 2⟩) (fun hHeld => ?_)
    clear hK K
    (try simp only [Act.put, List.getElem_toArray, List.getElem_cons_zero, List.getElem_cons_succ, List.setIfInBounds_toArray, List.set_cons_zero, List.set_cons_succ])
    clear hHeld
    refine wpAnyH_ready (rs := [5]) (by kernel_rfl) (by simp) ?_
    refine AllReadyH.cons rfl (fun K hK => ?_) AllReadyH.nil
    have g0 := R2Fz.cell 0
    have g1 := R2Fz.cell 1
    have g2 := R2Fz.cell 2
    have z0 := R2Fz.frozen 0
    have z1 := R2Fz.frozen 1
    have z2 := R2Fz.frozen 2
    have F_O7 := fin3 (p := w.heap.size) (w0 := wq2002) (B := w.heap.size) (a := .int .i64 W7) (b := .int .i64 H7) (c := .slice A7 ys.length c7) O7z (row_ne' O7z.1 R2Fz (by decide)) (Below.refl _ _) (by omega)
    have F_O8 := fin3 (p := w.heap.size) (w0 := wq2002) (B := w.heap.size) (a := .int .i64 W7) (b := .int .i64 H7) (c := .slice A7 ys.length c7) own8 (row_ne' own8.1 R2Fz (by decide)) (Below.refl _ _) (by omega)
    have cFzs := cFz.below F_O7.2 hpw
    have gFzs := grown_own gFz F_O7.2
    have BmFzs := BmFz.far3q (p := w.heap.size) (a := .int .i64 W7) (b := .int .i64 H7) (c := .slice A7 ys.length c7) (by omega)
    have R2Fzs := R2Fz.put3q (.int .i64 W7) (.int .i64 H7) (.slice A7 ys.length c7)
    clear cFz gFz BmFz R2Fz O7z own8
    go_simp
    obtain ⟨ws2003, hws⟩ : ∃ v, ((wq2002.setCell ⟨w.heap.size, 0, none⟩ (.int .i64 W7)).setCell ⟨w.heap.size, 1, none⟩ (.int .i64 H7)).setCell ⟨w.heap.size, 2, none⟩ (.slice A7 ys.length c7) = v := ⟨_, rfl⟩
    rw [hws] at cFzs gFzs BmFzs R2Fzs F_O7 F_O8 ⊢
    clear hws g0 g1 g2 z0 z1 z2
    have O7zs := F_O7.1
    have own8s := F_O8.1
    clear F_O7 F_O8
    refine hK.out _ _ (by exact ⟨BmFzs.cell 0, BmFzs.cell 1, BmFzs.cell 2⟩) (fun hHeld => ?_)
    clear hK K
    (try simp only [Act.put, List.getElem_toArray, List.getElem_cons_zero, List.getElem_cons_succ, List.setIfInBounds_toArray, List.set_cons_zero, List.set_cons_succ])
    refine wpAnyH_take (i := 6) (v := ?_) rfl (by kernel_rfl) (by kernel_rfl) (by kernel_rfl) (fun _ _ _ h => h) (Or.inl ⟨by rfl, ?_⟩) (by assumption) ?_
    rotate_left
    · intro w hSw; (try dsimp only at hSw); go_simp; (try with_reducible rfl)
    (try simp only [Act.put, List.getElem_toArray, List.getElem_cons_zero, List.getElem_cons_succ, List.setIfInBounds_toArray, List.set_cons_zero, List.set_cons_succ])
    refine wpAnyH_take (i := 7) (v := ?_) rfl (by kernel_rfl) (by kernel_rfl) (by kernel_rfl) (fun _ _ _ h => h) (Or.inl ⟨by rfl, ?_⟩) (by assumption) ?_
    rotate_left
    · intro w hSw; (try dsimp only at hSw); go_simp; (try with_reducible rfl)
    (try simp only [Act.put, List.getElem_toArray, List.getElem_cons_zero, List.getElem_cons_succ, List.setIfInBounds_toArray, List.set_cons_zero, List.set_cons_succ])
    refine wpAnyH_done (by kernel_rfl) ?_ _
    refine NoPanic.normal ?_
    have g0 := R2Fzs.cell 0
    have g1 := R2Fzs.cell 1
    have g2 := R2Fzs.cell 2
    go_wp2
    exact bodyPost_ret (v := .tuple #[chartV W7 H7 (.slice A7 ys.length c7), .int .i64 x2, .slice A8 ls.length c8]) (by simp [results, Try.results18, go_sem, g0, g1, g2]) rfl ⟨W7, H7, A7, c7, ys, x2, A8, c8, ls, rfl, hsm7, hx2, hll, O7zs, own8s, cFzs.more (by omega), gFzs⟩
/-- A draw of a chart, a color and lots. -/
def GaveLots (w : World) (e : Ending) (w' : World) : Prop := ∃ (W H : Int) (A : Option Addr) (c : Nat) (xs : List Int) (f : Int) (A' : Option Addr) (c' : Nat) (ls : List Int), e = .returned (.tuple #[chartV W H (.slice A xs.length c), .int .i64 f, .slice A' ls.length c']) ∧ Small W H xs ∧ (-1 ≤ f ∧ f ≤ 6) ∧ ls.length ≤ 8 ∧ Own w' w.heap.size (.slice A xs.length c) xs ∧ Own w' w.heap.size (.slice A' ls.length c') ls ∧ Below w.heap.size w w'
/-- .. and an assignment. -/
def GaveAsg (w : World) (e : Ending) (w' : World) : Prop := ∃ (W H : Int) (A : Option Addr) (c : Nat) (xs : List Int) (f : Int) (A' : Option Addr) (c' : Nat) (ls : List Int) (A'' : Option Addr) (c'' : Nat) (az : List Int), e = .returned (.tuple #[chartV W H (.slice A xs.length c), .int .i64 f, .slice A' ls.length c', .slice A'' az.length c'']) ∧ Small W H xs ∧ (-1 ≤ f ∧ f ≤ 6) ∧ ls.length ≤ 8 ∧ az.length ≤ 1000 ∧ Own w' w.heap.size (.slice A xs.length c) xs ∧ Own w' w.heap.size (.slice A' ls.length c') ls ∧ Own w' w.heap.size (.slice A'' az.length c'') az ∧ Below w.heap.size w w'
set_option maxRecDepth 100000 in
set_option maxHeartbeats 8000000 in
theorem drawFirstAssignment_any (A : Option Addr) (n c B : Nat) (w : World) (h : RdB w B A n c) (hB : B ≤ w.heap.size) (hn : n ≤ 65536) : Calls Try.prog 5 #[.slice A n c] w (GaveLots w) := by
  have hb0 := (Below.refl w.heap.size w).alloc (Nat.le_refl _) (.cells #[.int .i64 0, .int .i64 0, .slice none 0 0] 26)
  have r0 := (Blk.new w #[.int .i64 0, .int .i64 0, .slice none 0 0] 26).alloc (.cells #[.slice A n c, .int .i64 0, .int .u64 0] 45)
  have hc0 : Cur ((w.alloc (.cells #[.int .i64 0, .int .i64 0, .slice none 0 0] 26)).alloc (.cells #[.slice A n c, .int .i64 0, .int .u64 0] 45)) (w.heap.size + 1) 0 := by
    have := cur_new (h.alloc hB (.cells #[.int .i64 0, .int .i64 0, .slice none 0 0] 26)) (by simp; omega) hn
    simpa using this
  have hb1 := hb0.alloc (by simp) (.cells #[.slice A n c, .int .i64 0, .int .u64 0] 45)
  clear h hb0
  go_enter Try.func5, Try.ntmps5
  go_wp2_with fail
  refine (dyed_any (w.heap.size + 1) 0 _ hc0 (by omega)).mono ?_
  rintro e w1 ⟨W, H, A1, c1, xs, f, A2, c2, ls, rfl, hsm, hf, hll, own, own2, hc1, hg1⟩
  have r1 := r0.mark hg1 (fun z hz => by cases hz; omega)
  have HB1 := hb1.trans (grown_below (B := w.heap.size) hg1 (by omega) (by simp; omega))
  have hno : ∀ (v : Value) (zs : List Int), Own w1 (((w.alloc (.cells #[.int .i64 0, .int .i64 0, .slice none 0 0] 26)).alloc (.cells #[.slice A n c, .int .i64 0, .int .u64 0] 45)).heap.size) v zs → ∀ z, v.ownBlock = some z → z ≠ w.heap.size + 1 := fun v zs ho z hz => by have := (ho.bd z hz).1; simp at this; omega
  have hne1 := hno _ _ own
  have hne2 := hno _ _ own2
  replace own := own.mono (show w.heap.size ≤ _ by simp; omega)
  replace own2 := own2.mono (show w.heap.size ≤ _ by simp; omega)
  clear hc0 hg1 r0 hb1 hno
  have hz := r1.lt
  have hzc := hc1.lt
  have hal := (Below.refl w1.heap.size w1).alloc (Nat.le_refl _) (.cells #[.int .i64 W, .int .i64 H, .slice A1 xs.length c1] 26)
  have R3 := r1.all hal
  have C3 := hc1.all hal
  have O3 := own.all hal
  have O4 := own2.all hal
  have HB3 := HB1.trans (hal.mono HB1.size)
  have X3 := Blk.new w1 #[.int .i64 W, .int .i64 H, .slice A1 xs.length c1] 26
  clear hal r1 own own2 HB1 hc1
  go_upto_region 3 with fail
  obtain ⟨w3, hw3⟩ : ∃ v, w1.alloc (.cells #[.int .i64 W, .int .i64 H, .slice A1 xs.length c1] 26) = v := ⟨_, rfl⟩
  rw [hw3] at R3 C3 O3 O4 HB3 X3 ⊢
  clear hw3 C3
  have F0 := fin3 (p := w.heap.size) (a := .int .i64 W) (b := .int .i64 H) (c := .slice A1 xs.length c1) O3 (row_ne' O3.1 R3 (by decide)) HB3 (Nat.le_refl _)
  have F1 := fin3 (p := w.heap.size) (a := .int .i64 W) (b := .int .i64 H) (c := .slice A1 xs.length c1) O4 (row_ne' O4.1 R3 (by decide)) HB3 (Nat.le_refl _)
  have g0 := R3.cell 0
  have g1 := R3.cell 1
  have g2 := R3.cell 2
  have z0 := R3.frozen 0
  have z1 := R3.frozen 1
  have z2 := R3.frozen 2
  have e0 := X3.cell 0
  have e1 := X3.cell 1
  have e2 := X3.cell 2
  go_wp2
  exact bodyPost_ret (v := .tuple #[chartV W H (.slice A1 xs.length c1), .int .i64 f, .slice A2 ls.length c2]) (by simp [results, Try.results5, go_sem, *]) rfl ⟨W, H, A1, c1, xs, f, A2, c2, ls, rfl, hsm, hf, hll, F0.1, F1.1, F0.2⟩
end Go.Proofs.Ytpnmnkdnlajfiaa
