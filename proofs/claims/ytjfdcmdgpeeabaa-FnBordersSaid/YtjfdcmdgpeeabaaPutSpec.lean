/- The walk of the model's l2Put. Condition: two charts, the part within the chart. -/
import Derived.Test.YtjfdcmdgpeeabaaPutMath
import Derived.Test.YtjfdcmdgpeeabaaPart2
namespace Go.Proofs.Ytjfdcmdgpeeabaa
open Go.RowKit

set_option maxRecDepth 100000 in
set_option maxHeartbeats 4000000 in
theorem l2Put_any (m kk pm pk b off cc B b' off' cc' B' r q : Nat) (xs ys : List Int) (w : World) (hR : Rd w B (some ⟨b, off, none⟩) xs.length cc xs) (hR' : Rd w B' (some ⟨b', off', none⟩) ys.length cc' ys) (hB : B ≤ w.heap.size) (hB' : B' ≤ w.heap.size)
    (m8 : m ≤ 8) (kk8 : kk ≤ 8) (pm1 : 1 ≤ pm) (hl : Hid (xs.length = m * kk)) (hl' : Hid (ys.length = pm * pk)) (h64 : m * kk ≤ 64) (h64' : pm * pk ≤ 64) (hl1 : 1 ≤ xs.length) (hr : r + pk ≤ kk) (hq : q + pm ≤ m) :
    Calls Try.prog 37 #[chartV m kk (.slice (some ⟨b, off, none⟩) xs.length cc), chartV pm pk (.slice (some ⟨b', off', none⟩) ys.length cc'), .int .i64 r, .int .i64 q] w (OwnChart w m kk (putL m kk pm pk xs ys r q)) := by
  have hb0 := Lib.hid ((((Below.refl w.heap.size w).alloc (Nat.le_refl _) (.cells #[.int .i64 m, .int .i64 kk, .slice (some ⟨b, off, none⟩) xs.length cc] 26)).alloc (by simp) (.cells #[.int .i64 pm, .int .i64 pk, .slice (some ⟨b', off', none⟩) ys.length cc'] 26)).alloc (by simp; omega) (.cells #[.int .i64 0, .int .i64 0, .slice none 0 0] 26))
  have h1 := Lib.hid (((hR.alloc hB (.cells #[.int .i64 m, .int .i64 kk, .slice (some ⟨b, off, none⟩) xs.length cc] 26)).alloc (by simp; omega) (.cells #[.int .i64 pm, .int .i64 pk, .slice (some ⟨b', off', none⟩) ys.length cc'] 26)).alloc (by simp; omega) (.cells #[.int .i64 0, .int .i64 0, .slice none 0 0] 26))
  have h2 := Lib.hid (((hR'.alloc hB' (.cells #[.int .i64 m, .int .i64 kk, .slice (some ⟨b, off, none⟩) xs.length cc] 26)).alloc (by simp; omega) (.cells #[.int .i64 pm, .int .i64 pk, .slice (some ⟨b', off', none⟩) ys.length cc'] 26)).alloc (by simp; omega) (.cells #[.int .i64 0, .int .i64 0, .slice none 0 0] 26))
  have x0 := (((Blk.new w #[.int .i64 m, .int .i64 kk, .slice (some ⟨b, off, none⟩) xs.length cc] 26).alloc (.cells #[.int .i64 pm, .int .i64 pk, .slice (some ⟨b', off', none⟩) ys.length cc'] 26)).alloc (.cells #[.int .i64 0, .int .i64 0, .slice none 0 0] 26))
  have p0 := (((Blk.new (w.alloc (.cells #[.int .i64 m, .int .i64 kk, .slice (some ⟨b, off, none⟩) xs.length cc] 26)) #[.int .i64 pm, .int .i64 pk, .slice (some ⟨b', off', none⟩) ys.length cc'] 26).alloc (.cells #[.int .i64 0, .int .i64 0, .slice none 0 0] 26)).at_ (q := w.heap.size + 1) (by simp))
  have r0 := ((Blk.new ((w.alloc (.cells #[.int .i64 m, .int .i64 kk, .slice (some ⟨b, off, none⟩) xs.length cc] 26)).alloc (.cells #[.int .i64 pm, .int .i64 pk, .slice (some ⟨b', off', none⟩) ys.length cc'] 26)) #[.int .i64 0, .int .i64 0, .slice none 0 0] 26).at_ (q := w.heap.size + 1 + 1) (by simp))
  have hx64 : xs.length ≤ 64 := by have := hl.out; omega
  clear hR hR'
  go_enter Try.func37, Try.ntmps37
  go_wp2_with fail
  refine (l2Own_any m kk _ _ cc B xs _ h1.out (by simp; omega) (by omega)).mono ?_
  rintro e w1 ⟨A', c', rfl, own, hb⟩
  obtain ⟨g, rfl, hg1, hg2⟩ := own.some_ (by omega)
  have r1 := r0.all hb
  have x1 := x0.all hb
  have p1 := p0.all hb
  have R1 := h2.out.all hb (by simp; omega)
  have HB := Lib.hid (hb0.out.trans (hb.mono (by simp; omega)))
  have hs1 : w.heap.size + 3 ≤ w1.heap.size := by have := hb.size; simp at this; omega
  have hg3 : w.heap.size + 3 ≤ g := by simp at hg1; omega
  replace own := own.mono (show w.heap.size ≤ _ by simp; omega)
  clear hb r0 x0 p0 h1 h2 hg1 hb0
  go_wp2
  have own0 := own.alloc (.cells #[.int .i64 m, .int .i64 kk, .slice (some ⟨g, 0, none⟩) xs.length c'] 26)
  go_loopw [10, 11] (fun s10 s11 wr => ∃ (i : Nat) (zs : List Int), i ≤ pk ∧ s10 = .int .i64 i ∧ Hid (PutTo m kk pm xs ys r q i 0 zs) ∧ Own wr w.heap.size (.slice (some ⟨g, 0, none⟩) xs.length c') zs ∧
      Blk wr (w.heap.size + 1 + 1) 26 #[.int .i64 0, .int .i64 0, .slice none 0 0] ∧ Blk wr w1.heap.size 26 #[.int .i64 m, .int .i64 kk, .slice (some ⟨g, 0, none⟩) xs.length c'] ∧
      Blk wr w.heap.size 26 #[.int .i64 m, .int .i64 kk, .slice (some ⟨b, off, none⟩) xs.length cc] ∧ Blk wr (w.heap.size + 1) 26 #[.int .i64 pm, .int .i64 pk, .slice (some ⟨b', off', none⟩) ys.length cc'] ∧ Rd wr B' (some ⟨b', off', none⟩) ys.length cc' ys ∧ Below w.heap.size w wr)
    (fun s10 _ _ => pk - (intOf s10).toNat)
  case atStart => exact ⟨0, xs, Nat.zero_le _, rfl, Lib.hid (put_start hl.out), own0, r1.alloc _, Blk.new _ _ _, x1.alloc _, p1.alloc _, R1.alloc (by omega) _, HB.out.alloc (by omega) _⟩
  case round =>
    obtain ⟨i, zs, hi, rfl, hput, ho, r2, f2, x2, p2, R2, hbl⟩ := hrel
    have HB2 := Lib.hid hbl
    have lim0 := p2.cell 0
    have lim1 := p2.cell 1
    clear hbl own own0 HB r1 x1 p1 R1
    obtain ⟨wo, rfl⟩ : ∃ wo : World, wo = wr := ⟨_, rfl⟩
    by_cases hlt : i < pk
    · go_wp2
      clear lim0 lim1
      go_loopw [11] (fun s11 wr => ∃ (j : Nat) (zs : List Int), j ≤ pm ∧ s11 = .int .i64 j ∧ Hid (PutTo m kk pm xs ys r q i j zs) ∧ Own wr w.heap.size (.slice (some ⟨g, 0, none⟩) xs.length c') zs ∧
          Blk wr (w.heap.size + 1 + 1) 26 #[.int .i64 0, .int .i64 0, .slice none 0 0] ∧ Blk wr w1.heap.size 26 #[.int .i64 m, .int .i64 kk, .slice (some ⟨g, 0, none⟩) xs.length c'] ∧
          Blk wr w.heap.size 26 #[.int .i64 m, .int .i64 kk, .slice (some ⟨b, off, none⟩) xs.length cc] ∧ Blk wr (w.heap.size + 1) 26 #[.int .i64 pm, .int .i64 pk, .slice (some ⟨b', off', none⟩) ys.length cc'] ∧ Rd wr B' (some ⟨b', off', none⟩) ys.length cc' ys ∧ Below w.heap.size w wr)
        (fun s11 _ => pm - (intOf s11).toNat)
      case atStart => exact ⟨0, zs, Nat.zero_le _, rfl, hput, ho, r2, f2, x2, p2, R2, HB2.out⟩
      case round =>
        obtain ⟨j, zs3, hj, rfl, hput3, ho3, r3, f3, x3, p3, R3, hbl⟩ := hrel
        have HB3 := Lib.hid hbl
        have hbz := hbl.size
        have p30 := p3.cell 0
        have p31 := p3.cell 1
        have p32 := p3.cell 2
        clear hbl ho r2 f2 x2 p2 R2 HB2 hput zs
        by_cases hjk : j < pm
        · have hlt' := at_lt hl'.out hlt hjk
          have hri : r + i < kk := by omega
          have hqj : q + j < m := by omega
          have hidx := at_lt hl.out hri hqj
          obtain ⟨_, _, hbb, hbB, hcell⟩ := R3.cells (by omega)
          cases hbb
          obtain ⟨x, HX⟩ : ∃ x, Hid (elt pm ys i j = x) := ⟨_, rfl⟩
          have hx : wr.cell? ⟨b', off' + (i * pm + j), none⟩ = some (.int .i64 x) := by rw [hcell _ hlt', ← HX.out]; rfl
          have hxx : I64 x := by rw [← HX.out]; exact R3.fit _
          have hx' : wr.drew.cell? ⟨b', off' + (i * pm + j), none⟩ = some (.int .i64 x) := hx
          have hbwr : b' < wr.heap.size := by omega
          have hbwr' : b' < wr.drew.heap.size := hbwr
          have HM := Lib.hid (put_one hput3.out hri hjk hq HX.out)
          obtain ⟨P, HP⟩ : ∃ P : Nat, Hid ((r + i) * m + (q + j) = P) := ⟨_, rfl⟩
          have eP : ((r : Int) + (i : Int)) * (m : Int) + (q : Int) + (j : Int) = (P : Int) := by rw [← HP.out, ← Int.natCast_add, ← Int.natCast_mul]; omega
          have eQ : ((r : Int) + (i : Int)) * (m : Int) = (((r + i) * m : Nat) : Int) := by rw [← Int.natCast_add, ← Int.natCast_mul]
          rw [HP.out] at hidx HM
          have hz64 : zs3.length = xs.length := hput3.out.1.trans hl.out.symm
          have hsum : (r + i) * m + (q + j) ≤ 64 := by rw [HP.out]; omega
          have hw1 : IntKind.i64.wrap ((r : Int) + (i : Int)) = (r : Int) + (i : Int) := IntWalk.i64_in _ (by omega)
          have hw2 : IntKind.i64.wrap (((r : Int) + (i : Int)) * (m : Int)) = ((r : Int) + (i : Int)) * (m : Int) := IntWalk.i64_in _ (by rw [eQ]; omega)
          have hw3 : IntKind.i64.wrap (((r : Int) + (i : Int)) * (m : Int) + (q : Int)) = ((r : Int) + (i : Int)) * (m : Int) + (q : Int) := IntWalk.i64_in _ (by rw [eQ]; omega)
          have hw4 : IntKind.i64.wrap (((r : Int) + (i : Int)) * (m : Int) + (q : Int) + (j : Int)) = (P : Int) := by rw [eP]; exact IntWalk.i64_in _ (by omega)
          have hP0 : (0 : Int) ≤ (P : Int) := by omega
          have hP1 : (P : Int) < (xs.length : Int) := by omega
          obtain ⟨old, HO⟩ : ∃ y, Hid (zs3.getD P 0 = y) := ⟨_, rfl⟩
          have hPz : P < zs3.length := by omega
          have hold := own_at ho3 hPz HO.out
          have hfz := (own_put ho3 P x hxx).1
          have hgr : g < wr.heap.size := by
            have := ho3.bd g rfl
            exact this.2
          have hzw := p3.lt
          have hzx := x3.lt
          have hzf := f3.lt
          have x30 := x3.cell 0
          have f32 := f3.cell 2
          have hxw : w.heap.size < wr.heap.size := by omega
          clear hcell eP eQ hidx hsum
          go_wp2
          go_region_law (first | (go_simp; go_at_call 73; (with_reducible refine (l2At_int pm pk i j b' off' cc' (i : Int) (j : Int) ys x wr.drew rfl rfl hl'.out h64' hlt hjk hbwr' hx').mono ?_); rintro e wa ⟨rfl, hba⟩; have hb6 : Below wr.heap.size wr wa := below_drew hba; have hbc : ∀ b o, b < wr.heap.size → wa.cell? ⟨b, o, none⟩ = wr.cell? ⟨b, o, none⟩ := (bcell hb6).1; have hbf : ∀ b o, b < wr.heap.size → wa.frozen? ⟨b, o, none⟩ = wr.frozen? ⟨b, o, none⟩ := (bcell hb6).2; have hz6 : wr.heap.size ≤ wa.heap.size := hb6.size; have f32a := (hbc _ 2 hzf).trans f32; have x30a := (hbc _ 0 hxw).trans x30; have holda := (hbc g P hgr).trans hold; have hfza := (hbf g P hgr).trans hfz; have oa := ho3.all hb6; have pa := p3.all hb6; have xa := x3.all hb6; have fa := f3.all hb6; have hza : w.heap.size ≤ wa.heap.size := Nat.le_trans hbz hz6; have ra := r3.all hb6; have Ra := R3.all hb6 (Nat.le_trans hB' hbz); have HBa := Lib.hid (HB3.out.trans (hb6.mono hbz))))
          all_goals
            obtain ⟨_, o5, hg5⟩ := own_put oa P x hxx
            have r5 := ra.mark hg5 (fun z hz => by cases hz; omega)
            have f5 := fa.mark hg5 (fun z hz => by cases hz; exact fun e => row_ne' oa.1 fa (by decide) (by rw [← e]; rfl))
            have x5 := xa.mark hg5 (fun z hz => by cases hz; omega)
            have p5 := pa.mark hg5 (fun z hz => by cases hz; omega)
            have R5 := Ra.mark hg5 (fun z hz => by cases hz; omega) (Nat.le_trans hB' hza)
            have HB5 := Lib.hid (HBa.out.grown hg5 hza (fun z hz => by cases hz; omega))
            clear hw1 hw2 hw3 hw4
            go_wp2
            go_roundw
            case rel => exact ⟨j + 1, _, by omega, by go_num, HM, o5, r5, f5, x5, p5, R5, HB5.out⟩
            case measure => simp [intOf]; omega
        · obtain rfl : j = pm := by omega
          have HN := Lib.hid (put_next hput3.out)
          go_wp2
          go_roundw
          case rel => exact ⟨i + 1, zs3, by omega, by go_num, HN, ho3, r3, f3, x3, p3, R3, HB3.out⟩
          case measure => simp [intOf]; omega
    · obtain rfl : i = pk := by omega
      obtain rfl := put_end hput.out
      have f0 := f2.cell 0
      have f1 := f2.cell 1
      have f2' := f2.cell 2
      have g0 := r2.cell 0
      have g1 := r2.cell 1
      have g2 := r2.cell 2
      have z0 := r2.frozen 0
      have z1 := r2.frozen 1
      have z2 := r2.frozen 2
      have HML := Lib.hid (show (putL m kk pm i xs ys r q).length = xs.length by rw [putL_len, Nat.mul_comm]; exact hl.out.symm)
      have F := fin3 (p := w.heap.size + 1 + 1) (a := .int .i64 m) (b := .int .i64 kk) (c := .slice (some ⟨g, 0, none⟩) xs.length c') ho (by simp [Value.ownBlock]; omega) HB2.out (by omega)
      go_wp2
      exact bodyPost_ret (v := chartV m kk (.slice (some ⟨g, 0, none⟩) xs.length c')) (by simp [results, Try.results37, go_sem, g0, g1, g2]) rfl ⟨_, c', by rw [HML.out], by rw [HML.out]; exact F.1, F.2⟩
end Go.Proofs.Ytjfdcmdgpeeabaa
