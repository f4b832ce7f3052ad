/- The walks of SeatWeaver, both texts. Condition: the loom fits into an int. -/
import Derived.Test.YtanfblpibomfaaaCopy11
namespace Go.Proofs.Ytanfblpibomfaaa
open Go.RowKit

set_option maxRecDepth 100000 in
set_option maxHeartbeats 4000000 in
theorem implSeatWeaver_any (A : Option Addr) (n c B : Nat) (xs : List WeaverR) (id loom : Int) (w : World) (h : RdF weaverF w B A n c xs) (hB : B ≤ w.heap.size) (hlo : I64 loom) :
    Calls Try.prog 11 #[.slice A n c, .int .i64 id, .int .i64 loom] w (OutF weaverF w (seat11 xs id loom).1 (seat11 xs id loom).2) := by
  rcases hf : find11 xs id with _ | ⟨k, a⟩
  · have hv := Lib.hid (show placeI (find11 xs id) = -1 by rw [hf]; rfl)
    rw [show seat11 xs id loom = ([], false) by unfold seat11; rw [hf]]
    clear hf
    go_enter Try.func11, Try.ntmps11
    go_wp2_with (go_at_call 48; refine (weaverWith_eq A n c B xs id _ _ h hB hv.out).mono ?_; rintro e w1 ⟨rfl, hb⟩)
    go_ret2
    exact ⟨none, 0, rfl, OwnF.nil _ _ _, hb⟩
  obtain ⟨hg, ha, hid⟩ := find11_of hf
  have hv := Lib.hid (show placeI (find11 xs id) = (k : Int) by rw [hf]; rfl)
  have HS := Lib.hid (show seat11 xs id loom = put11 xs k ⟨a.f0, a.f1, a.f2, a.f3, loom⟩ by unfold seat11; rw [hf])
  have hl := h.len
  have h8 := (weaversB_of hg).1
  have hk := (List.getElem?_eq_some_iff.1 ha).1
  have ok := h.fits a (List.mem_of_getElem? ha)
  obtain ⟨b, off, _, rfl, _⟩ := WeaverR_at (F := weaverF) rfl (fun _ => rfl) (fun _ => rfl) h (show k < n by omega)
  have HA := Lib.hid ha
  have hk0 : ¬ (k : Int) < 0 := by omega
  have hk1 : (k : Int) < (xs.length : Int) := by omega
  clear hf ha hid
  go_enter Try.func11, Try.ntmps11
  go_wp2_with (go_at_call 48; refine (weaverWith_eq _ n c B xs id _ _ h hB hv.out).mono ?_; rintro e w1 ⟨rfl, hb⟩)
  refine (copyWeavers_any b off n c B xs _ (h.all hb hB) (Nat.le_trans hB hb.size) (by omega) (by omega) (Lib.hid (weavers_short hg))).mono ?_
  rintro e w2 ⟨g, c2, rfl, own, hb2⟩
  have hz1 := hb.size
  replace own := own.mono hz1
  replace hb := hb.trans (hb2.mono hz1)
  have hgl := (own.bd g rfl).1
  clear hb2 h
  subst hl
  obtain ⟨y4, hy4⟩ := own.there (j := k) (i := 4) (by omega) (by decide)
  have hf4 : w2.frozen? ⟨g, k * 5 + 4, none⟩ = false := own.frozen _
  replace hy4 : w2.cell? ⟨g, k * 5 + 4, none⟩ = some y4 := hy4
  have HP := own.put1 (i := 4) (y := ⟨a.f0, a.f1, a.f2, a.f3, loom⟩) HA.out (by decide) (.int .i64 loom) rfl ⟨ok.1, ok.2.1, ok.2.2.1, ok.2.2.2.1, hlo⟩
  have HB := hb.grown HP.2 hb.size (fun j hj => by cases hj; exact hgl)
  have HO := HP.1
  have hls : (xs.set k ⟨a.f0, a.f1, a.f2, a.f3, loom⟩).length = xs.length := List.length_set
  have hrd := HO.rd
  have HPU := Lib.hid (show put11 xs k ⟨a.f0, a.f1, a.f2, a.f3, loom⟩ = if weaversB (xs.set k ⟨a.f0, a.f1, a.f2, a.f3, loom⟩) = true then (xs.set k ⟨a.f0, a.f1, a.f2, a.f3, loom⟩, true) else ([], false) from rfl)
  clear own hb HP
  generalize xs.set k ⟨a.f0, a.f1, a.f2, a.f3, loom⟩ = zs at *
  cases hz : weaversB zs
  case false =>
    rw [hz] at HPU
    have HE := Lib.hid (HS.out.trans HPU.out)
    go_wp2_with (go_at_call 14; refine (implAreWeavers_eq _ _ c2 _ zs _ _ hrd (Nat.le_refl _) hz).mono ?_; rintro e w4 ⟨rfl, hb4⟩)
    go_ret2
    rw [HE.out]
    exact ⟨none, 0, rfl, OwnF.nil _ _ _, HB.trans (hb4.mono HB.size)⟩
  case true =>
    rw [hz] at HPU
    have HE := Lib.hid (HS.out.trans HPU.out)
    go_wp2_with (go_at_call 14; refine (implAreWeavers_eq _ _ c2 _ zs _ _ hrd (Nat.le_refl _) hz).mono ?_; rintro e w4 ⟨rfl, hb4⟩)
    go_ret2
    rw [HE.out]
    refine ⟨some ⟨g, 0, none⟩, c2, ?_, ?_, HB.trans (hb4.mono HB.size)⟩
    · show _ = Ending.returned (.tuple #[.slice (some ⟨g, 0, none⟩) zs.length c2, .bool true])
      rw [hls]; rfl
    · show OwnF weaverF _ _ (.slice (some ⟨g, 0, none⟩) zs.length c2) zs
      rw [hls]; exact HO.all hb4
end Go.Proofs.Ytanfblpibomfaaa
