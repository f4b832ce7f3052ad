/- The walks that tell who sits at a loom, both texts. Condition: at most 1000 weavers. -/
import Derived.Test.YtanfblpibomfaaaWeaver
import Derived.Test.YtanfblpibomfaaaWeaverHelp
import Derived.Test.YtanfblpibomfaaaRestI
import Derived.Deep.CutRange
namespace Go.Proofs.Ytanfblpibomfaaa
open Go.RowKit

/-- What a call leaves that answers a slice of its own. -/
def OutL {α : Type} (F : Flat α) (w : World) (ys : List α) (e : Ending) (w' : World) : Prop :=
  ∃ A c, e = .returned (.slice A ys.length c) ∧ OwnF F w' w.heap.size (.slice A ys.length c) ys ∧ Below w.heap.size w w'
set_option maxRecDepth 100000 in
set_option maxHeartbeats 4000000 in
theorem weaversAt_any (A : Option Addr) (n c B : Nat) (xs : List WeaverR) (l : Int) (w : World) (h : RdF weaverF w B A n c xs) (hB : B ≤ w.heap.size) (hn : n ≤ 1000) :
    Calls Try.prog 45 #[.slice A n c, .int .i64 l] w (OutL weaverF w (atL xs l)) := by
  obtain rfl := h.len
  go_enter Try.func45, Try.ntmps45
  go_wp2
  go_loopw [10, 5] (fun i v wr => ∃ (k m : Nat) (ys : List WeaverR) (A' : Option Addr) (c' : Nat), k ≤ xs.length ∧ i = .int .i64 k ∧ v = .slice A' m c' ∧ Hid (ys.length = m) ∧ m ≤ k ∧ OwnF weaverF wr w.heap.size (.slice A' m c') ys ∧ Hid (ys ++ atL (xs.drop k) l = atL xs l) ∧ Below w.heap.size w wr) (fun i _ _ => xs.length - (intOf i).toNat)
  case atStart => exact ⟨0, 0, [], none, 0, Nat.zero_le _, rfl, rfl, Lib.hid rfl, Nat.le_refl _, OwnF.nil _ _ _, Lib.hid (by simp), Below.refl _ _⟩
  case round =>
    obtain ⟨k, m, ys, A', c', hk, rfl, rfl, HL, hmk, own, HY, hb⟩ := hrel
    have hzz := hb.size
    by_cases hlt : k < xs.length
    · obtain ⟨b, off, a, rfl, hbB, ok, HX, hc0, hc1, hc2, hc3, hc4⟩ := WeaverR_at (F := weaverF) rfl (fun _ => rfl) (fun _ => rfl) (h.all hb hB) hlt
      have HD := Lib.hid (atL_drop HX.out l)
      have x7 := Blk.new wr #[.int .i64 a.f0, .string a.f1, .int .i64 a.f2, .int .i64 a.f3, .int .i64 a.f4] 40
      have own7 := own.alloc (.cells #[.int .i64 a.f0, .string a.f1, .int .i64 a.f2, .int .i64 a.f3, .int .i64 a.f4] 40)
      have HB := hb.alloc hzz (.cells #[.int .i64 a.f0, .string a.f1, .int .i64 a.f2, .int .i64 a.f3, .int .i64 a.f4] 40)
      have hz7 : w.heap.size ≤ (wr.alloc (.cells #[.int .i64 a.f0, .string a.f1, .int .i64 a.f2, .int .i64 a.f3, .int .i64 a.f4] 40)).heap.size := HB.size
      clear hb own
      by_cases hl : a.f4 = l
      · have HN := Lib.hid (show (ys ++ [a]) ++ atL (xs.drop (k + 1)) l = atL xs l by rw [← HY.out, HD.out, atL_one_yes hl, List.append_assoc])
        have HLL := Lib.hid hl
        have hl' : (a.f4 == l) = true := by simp [hl]
        clear hl
        go_upto_region 6 with fail
        clear hc0 hc1 hc2 hc3 hc4
        generalize wr.alloc (.cells #[.int .i64 a.f0, .string a.f1, .int .i64 a.f2, .int .i64 a.f3, .int .i64 a.f4] 40) = W7 at *
        generalize wr.heap.size = P at *
        have e70 := x7.cell 0
        have e71 := x7.cell 1
        have e72 := x7.cell 2
        have e73 := x7.cell 3
        have e74 := x7.cell 4
        have hzP := x7.lt
        go_wp2_with (at_builtin; refine wpList_pushF weaverF rfl W7 (.tmp 18) (.tmp 20) 24 (.agg #[.int .i64 0, .string ⟨#[]⟩, .int .i64 0, .int .i64 0, .int .i64 0]) 48 rfl Try.underlying24 info_Weaver rfl (by decide) (by decide) w.heap.size m _ ys a #[.int .i64 a.f0, .string a.f1, .int .i64 a.f2, .int .i64 a.f3, .int .i64 a.f4] rfl ok HL.out rfl rfl own7 (by omega) hz7 ?_)
        intro A2 c2 w8 own8 hg8
        have HB8 := HB.grown hg8 HB.size (fun j hj => (own7.bd j hj).1)
        clear hg8
        go_wp2
        go_roundw
        case rel => exact ⟨k + 1, m + 1, ys ++ [a], A2, c2, by omega, by go_num, rfl, Lib.hid (by rw [List.length_append, HL.out]; rfl), by omega, own8, HN, HB8⟩
        case measure => simp [intOf]; omega
      · have HN := Lib.hid (show ys ++ atL (xs.drop (k + 1)) l = atL xs l by rw [← HY.out, HD.out, atL_one_no hl]; rfl)
        have hl' : (a.f4 == l) = false := by simp [hl]
        clear hl
        go_wp2
        go_roundw
        case rel => exact ⟨k + 1, m, ys, A', c', by omega, by go_num, rfl, HL, by omega, own7, HN, HB⟩
        case measure => simp [intOf]; omega
    · obtain rfl : k = xs.length := by omega
      have HE := Lib.hid (show ys = atL xs l by have := HY.out; rwa [List.drop_length, show atL [] l = [] from rfl, List.append_nil] at this)
      go_wp2
      go_ret
      exact ⟨A', c', by rw [← HE.out, HL.out]; rfl, by rw [← HE.out, HL.out]; exact own, hb⟩
set_option maxRecDepth 100000 in
set_option maxHeartbeats 2000000 in
theorem l11Seats_any (A : Option Addr) (n c B : Nat) (xs : List WeaverR) (l : Int) (w : World) (h : RdF weaverF w B A n c xs) (hB : B ≤ w.heap.size) :
    Calls Try.prog 55 #[.slice A n c, .int .i64 l] w fun e w' => e = .returned (.int .i64 (seatsN xs l : Nat)) ∧ w = w' := by
  have hn := h.len_lt
  obtain rfl := h.len
  go_enter Try.func55, Try.ntmps55
  go_wp2
  go_loopw [6, 5] (fun i v wr => ∃ (k m : Nat), k ≤ xs.length ∧ i = .int .i64 k ∧ v = .int .i64 m ∧ m ≤ k ∧ Hid (m + seatsN (xs.drop k) l = seatsN xs l) ∧ wr = w) (fun i _ _ => xs.length - (intOf i).toNat)
  case atStart => exact ⟨0, 0, Nat.zero_le _, rfl, rfl, Nat.le_refl _, Lib.hid (by simp), rfl⟩
  case round =>
    obtain ⟨k, m, hk, rfl, rfl, hmk, HY, hw⟩ := hrel
    subst hw
    by_cases hlt : k < xs.length
    · obtain ⟨b, off, a, rfl, hbB, ok, HX, hc0, hc1, hc2, hc3, hc4⟩ := WeaverR_at (F := weaverF) rfl (fun _ => rfl) (fun _ => rfl) h hlt
      have HD := Lib.hid (atL_drop HX.out l)
      by_cases hl : a.f4 = l
      · have HN := Lib.hid (show (m + 1) + seatsN (xs.drop (k + 1)) l = seatsN xs l by
          have h1 := HY.out
          unfold seatsN at *
          rw [← h1, HD.out, atL_one_yes hl, List.length_append]
          simp; omega)
        have HLL := Lib.hid hl
        have hl' : (a.f4 == l) = true := by simp [hl]
        clear hl
        go_wp2
        go_roundw
        case rel => exact ⟨k + 1, m + 1, by omega, by go_num, by go_num, by omega, HN, by first | rfl | trivial⟩
        case measure => simp [intOf]; omega
      · have HN := Lib.hid (show m + seatsN (xs.drop (k + 1)) l = seatsN xs l by
          have h1 := HY.out
          unfold seatsN at *
          rw [← h1, HD.out, atL_one_no hl]
          simp)
        have hl' : (a.f4 == l) = false := by simp [hl]
        clear hl
        go_wp2
        go_roundw
        case rel => exact ⟨k + 1, m, by omega, by go_num, rfl, by omega, HN, by first | rfl | trivial⟩
        case measure => simp [intOf]; omega
    · obtain rfl : k = xs.length := by omega
      have HE := Lib.hid (show m = seatsN xs l by have := HY.out; rw [List.drop_length] at this; exact this)
      go_wp2
      go_ret
      exact ⟨ret_int (by rw [HE.out]), rfl⟩
theorem l11Seats_eq (A : Option Addr) (n c B : Nat) (xs : List WeaverR) (l : Int) (w : World) (v : Nat) (h : RdF weaverF w B A n c xs) (hB : B ≤ w.heap.size) (hv : seatsN xs l = v) :
    Calls Try.prog 55 #[.slice A n c, .int .i64 l] w fun e w' => e = .returned (.int .i64 (v : Nat)) ∧ w = w' := hv ▸ l11Seats_any A n c B xs l w h hB
theorem weaversAt_n (A : Option Addr) (n c B : Nat) (xs : List WeaverR) (l : Int) (w : World) (v : Nat) (h : RdF weaverF w B A n c xs) (hB : B ≤ w.heap.size) (hn : n ≤ 1000) (hv : seatsN xs l = v) :
    Calls Try.prog 45 #[.slice A n c, .int .i64 l] w fun e w' => (∃ A c, e = .returned (.slice A v c)) ∧ Below w.heap.size w w' :=
  (weaversAt_any A n c B xs l w h hB hn).mono fun e w' ⟨A', c', he, _, hb⟩ => ⟨⟨A', c', by rw [he, ← hv]; rfl⟩, hb⟩
end Go.Proofs.Ytanfblpibomfaaa
