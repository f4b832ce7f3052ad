/- The walk of the program's sideBySide. Condition: at least one and few charts, all with the same height. -/
import Derived.Test.YtpmhnklmhfadlaaMgSeq
import Derived.Test.YtpmhnklmhfadlaaMgPlm
import Derived.Test.YtpmhnklmhfadlaaMgMath
import Derived.Test.YtpmhnklmhfadlaaKnot
namespace Go.Proofs.Ytpmhnklmhfadlaa
open Go.RowKit

def widP (ps : List Pic) (i : Nat) : Nat := ((ps.take i).map Pic.m).sum
def rowsTo (ps : List Pic) (r j : Nat) : List Int := (ps.take j).flatMap fun q => rowL q.m r q.xs
def sideTo (ps : List Pic) (r : Nat) : List Int := (List.range r).flatMap fun i => rowsTo ps i ps.length
/-- All charts have one height. -/
def PsOk (kk : Nat) (ps : List Pic) : Prop := ∀ q ∈ ps, q.Ok ∧ q.k = kk
section
variable {ps : List Pic} {kk i r j : Nat} {q : Pic}
theorem widP_succ (h : ps[i]? = some q) : widP ps (i + 1) = widP ps i + q.m := by
  obtain ⟨hi, rfl⟩ := List.getElem?_eq_some_iff.1 h
  unfold widP
  rw [List.take_succ_eq_append_getElem hi, List.map_append, List.sum_append_nat]
  simp
theorem rowsTo_succ (h : ps[j]? = some q) : rowsTo ps r (j + 1) = rowsTo ps r j ++ rowL q.m r q.xs := by
  obtain ⟨hi, rfl⟩ := List.getElem?_eq_some_iff.1 h
  unfold rowsTo
  rw [List.take_succ_eq_append_getElem hi, List.flatMap_append]
  simp
theorem sideTo_succ : sideTo ps (r + 1) = sideTo ps r ++ rowsTo ps r ps.length := by
  unfold sideTo
  rw [List.range_succ, List.flatMap_append]
  simp
theorem widP_le (h : PsOk kk ps) : widP ps i ≤ 8 * i := by
  induction i with
  | zero => simp [widP]
  | succ i ih =>
    by_cases hi : i < ps.length
    · have := (h _ (List.getElem_mem hi)).1.2.1
      rw [widP_succ (List.getElem?_eq_getElem hi)]
      omega
    · have e1 : ps.take (i + 1) = ps.take i := by rw [List.take_of_length_le (show ps.length ≤ i + 1 by omega), List.take_of_length_le (show ps.length ≤ i by omega)]
      unfold widP at ih ⊢
      rw [e1]
      omega
theorem rowsTo_len (h : PsOk kk ps) (hr : r < kk) : (rowsTo ps r j).length = widP ps j := by
  induction j with
  | zero => simp [widP, rowsTo]
  | succ j ih =>
    by_cases hj : j < ps.length
    · have hq := h _ (List.getElem_mem hj)
      rw [rowsTo_succ (List.getElem?_eq_getElem hj), widP_succ (List.getElem?_eq_getElem hj), List.length_append, ih, rowL_len (k := kk) (by rw [hq.1.2.2.2.2, hq.2]) hr]
    · have e1 : ps.take (j + 1) = ps.take j := by rw [List.take_of_length_le (show ps.length ≤ j + 1 by omega), List.take_of_length_le (show ps.length ≤ j by omega)]
      unfold widP rowsTo at ih ⊢
      rw [e1]
      exact ih
theorem sideTo_len (h : PsOk kk ps) (hr : r ≤ kk) : (sideTo ps r).length = r * widP ps ps.length := by
  induction r with
  | zero => simp [sideTo]
  | succ r ih => rw [sideTo_succ, List.length_append, ih (by omega), rowsTo_len h (by omega), Nat.succ_mul]
theorem sideTo_le (h : PsOk kk ps) (hr : r ≤ kk) (hk : kk ≤ 8) (hn : ps.length ≤ 8) : (sideTo ps r).length ≤ 512 := by
  rw [sideTo_len h hr]
  have := widP_le (i := ps.length) h
  have : r * widP ps ps.length ≤ 8 * 64 := Nat.mul_le_mul (by omega) (by omega)
  omega
end
/-- The headers hs are those of charts that can be read below block B. -/
def SeenR (w : World) (B : Nat) (hs : List ChR) (ps : List Pic) : Prop := hs.length = ps.length ∧ ∀ (j : Nat) (h : ChR) (q : Pic), hs[j]? = some h → ps[j]? = some q → h.W = (q.m : Int) ∧ h.H = (q.k : Int) ∧ h.n = q.xs.length ∧ Rd w B h.A h.n h.c q.xs
theorem SeenR.below {w w' : World} {B : Nat} {hs : List ChR} {ps : List Pic} (h : SeenR w B hs ps) (hb : Below B w w') : SeenR w' B hs ps :=
  ⟨h.1, fun j x q hx hq => by obtain ⟨a, b, c, d⟩ := h.2 j x q hx hq; exact ⟨a, b, c, d.below hb (Nat.le_refl _)⟩⟩
theorem SeenR.get {w : World} {B kk j : Nat} {hs : List ChR} {ps : List Pic} {a : ChR} (h : SeenR w B hs ps) (hp : PsOk kk ps) (ha : hs[j]? = some a) :
    ∃ (m : Nat) (xs : List Int) (b off c : Nat), a = ⟨m, kk, some ⟨b, off, none⟩, xs.length, c⟩ ∧ ps[j]? = some ⟨m, kk, xs⟩ ∧ 1 ≤ m ∧ m ≤ 8 ∧ Hid (xs.length = m * kk) ∧ Rd w B (some ⟨b, off, none⟩) xs.length c xs := by
  have hl := h.1
  have hj := (List.getElem?_eq_some_iff.1 ha).1
  have hq : ps[j]? = some (ps[j]'(by omega)) := List.getElem?_eq_getElem (by omega)
  obtain ⟨ho, hk⟩ := hp _ (List.getElem_mem (show j < ps.length by omega))
  obtain ⟨h1, h2, h3, h4⟩ := h.2 j a _ ha hq
  rw [hq]
  generalize ps[j]'(by omega) = q at *
  obtain ⟨W, H, A, n, c⟩ := a
  obtain ⟨m, k, xs⟩ := q
  simp only at h1 h2 h3 h4 hk
  subst hk
  subst h3
  obtain ⟨b, off, rfl, _, _⟩ := h4.cells (by have := ho.len.2; exact this)
  exact ⟨m, xs, b, off, c, by rw [h1, h2], rfl, ho.1, ho.2.1, ho.2.2.2.2, h4⟩
theorem Ch_at {w : World} {B n c j : Nat} {A : Option Addr} {hs : List ChR} (h : RdF chartsF w B A n c hs) (hj : j < n) :
    ∃ b off s, A = some ⟨b, off, none⟩ ∧ b < B ∧ Hid (hs[j]? = some s) ∧ w.cell? ⟨b, off + j * 3, none⟩ = some (.int .i64 s.W) ∧ w.cell? ⟨b, off + j * 3 + 1, none⟩ = some (.int .i64 s.H) ∧ w.cell? ⟨b, off + j * 3 + 2, none⟩ = some (.slice s.A s.n s.c) := by
  obtain ⟨b, off, s, e, hb, _, hx, hc⟩ := h.at hj
  have hc' := hc
  unfold Hid at hc'
  exact ⟨b, off, s, e, hb, hx, hc' 0 _ rfl, hc' 1 _ rfl, hc' 2 _ rfl⟩
theorem step_appendF {α : Type} (F : Flat α) {P : Program} {ops : Array Oper} {o : Oper} {a : Act} {K : Act → World → Prop} {Q : Exit → Act → World → Prop} {E : Prop} (hgd : o.guard = none) (w : World) (s x : Operand) (T : TypeId) (z : Value) (bytes : Nat)
    (ho : o.op = .call { callee := .builtin .append, args := #[s, x], argTypes := #[T, T] }) (ht : P.underlying T = some (.slice F.t)) (hinfo : (P.info? F.t).map (fun i => (i.zero, i.size, i.bytes)) = some (some z, F.k, bytes))
    (hzs : z.cells.size = F.k) (hk : 0 < F.k) (hby : bytes ≤ 1024)
    (lo : Nat) (v : Value) (xs ys : List α) (b off m c B : Nat)
    (hs : a.eval s = v) (hx : a.eval x = .slice (some ⟨b, off, none⟩) m c) (hown : OwnF F w lo v xs) (hy : RdF F w B (some ⟨b, off, none⟩) m c ys) (hlen : xs.length + ys.length ≤ 1073741824) (hlo : lo ≤ w.heap.size)
    (h : ∀ A' c' w', OwnF F w' lo (.slice A' (xs.length + ys.length) c') (xs ++ ys) → w.grownBy w' v.ownBlock → K (a.put o.dst (.slice A' (xs.length + ys.length) c')) w') :
    if Region.wanted o (yielded ops a.tmps) = true then Oper.wp P o a w K Q else E := by
  rw [if_pos (show Region.wanted o (yielded ops a.tmps) = true by simp [Region.wanted, hgd])]
  exact wp_appendF F w s x T z bytes ho ht hinfo hzs hk hby lo v xs ys b off m c B hs hx hown hy hlen hlo h
theorem rowOf_s (m k r b off n c : Nat) (w : World) (h : n = m * k) (hc : n ≤ c) (hcm : c ≤ maxLen) (hm : 1 ≤ m) (hm8 : m ≤ 8) (hr : r < k) (hk8 : k ≤ 8) :
    Calls Try.prog 56 #[chartV m k (.slice (some ⟨b, off, none⟩) n c), .int .i64 (r : Int)] w (Out w (.slice (some ⟨b, off + r * m, none⟩) m (c - r * m))) := by
  have := rowOf_any m k r b off c (List.replicate n 0) w (by rw [List.length_replicate]; exact h) (by rw [List.length_replicate]; exact hc) hcm hm hm8 hr hk8
  rwa [List.length_replicate] at this
def hIf (i kk : Nat) : Int := if i = 0 then 0 else kk
theorem hIf_pos {i kk : Nat} (h : 1 ≤ i) : hIf i kk = kk := if_neg (by omega)
set_option maxRecDepth 100000 in
set_option maxHeartbeats 8000000 in
theorem sideBySide_any (hs : List ChR) (ps : List Pic) (A : Option Addr) (n c B kk : Nat) (w : World) (h : RdF chartsF w B A n c hs) (hB : B ≤ w.heap.size) (hS : SeenR w w.heap.size hs ps) (hne : 1 ≤ n) (hn8 : n ≤ 8) (hk1 : 1 ≤ kk) (hk8 : kk ≤ 8) (hp : PsOk kk ps) :
    Calls Try.prog 39 #[.slice A n c] w fun e w' => ∃ A' c', e = .returned (chartV (widP ps ps.length) kk (.slice A' (sideTo ps kk).length c')) ∧ Own w' w.heap.size (.slice A' (sideTo ps kk).length c') (sideTo ps kk) ∧ Below w.heap.size w w' := by
  have hhl := h.len
  have hpl := hS.1
  have HS := Lib.hid hS
  have HP := Lib.hid hp
  have hw8 := widP_le (i := ps.length) hp
  have hb0 := Lib.hid (((Below.refl w.heap.size w).alloc (Nat.le_refl _) (.cells #[.int .i64 0, .int .i64 0, .slice none 0 0] 26)).alloc (by simp) (.cells #[.int .i64 0, .int .i64 0, .slice none 0 0] 26))
  have h' := (h.alloc hB (.cells #[.int .i64 0, .int .i64 0, .slice none 0 0] 26)).alloc (by simp; omega) (.cells #[.int .i64 0, .int .i64 0, .slice none 0 0] 26)
  have r0 := (Blk.new w #[.int .i64 0, .int .i64 0, .slice none 0 0] 26).alloc (.cells #[.int .i64 0, .int .i64 0, .slice none 0 0] 26)
  have x0 := (Blk.new (w.alloc (.cells #[.int .i64 0, .int .i64 0, .slice none 0 0] 26)) #[.int .i64 0, .int .i64 0, .slice none 0 0] 26).at_ (q := w.heap.size + 1) (by simp)
  clear h hS hp
  go_enter Try.func39, Try.ntmps39
  go_wp2
  go_loopw [11] (fun s11 wr => ∃ i : Nat, i ≤ n ∧ s11 = .int .i64 i ∧ Blk wr (w.heap.size + 1) 26 #[.int .i64 (widP ps i : Int), .int .i64 (hIf i kk), .slice none 0 0] ∧ Blk wr w.heap.size 26 #[.int .i64 0, .int .i64 0, .slice none 0 0] ∧ RdF chartsF wr B A n c hs ∧ Hid (Below w.heap.size w wr)) (fun s11 _ => n - (intOf s11).toNat)
  case atStart => exact ⟨0, Nat.zero_le _, rfl, x0, r0, h', hb0⟩
  case round =>
    clear x0 r0 h' hb0
    obtain ⟨i, hi, rfl, x1, r1, h1, HB⟩ := hrel
    by_cases hlt : i < n
    · obtain ⟨b, off, a, rfl, hb, HX, e0, e1, e2⟩ := Ch_at h1 hlt
      obtain ⟨m, xs, b', off', c', rfl, hq, m1, m8, hl, hR⟩ := HS.out.get HP.out HX.out
      have hws := Lib.hid (widP_succ hq)
      have hwb := widP_le (i := i) HP.out
      have hww : IntKind.i64.wrap ((widP ps i : Int) + (m : Int)) = (widP ps i : Int) + (m : Int) := IntWalk.i64_in _ (by omega)
      have f0 := x1.cell 0
      have f1 := x1.cell 1
      have z0 := x1.frozen 0
      have z1 := x1.frozen 1
      have hzx := x1.lt
      have hzB : b < wr.heap.size := Nat.lt_of_lt_of_le hb (Nat.le_trans hB HB.out.size)
      clear hR HX hq
      go_wp2
      have x2 := ((x1.set_ 0 (.int .i64 ((widP ps i : Int) + (m : Int)))).set_ 1 (.int .i64 (kk : Int))).alloc (.cells #[.int .i64 (m : Int), .int .i64 (kk : Int), .slice (some ⟨b', off', none⟩) xs.length c'] 26)
      have r2 := ((r1.far (a := ⟨w.heap.size + 1, 0, none⟩) (by simp) (.int .i64 ((widP ps i : Int) + (m : Int)))).far (a := ⟨w.heap.size + 1, 1, none⟩) (by simp) (.int .i64 (kk : Int))).alloc (.cells #[.int .i64 (m : Int), .int .i64 (kk : Int), .slice (some ⟨b', off', none⟩) xs.length c'] 26)
      have HB2 := Lib.hid (((HB.out.setCell (p := ⟨w.heap.size + 1, 0, none⟩) (by simp) (.int .i64 ((widP ps i : Int) + (m : Int)))).setCell (p := ⟨w.heap.size + 1, 1, none⟩) (by simp) (.int .i64 (kk : Int))).alloc (by simp [World.setCell]; exact HB.out.size) (.cells #[.int .i64 (m : Int), .int .i64 (kk : Int), .slice (some ⟨b', off', none⟩) xs.length c'] 26))
      have R3 := ((h1.keep (w' := (wr.setCell ⟨w.heap.size + 1, 0, none⟩ (.int .i64 ((widP ps i : Int) + (m : Int)))).setCell ⟨w.heap.size + 1, 1, none⟩ (.int .i64 (kk : Int))) (fun bb oo hbb => by
        rw [World.cell?_setCell_far _ _ _ _ (by simp; omega), World.cell?_setCell_far _ _ _ _ (by simp; omega)])).alloc (by simp [World.setCell]; exact Nat.le_trans hB HB.out.size) (.cells #[.int .i64 (m : Int), .int .i64 (kk : Int), .slice (some ⟨b', off', none⟩) xs.length c'] 26))
      clear x1 r1 h1 HB e0 e1 e2 f0 f1 z0 z1
      go_roundw
      case rel =>
        refine ⟨i + 1, by omega, by go_num, ?_, r2, R3, HB2⟩
        rw [hws.out, hIf_pos (by omega)]
        simpa using x2
      case measure => simp [intOf]; omega
    · obtain rfl : i = n := by omega
      have f1 := x1.cell 1
      rw [hIf_pos hne] at f1 x1
      have hzx := x1.lt
      go_wp2
      clear f1
      go_loopw [27] (fun s27 wr => ∃ (r : Nat) (A' : Option Addr) (c' : Nat) (ys : List Int), r ≤ kk ∧ s27 = .int .i64 r ∧ Hid (ys = sideTo ps r) ∧ Own wr w.heap.size (.slice A' ys.length c') ys ∧ Blk wr (w.heap.size + 1) 26 #[.int .i64 (widP ps i : Int), .int .i64 (kk : Int), .slice A' ys.length c'] ∧ Blk wr w.heap.size 26 #[.int .i64 0, .int .i64 0, .slice none 0 0] ∧ RdF chartsF wr B A i c hs ∧ Hid (Below w.heap.size w wr)) (fun s27 _ => kk - (intOf s27).toNat)
      case atStart => exact ⟨0, none, 0, [], Nat.zero_le _, rfl, rfl, Own.nil _ _, x1, r1, h1, HB⟩
      case round =>
        clear x1 r1 h1 HB hzx
        obtain ⟨r, A', c', ys, hr, rfl, hys, ho, x1, r1, h1, HB⟩ := hrel
        by_cases hrk : r < kk
        · go_wp2
          go_loopw [32, 8] (fun s32 _ wr => ∃ (j : Nat) (A' : Option Addr) (c' : Nat) (ys : List Int), j ≤ i ∧ s32 = .int .i64 j ∧ Hid (ys = sideTo ps r ++ rowsTo ps r j) ∧ Own wr w.heap.size (.slice A' ys.length c') ys ∧ Blk wr (w.heap.size + 1) 26 #[.int .i64 (widP ps i : Int), .int .i64 (kk : Int), .slice A' ys.length c'] ∧ Blk wr w.heap.size 26 #[.int .i64 0, .int .i64 0, .slice none 0 0] ∧ RdF chartsF wr B A i c hs ∧ Hid (Below w.heap.size w wr)) (fun s32 _ _ => i - (intOf s32).toNat)
          case atStart => exact ⟨0, A', c', ys, Nat.zero_le _, rfl, Lib.hid (by rw [hys.out]; simp [rowsTo]), ho, x1, r1, h1, HB⟩
          case round =>
            clear x1 r1 h1 HB ho hys
            obtain ⟨j, A', c', ys, hj, rfl, hys, ho, x1, r1, h1, HB⟩ := hrel
            by_cases hji : j < i
            · obtain ⟨b, off, a, rfl, hb, HX, e0, e1, e2⟩ := Ch_at h1 hji
              obtain ⟨m, xs, b', off', cc', rfl, hq, m1, m8, hl, hR⟩ := HS.out.get HP.out HX.out
              have hzB : b < wr.heap.size := Nat.lt_of_lt_of_le hb (Nat.le_trans hB HB.out.size)
              have hR1 := hR.below HB.out (Nat.le_refl _)
              have hcap := hR.cap
              have hmax := hR.max
              have hrl : (rowL m r xs).length = m := rowL_len hl.out hrk
              have HN := Lib.hid (show ys ++ rowL m r xs = sideTo ps r ++ rowsTo ps r (j + 1) by rw [rowsTo_succ hq, hys.out, List.append_assoc])
              have hyl : ys.length ≤ 1024 := by
                rw [hys.out, List.length_append, rowsTo_len HP.out hrk]
                have := sideTo_le HP.out hr hk8 (by omega)
                have := widP_le (i := j) HP.out
                omega
              have hlen : ys.length + (rowL m r xs).length ≤ 1073741824 := by omega
              have hhz := HB.out.size
              clear HX hq hys
              go_wp2
              have x2 := x1.alloc (.cells #[.int .i64 (m : Int), .int .i64 (kk : Int), .slice (some ⟨b', off', none⟩) xs.length cc'] 26)
              have r2 := r1.alloc (.cells #[.int .i64 (m : Int), .int .i64 (kk : Int), .slice (some ⟨b', off', none⟩) xs.length cc'] 26)
              have o2 := ho.alloc (.cells #[.int .i64 (m : Int), .int .i64 (kk : Int), .slice (some ⟨b', off', none⟩) xs.length cc'] 26)
              have h2 := h1.alloc (Nat.le_trans hB hhz) (.cells #[.int .i64 (m : Int), .int .i64 (kk : Int), .slice (some ⟨b', off', none⟩) xs.length cc'] 26)
              have HB2 := Lib.hid (HB.out.alloc hhz (.cells #[.int .i64 (m : Int), .int .i64 (kk : Int), .slice (some ⟨b', off', none⟩) xs.length cc'] 26))
              have R2 := hR1.alloc hhz (.cells #[.int .i64 (m : Int), .int .i64 (kk : Int), .slice (some ⟨b', off', none⟩) xs.length cc'] 26)
              have y2 := Blk.new wr #[.int .i64 (m : Int), .int .i64 (kk : Int), .slice (some ⟨b', off', none⟩) xs.length cc'] 26
              have hz2 : w.heap.size ≤ (wr.alloc (.cells #[.int .i64 (m : Int), .int .i64 (kk : Int), .slice (some ⟨b', off', none⟩) xs.length cc'] 26)).heap.size := HB2.out.size
              clear x1 r1 ho h1 HB e0 e1 e2 hR hR1
              generalize wr.alloc (.cells #[.int .i64 (m : Int), .int .i64 (kk : Int), .slice (some ⟨b', off', none⟩) xs.length cc'] 26) = wv at *
              have f2 := x2.cell 2
              have z2 := x2.frozen 2
              have y20 := y2.cell 0
              have y21 := y2.cell 1
              have y22 := y2.cell 2
              have hzx := x2.lt
              have hzy := y2.lt
              go_region_law (first | (refine step_appendF intF rfl wa (.tmp 37) (.tmp 40) 24 (.int .i64 0) 8 rfl Try.underlying24 info_int rfl (by decide) (by decide) w.heap.size _ ys (rowL m r xs) b' (off' + r * m) m (cc' - r * m) w.heap.size (by simp [Act.eval]) (by simp [Act.eval]) oa.toF (Ra.row hl.out hrk).toF hlen hza ?_; intro A5 c5 w5 o5 hg5; have x5 := xa.mark hg5 (row_ne oa.1 xa (by decide)); have r5 := ra.mark hg5 (row_ne oa.1 ra (by decide)); have h5 := ha.mark hg5 (fun z hz => by have := oa.bd z hz; omega) (Nat.le_trans hB hza); have HB5 := Lib.hid (HBa.out.grown hg5 hza (fun z hz => (oa.bd z hz).1)); have f52 := x5.cell 2; have z52 := x5.frozen 2; have hz5 := x5.lt) | (go_simp; go_at_call 56; (with_reducible refine (rowOf_s m kk r b' off' xs.length cc' _ hl.out hcap hmax m1 m8 hrk hk8).mono ?_); rintro e wa ⟨rfl, hba⟩; have hb6 : Below wv.heap.size wv wa := below_drew hba; have oa := o2.all hb6; have xa := x2.all hb6; have ra := r2.all hb6; have ha := h2.all hb6 (Nat.le_trans hB hz2); have Ra := R2.all hb6 hz2; have HBa := Lib.hid (HB2.out.trans (hb6.mono hz2)); have hza : w.heap.size ≤ wa.heap.size := HBa.out.size; have fa2 := xa.cell 2; have za2 := xa.frozen 2; have hzxa := xa.lt))
              all_goals
                have x6 := x5.set_ 2 (.slice A5 (ys.length + m) c5)
                have r6 := r5.far (a := ⟨w.heap.size + 1, 2, none⟩) (by simp) (.slice A5 (ys.length + m) c5)
                have o6 := (o5.toI).far (a := ⟨w.heap.size + 1, 2, none⟩) (row_ne' o5.1 x5 (by decide)) (.slice A5 (ys.length + m) c5)
                have HB6 := Lib.hid (HB5.out.setCell (p := ⟨w.heap.size + 1, 2, none⟩) (by simp) (.slice A5 (ys.length + m) c5))
                have h6 := h5.keep (w' := w5.setCell ⟨w.heap.size + 1, 2, none⟩ (.slice A5 (ys.length + m) c5)) (fun bb oo hbb => by rw [World.cell?_setCell_far _ _ _ _ (by simp; omega)])
                have hln : (ys ++ rowL m r xs).length = ys.length + m := by rw [List.length_append, hrl]
                rw [hrl] at o6
                clear x2 r2 o2 h2 HB2 R2 y2 f2 z2 y20 y21 y22 xa ra ha Ra HBa fa2 za2 x5 r5 o5 h5 HB5 f52 z52 oa
                go_wp2
                go_roundw
                case rel =>
                  refine ⟨j + 1, A5, c5, ys ++ rowL m r xs, by omega, by go_num, HN, ?_, ?_, r6, h6, HB6⟩
                  · rw [hln]; exact o6
                  · rw [hln]; simpa using x6
                case measure => simp [intOf]; omega
            · obtain rfl : j = i := by omega
              go_wp2
              go_roundw
              case rel => exact ⟨r + 1, A', c', ys, by omega, by go_num, Lib.hid (by rw [hys.out, sideTo_succ, ← hpl, hhl]), ho, x1, r1, h1, HB⟩
              case measure => simp [intOf]; omega
        · obtain rfl : r = kk := by omega
          have f0 := x1.cell 0
          have f1 := x1.cell 1
          have f2 := x1.cell 2
          have g0 := r1.cell 0
          have g1 := r1.cell 1
          have g2 := r1.cell 2
          have z0 := r1.frozen 0
          have z1 := r1.frozen 1
          have z2 := r1.frozen 2
          have hwi : widP ps ps.length = widP ps i := by rw [← hpl, hhl]
          obtain rfl := hys.out
          go_wp2
          have F := fin3 (p := w.heap.size) (a := .int .i64 (widP ps i : Int)) (b := .int .i64 (r : Int)) (c := .slice A' (sideTo ps r).length c') ho (row_ne' ho.1 r1 (by decide)) HB.out (Nat.le_refl _)

          exact bodyPost_ret (v := chartV (widP ps i) r (.slice A' (sideTo ps r).length c')) (by simp [results, Try.results39, go_sem, g0, g1, g2]) rfl ⟨_, _, rfl, F.1, F.2⟩
end Go.Proofs.Ytpmhnklmhfadlaa
