/- The walks of the laws' own helpers over slices of pairs of numbers. Condition: at most 1048576 elements. -/
import Derived.Test.YtiglbidfjcjhgaaPlaceMath
import Derived.Test.YtiglbidfjcjhgaaHelp
namespace Go.Proofs.Ytiglbidfjcjhgaa
open Go.RowKit

def fm (k : Int) (q : Nat) : List Value := (List.range q).map fun t : Nat => .int .i64 (k + t)
theorem fm_len (k : Int) (q : Nat) : (fm k q).length = q := by simp [fm]
theorem fm_succ (k : Int) (q : Nat) : fm k (q + 1) = fm k q ++ [.int .i64 (k + q)] := by simp [fm, List.range_succ]
def markedP (k : Int) (n : Nat) : List PairR := (List.range n).map fun j : Nat => ⟨k + 2 * (j : Int), k + 2 * (j : Int) + 1⟩
theorem markedP_len (k : Int) (n : Nat) : (markedP k n).length = n := by simp [markedP]
theorem markedP_at (k : Int) (n j : Nat) (h : j < n) : (markedP k n)[j]? = some ⟨k + 2 * (j : Int), k + 2 * (j : Int) + 1⟩ := by simp [markedP, h]
theorem markedP_flat (k : Int) (n : Nat) : (markedP k n).flatMap pairF.enc = fm k (n * 2) := by
  induction n with
  | zero => simp [markedP, fm]
  | succ n ih =>
    have e : markedP k (n + 1) = markedP k n ++ [⟨k + 2 * (n : Int), k + 2 * (n : Int) + 1⟩] := by simp [markedP, List.range_succ]
    rw [e, List.flatMap_append, ih, Nat.succ_mul, show n * 2 + 2 = n * 2 + 1 + 1 by omega, fm_succ, fm_succ, List.append_assoc]
    congr 1
    simp only [List.flatMap_cons, List.flatMap_nil, List.append_nil, pairF, List.singleton_append]
    have e1 : k + 2 * (n : Int) = k + ((n * 2 : Nat) : Int) := by omega
    have e2 : k + 2 * (n : Int) + 1 = k + ((n * 2 + 1 : Nat) : Int) := by omega
    rw [e1, ← e2, ← e1]
theorem markedP_ok (k : Int) (n : Nat) (hn : n ≤ 1048576) (h0 : 1 ≤ k) (h1 : k ≤ 1048576) : ∀ x ∈ markedP k n, pairF.ok x := by
  intro x hx
  simp only [markedP, List.mem_map, List.mem_range] at hx
  obtain ⟨q, hq, rfl⟩ := hx
  exact ⟨⟨by show (-9223372036854775808 : Int) ≤ k + 2 * (q : Int); omega, by show k + 2 * (q : Int) ≤ (9223372036854775807 : Int); omega⟩, ⟨by show (-9223372036854775808 : Int) ≤ k + 2 * (q : Int) + 1; omega, by show k + 2 * (q : Int) + 1 ≤ (9223372036854775807 : Int); omega⟩⟩
theorem take_fm {l : List Value} {k : Int} {q : Nat} (h : l.take q = fm k q) (hq : q < l.length) : (l.set q (.int .i64 (k + q))).take (q + 1) = fm k (q + 1) := by
  rw [fm_succ, List.take_set, List.take_succ_eq_append_getElem hq, h, List.set_append, if_neg (by rw [fm_len]; omega), fm_len]
  simp
set_option maxRecDepth 100000 in
set_option maxHeartbeats 2000000 in
theorem markPS_own (g n cap : Nat) (k : Int) (w : World) (lo : Nat) (xs : List PairR) (h : OwnF pairF w lo (.slice (some ⟨g, 0, none⟩) n cap) xs) (hl : xs.length = n) (hn : n ≤ 1048576) (h0 : 1 ≤ k) (h1 : k ≤ 1048576) :
    Calls Try.prog 20 #[.slice (some ⟨g, 0, none⟩) n cap, .int .i64 k] w fun e w' => e = .returned (.int .i64 (k + 2 * n)) ∧ OwnF pairF w' lo (.slice (some ⟨g, 0, none⟩) n cap) (markedP k n) ∧ w.grownBy w' (some g) := by
  have ho := h.1
  rw [hl] at ho
  have hxl := Lib.hid (show (xs.flatMap pairF.enc).length = n * 2 from (flat_len pairF.len xs).trans (by rw [hl]; rfl))
  obtain ⟨l0, el⟩ : ∃ l0, xs.flatMap pairF.enc = l0 := ⟨_, rfl⟩
  rw [el] at ho hxl
  clear el h hl
  go_enter Try.func20, Try.ntmps20
  go_wp2
  go_loopw [1, 5, 6] (fun s1 s5 _ wr => ∃ (i : Nat) (l : List Value), i ≤ n ∧ s5 = .int .i64 i ∧ s1 = .int .i64 (k + 2 * (i : Int)) ∧ Hid (l.length = n * 2) ∧ Hid (l.take (i * 2) = fm k (i * 2)) ∧ wr.ownsRow lo 59 2 (.slice (some ⟨g, 0, none⟩) n cap) n l ∧ w.grownBy wr (some g)) (fun _ s5 _ _ => n - (intOf s5).toNat)
  case atStart => exact ⟨0, l0, Nat.zero_le _, rfl, by simp, hxl, by simp [Hid, fm], ho, World.grownBy.refl _ _⟩
  case round =>
    clear ho hxl
    obtain ⟨i, l, hi, rfl, rfl, hll, hlt0, ho, hg⟩ := hrel
    by_cases hlt : i < n
    · go_wp2
      go_loopw [1, 6] (fun s1 s6 wr => ∃ (t : Nat) (l : List Value), t ≤ 2 ∧ s6 = .int .i64 t ∧ s1 = .int .i64 (k + 2 * (i : Int) + (t : Int)) ∧ Hid (l.length = n * 2) ∧ Hid (l.take (i * 2 + t) = fm k (i * 2 + t)) ∧ wr.ownsRow lo 59 2 (.slice (some ⟨g, 0, none⟩) n cap) n l ∧ w.grownBy wr (some g)) (fun _ s6 _ => 2 - (intOf s6).toNat)
      case atStart => exact ⟨0, l, by omega, rfl, by simp, hll, hlt0, ho, hg⟩
      case round =>
        clear ho hg hll hlt0
        obtain ⟨t, l, ht, rfl, rfl, hll, hlt0, ho, hg⟩ := hrel
        by_cases ht2 : t < 2
        · obtain ⟨y, hy⟩ := row_there (j := i * 2 + t) ho (by omega)
          have hf : wr.frozen? ⟨g, i * 2 + t, none⟩ = false := ho.frozenAt _
          have hgz : g < wr.heap.size := (ho.lt _ rfl).2
          have ht2' : (t : Int) < 2 := by omega
          have HN := Lib.hid (show (l.set (i * 2 + t) (.int .i64 (k + 2 * (i : Int) + (t : Int)))).take (i * 2 + (t + 1)) = fm k (i * 2 + (t + 1)) by
            have := take_fm hlt0.out (by rw [hll.out]; omega)
            rw [show k + ((i * 2 + t : Nat) : Int) = k + 2 * (i : Int) + (t : Int) by omega] at this
            exact this)
          have HL := Lib.hid (show (l.set (i * 2 + t) (.int .i64 (k + 2 * (i : Int) + (t : Int)))).length = n * 2 by rw [List.length_set]; exact hll.out)
          have H := ho.stored (i * 2 + t) (.int .i64 (k + 2 * (i : Int) + (t : Int)))
          have hw : IntKind.i64.wrap (k + 2 * (i : Int) + (t : Int) + 1) = k + 2 * (i : Int) + (t : Int) + 1 := IntWalk.i64_in _ (by omega)
          clear hll hlt0
          go_wp2
          go_roundw
          case rel => exact ⟨t + 1, _, by omega, by go_num, by go_num, HL, HN, H.1, hg.trans H.2⟩
          case measure => simp [intOf]; omega
        · obtain rfl : t = 2 := by omega
          go_wp2
          go_roundw
          case rel => exact ⟨i + 1, l, by omega, by go_num, by go_num, hll, by rw [show (i + 1) * 2 = i * 2 + 2 by omega]; exact hlt0, ho, hg⟩
          case measure => simp [intOf]; omega
    · obtain rfl : i = n := by omega
      have e : l = fm k (i * 2) := by
        have := hlt0.out
        rwa [List.take_of_length_le (by rw [hll.out]; exact Nat.le_refl _)] at this
      subst e
      go_wp2
      go_ret
      exact ⟨rfl, ⟨by rw [markedP_len, markedP_flat]; exact ho, markedP_ok k i hn h0 h1⟩, hg⟩
theorem markPS_any (v : Value) (k : Int) (w : World) (lo : Nat) (xs : List PairR) (h : OwnF pairF w lo v xs) (hn : xs.length ≤ 1048576) (h0 : 1 ≤ k) (h1 : k ≤ 1048576) :
    Calls Try.prog 20 #[v, .int .i64 k] w fun e w' => e = .returned (.int .i64 (k + 2 * xs.length)) ∧ OwnF pairF w' lo v (markedP k xs.length) ∧ w.grownBy w' v.ownBlock := by
  rcases h.1.2 with ⟨rfl, h0'⟩ | ⟨g, cap, _, rfl, _⟩
  · rw [h0']
    go_enter Try.func20, Try.ntmps20
    go_wp2
    go_loop [1, 5] (fun kk i => kk = .int .i64 k ∧ i = .int .i64 0) (fun _ _ => 0)
    case atStart => exact ⟨rfl, rfl⟩
    case round =>
      obtain ⟨rfl, rfl⟩ := hrel
      go_wp2
      go_ret
      exact ⟨ret_int (by simp), (show markedP k 0 = [] from rfl) ▸ OwnF.nil _ _ _, World.grownBy.refl _ _⟩
  · exact markPS_own g _ cap k w lo xs h rfl hn h0 h1
set_option maxRecDepth 100000 in
set_option maxHeartbeats 2000000 in
theorem heldPS_any (A : Option Addr) (n c B : Nat) (k : Int) (w : World) (h : RdF pairF w B A n c (markedP k n)) (hB : B ≤ w.heap.size) (hn : n ≤ 1048576) (h0 : 1 ≤ k) (h1 : k ≤ 1048576) :
    Calls Try.prog 21 #[.slice A n c, .int .i64 k] w (Out w (.int .i64 (k + 2 * n))) := by
  go_enter Try.func21, Try.ntmps21
  go_wp2
  go_loopw [1, 5, 6] (fun s1 s5 _ wr => ∃ i : Nat, i ≤ n ∧ s5 = .int .i64 i ∧ s1 = .int .i64 (k + 2 * (i : Int)) ∧ wr = w) (fun _ s5 _ _ => n - (intOf s5).toNat)
  case atStart => exact ⟨0, Nat.zero_le _, rfl, by simp, rfl⟩
  case round =>
    obtain ⟨i, hi, rfl, rfl, rfl⟩ := hrel
    by_cases hlt : i < n
    · obtain ⟨b, off, a, rfl, hbB, _, HX, hc0, hc1⟩ := Pair_at h hlt
      obtain rfl : (⟨k + 2 * (i : Int), k + 2 * (i : Int) + 1⟩ : PairR) = a := by
        have h2 := HX.out
        rw [markedP_at k n i hlt] at h2
        exact Option.some.inj h2
      simp only at hc0 hc1
      have HC := Lib.hid (show ∀ t : Nat, t < 2 → wr.cell? ⟨b, off + i * 2 + t, none⟩ = some (.int .i64 (k + 2 * (i : Int) + (t : Int))) from fun t ht => by
        rcases (show t = 0 ∨ t = 1 by omega) with rfl | rfl
        · simpa using hc0
        · exact hc1)
      clear hc0 hc1
      go_wp2
      go_loopw [1, 6] (fun s1 s6 wq => ∃ t : Nat, t ≤ 2 ∧ s6 = .int .i64 t ∧ s1 = .int .i64 (k + 2 * (i : Int) + (t : Int)) ∧ wq = wr) (fun _ s6 _ => 2 - (intOf s6).toNat)
      case atStart => exact ⟨0, by omega, rfl, by simp, rfl⟩
      case round =>
        obtain ⟨t, ht, rfl, rfl, rfl⟩ := hrel
        by_cases ht2 : t < 2
        · have hc := HC.out t ht2
          have ht2' : (t : Int) < 2 := by omega
          have hw : IntKind.i64.wrap (k + 2 * (i : Int) + (t : Int) + 1) = k + 2 * (i : Int) + (t : Int) + 1 := IntWalk.i64_in _ (by omega)
          go_wp2
          go_roundw
          case rel => exact ⟨t + 1, by omega, by go_num, by go_num, by first | rfl | trivial⟩
          case measure => simp [intOf]; omega
        · obtain rfl : t = 2 := by omega
          go_wp2
          go_roundw
          case rel => exact ⟨i + 1, by omega, by go_num, by go_num, by first | rfl | trivial⟩
          case measure => simp [intOf]; omega
    · obtain rfl : i = n := by omega
      go_wp2
      go_ret
      exact ⟨rfl, Below.refl _ _⟩
set_option maxRecDepth 100000 in
set_option maxHeartbeats 1000000 in
theorem eqIntA2_same (x y : Int) (w : World) : Calls Try.prog 43 #[.agg #[.int .i64 x, .int .i64 y], .agg #[.int .i64 x, .int .i64 y]] w (Out w (.bool true)) := by
  have hb0 := Lib.hid (((Below.refl w.heap.size w).alloc (Nat.le_refl _) (.cells #[.int .i64 x, .int .i64 y] 59)).alloc (by simp) (.cells #[.int .i64 x, .int .i64 y] 59))
  have x0 := (Blk.new w #[.int .i64 x, .int .i64 y] 59).alloc (.cells #[.int .i64 x, .int .i64 y] 59)
  have y0 := (Blk.new (w.alloc (.cells #[.int .i64 x, .int .i64 y] 59)) #[.int .i64 x, .int .i64 y] 59).at_ (q := w.heap.size + 1) (by simp)
  obtain ⟨wv, hwv⟩ : ∃ wv, wv = (w.alloc (.cells #[.int .i64 x, .int .i64 y] 59)).alloc (.cells #[.int .i64 x, .int .i64 y] 59) := ⟨_, rfl⟩
  rw [← hwv] at hb0 x0 y0
  have HX := Lib.hid (show ∀ t : Nat, t < 2 → ∃ z : Int, wv.cell? ⟨w.heap.size, t, none⟩ = some (.int .i64 z) ∧ wv.cell? ⟨w.heap.size + 1, t, none⟩ = some (.int .i64 z) from fun t ht => by
    rcases (show t = 0 ∨ t = 1 by omega) with rfl | rfl
    · exact ⟨x, x0.cell 0, y0.cell 0⟩
    · exact ⟨y, x0.cell 1, y0.cell 1⟩)
  have hz0 := x0.lt
  have hz1 := y0.lt
  clear x0 y0
  go_enter Try.func43, Try.ntmps43
  go_wp2
  rw [← hwv]
  clear hwv
  go_loopw [5] (fun s5 wr => ∃ t q : Nat, t ≤ 2 ∧ s5 = .int .i64 t ∧ wr = wv.drewN q) (fun s5 _ => 2 - (intOf s5).toNat)
  case atStart => exact ⟨0, 0, by omega, rfl, rfl⟩
  case round =>
    obtain ⟨t, q, ht, rfl, rfl⟩ := hrel
    by_cases ht2 : t < 2
    · obtain ⟨z, c0, c1⟩ := HX.out t ht2
      have ht2' : (t : Int) < 2 := by omega
      have ht0 : (0 : Int) ≤ (t : Int) := by omega
      go_wp2
      go_quiet (fail)
      go_wp2
      go_roundw
      case rel => exact ⟨t + 1, _, by omega, by go_num, rfl⟩
      case measure => simp [intOf]; omega
    · obtain rfl : t = 2 := by omega
      go_wp2
      go_ret
      exact ⟨rfl, belowN hb0.out _⟩
set_option maxRecDepth 100000 in
set_option maxHeartbeats 2000000 in
theorem eqPS_same (A A' : Option Addr) (n c n' c' B B' : Nat) (xs : List PairR) (w : World) (h : RdF pairF w B A n c xs) (h' : RdF pairF w B' A' n' c' xs) (hB : B ≤ w.heap.size) (hB' : B' ≤ w.heap.size) :
    Calls Try.prog 18 #[.slice A n c, .slice A' n' c'] w (Out w (.bool true)) := by
  have hn := h.len_lt
  obtain rfl : n' = n := by rw [← h.len, ← h'.len]
  go_enter Try.func18, Try.ntmps18
  go_wp2
  go_loopw [5] (fun i wr => ∃ k : Nat, k ≤ n' ∧ i = .int .i64 k ∧ Below w.heap.size w wr) (fun i _ => n' - (intOf i).toNat)
  case atStart => exact ⟨0, Nat.zero_le _, rfl, Below.refl _ _⟩
  case round =>
    obtain ⟨k, hk, rfl, hb⟩ := hrel
    by_cases hlt : k < n'
    · obtain ⟨b, off, a, rfl, hbB, _, HX, hc0, hc1⟩ := Pair_at h hlt
      obtain ⟨b', off', a', rfl, hbB', _, HX', hd0, hd1⟩ := Pair_at h' hlt
      obtain rfl : a' = a := Option.some.inj (HX'.out.symm.trans HX.out)
      have hx0 := (hb.cell (p := ⟨b, off + k * 2, none⟩) (by show b < _; omega)).trans hc0
      have hx1 := (hb.cell (p := ⟨b, off + k * 2 + 1, none⟩) (by show b < _; omega)).trans hc1
      have hy0 := (hb.cell (p := ⟨b', off' + k * 2, none⟩) (by show b' < _; omega)).trans hd0
      have hy1 := (hb.cell (p := ⟨b', off' + k * 2 + 1, none⟩) (by show b' < _; omega)).trans hd1
      have hk0 : (0 : Int) ≤ (k : Int) := by omega
      have hkn : (k : Int) < (n' : Int) := by omega
      have hzz := hb.size
      have h1z : b < wr.heap.size := by omega
      have h2z : b' < wr.heap.size := by omega
      clear hc0 hc1 hd0 hd1
      go_wp2
      go_region_held3 (fun w' => w'.cell? ⟨b, off + k * 2, none⟩ = some (.int .i64 a'.f0) ∧ w'.cell? ⟨b, off + k * 2 + 1, none⟩ = some (.int .i64 a'.f1) ∧ w'.cell? ⟨b', off' + k * 2, none⟩ = some (.int .i64 a'.f0) ∧ w'.cell? ⟨b', off' + k * 2 + 1, none⟩ = some (.int .i64 a'.f1)) (first | exact ⟨hx0, hx1, hy0, hy1⟩ | go_keep) (first | (go_at_call 43; (with_reducible refine (eqIntA2_same a'.f0 a'.f1 _).mono ?_); rintro e w2 ⟨rfl, hb2⟩; (try replace hb2 := below_drew' hb2); replace hx0 := cells_of hb2 hx0 h1z; replace hx1 := cells_of hb2 hx1 h1z; replace hy0 := cells_of hb2 hy0 h2z; replace hy1 := cells_of hb2 hy1 h2z))
      have hbz := hb.trans (hb2.mono hb.size)
      go_wp2
      go_roundw
      case rel => exact ⟨k + 1, by omega, by go_num, hbz⟩
      case measure => simp [intOf]; omega
    · go_wp2
      go_ret
      exact ⟨rfl, hb⟩
end Go.Proofs.Ytiglbidfjcjhgaa
