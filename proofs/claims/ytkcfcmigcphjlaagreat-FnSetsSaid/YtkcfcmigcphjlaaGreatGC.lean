/- MH, MN, MF, I, MG. -/
import Derived.Test.YtkcfcmigcphjlaaGreatGA
import Derived.Test.YtkcfcmigcphjlaaGreatGAA
import Derived.Test.YtkcfcmigcphjlaaGreatCI
import Derived.Test.YtkcfcmigcphjlaaGreatGB
import Derived.BigRegion
import Derived.Deep.RegionWith
import Derived.Deep.RegionHeld3
import Derived.Deep.DeepCutAuto
import Derived.BigQuiet
import Derived.Deep.QuietTactic
import Derived.Laws.CopyOwn
import Derived.StillTailTactics
import Derived.RangeFuncKeeps
import Derived.RangeFuncLeaves
import Derived.RangeFuncBound
import Derived.Shelf.Abstract
import Derived.WalkKit
import Derived.OwnWalkIn
import Derived.TacticsInMore
import Derived.LoopNIn
import Derived.LoopIn
import Derived.BigFrameIn
import Derived.RangeFuncNested




namespace Go.Proofs.YtkcfcmigcphjlaaGreat
open Go.RowKit
set_option linter.unusedVariables false

/-- a clock as a value -/
def cv (xs : List Int) : Value := .agg #[.int .i64 xs.length, .int .i64 (xs.getD 0 0), .int .i64 (xs.getD 1 0), .int .i64 (xs.getD 2 0), .int .i64 (xs.getD 3 0)]
def cvOr (xs : List Int) : Value := if okB xs = true then cv xs else .agg #[.int .i64 0, .int .i64 0, .int .i64 0, .int .i64 0, .int .i64 0]
theorem cvOr_yes {xs : List Int} (h : okB xs = true) : cvOr xs = cv xs := if_pos h
theorem cvOr_no {xs : List Int} (h : okB xs = false) : cvOr xs = .agg #[.int .i64 0, .int .i64 0, .int .i64 0, .int .i64 0, .int .i64 0] := if_neg (by simp [h])
theorem ret_clk {xs : List Int} {v : Value} {b : Bool} (hv : cvOr xs = v) (hb : okB xs = b) : Ending.returned (.tuple #[v, .bool b]) = .returned (.tuple #[cvOr xs, .bool (okB xs)]) := by rw [hv, hb]
def pad (n : Nat) (ys : List Int) : List Int := [(n : Int), ys.getD 0 0, ys.getD 1 0, ys.getD 2 0, ys.getD 3 0]

theorem pad_set (xs : List Int) (n k : Nat) (hk : k < xs.length) (h4 : xs.length ≤ 4) : ((pad n (xs.take k)).map (Value.int .i64)).set (1 + k) (.int .i64 (xs.getD k 0)) = (pad n (xs.take (k + 1))).map (Value.int .i64) := by
  match xs, k, hk, h4 with
  | [a], 0, _, _ => rfl
  | [a, b], 0, _, _ => rfl
  | [a, b], 1, _, _ => rfl
  | [a, b, c], 0, _, _ => rfl
  | [a, b, c], 1, _, _ => rfl
  | [a, b, c], 2, _, _ => rfl
  | [a, b, c, d], 0, _, _ => rfl
  | [a, b, c, d], 1, _, _ => rfl
  | [a, b, c, d], 2, _, _ => rfl
  | [a, b, c, d], 3, _, _ => rfl
  | a :: b :: c :: d :: e :: r, k, _, h => simp at h
  | [], k, h, _ => simp at h
  | [a], k + 1, h, _ => simp at h
  | [a, b], k + 2, h, _ => simp at h; omega
  | [a, b, c], k + 3, h, _ => simp at h; omega
  | [a, b, c, d], k + 4, h, _ => simp at h; omega

set_option maxHeartbeats 400000 in
theorem readClock_len (a : Option Addr) (n cap : Nat) (w : World) (hn : n ≤ 9223372036854775807) (h : n < 1 ∨ 4 < n) :
    Calls Tryz.prog 47 #[.slice a n cap] w fun e w' => e = .returned (.tuple #[.agg #[.int .i64 0, .int .i64 0, .int .i64 0, .int .i64 0, .int .i64 0], .bool false]) ∧ Below w.heap.size w w' := by
  rcases h with h | h
  · go_enter Tryz.func47, Tryz.ntmps47
    go_wp2
    exact bodyPost_ret (v := .tuple #[.agg #[.int .i64 0, .int .i64 0, .int .i64 0, .int .i64 0, .int .i64 0], .bool false]) (by simp [results, Tryz.results47, go_sem]) rfl ⟨rfl, (Below.refl _ _).alloc (Nat.le_refl _) _⟩
  · have h' : ¬ n < 1 := by omega
    go_enter Tryz.func47, Tryz.ntmps47
    go_wp2
    exact bodyPost_ret (v := .tuple #[.agg #[.int .i64 0, .int .i64 0, .int .i64 0, .int .i64 0, .int .i64 0], .bool false]) (by simp [results, Tryz.results47, go_sem]) rfl ⟨rfl, (Below.refl _ _).alloc (Nat.le_refl _) _⟩

set_option maxHeartbeats 800000 in
theorem readClock_in (b off cap n : Nat) (xs : List Int) (w : World) (hn : xs.length = n) (h1 : 1 ≤ n) (h4 : n ≤ 4) (hb : b < w.heap.size)
    (hc : ∀ i, i < n → w.cell? ⟨b, off + i, none⟩ = some (.int .i64 (xs.getD i 0))) :
    Calls Tryz.prog 47 #[.slice (some ⟨b, off, none⟩) n cap] w fun e w' =>
      e = .returned (.tuple #[cvOr xs, .bool (okB xs)]) ∧ Below w.heap.size w w' := by
  have HN := Lib.hid hn
  clear hn
  go_enter Tryz.func47, Tryz.ntmps47
  go_wp2
  have hown0 : ((w.alloc (.cells #[.int .i64 0, .int .i64 0, .int .i64 0, .int .i64 0, .int .i64 0] 55)).alloc (.cells #[.int .i64 n, .int .i64 0, .int .i64 0, .int .i64 0, .int .i64 0] 55)).ownsRow (w.heap.size + 1) 55 5 (.slice (some ⟨w.heap.size + 1, 0, none⟩) 1 1) 1 ((pad n (xs.take 0)).map (Value.int .i64)) := by
    have := World.ownsRow_lit (size := 5) (e := 55) (base := w.heap.size + 1) (w.alloc (.cells #[.int .i64 0, .int .i64 0, .int .i64 0, .int .i64 0, .int .i64 0] 55)) #[.int .i64 n, .int .i64 0, .int .i64 0, .int .i64 0, .int .i64 0] 1 (by simp) (by unfold maxLen; omega) (by simp)
    simpa [pad] using this
  have hbel0 : Below (w.heap.size + 1) (w.alloc (.cells #[.int .i64 0, .int .i64 0, .int .i64 0, .int .i64 0, .int .i64 0] 55)) ((w.alloc (.cells #[.int .i64 0, .int .i64 0, .int .i64 0, .int .i64 0, .int .i64 0] 55)).alloc (.cells #[.int .i64 n, .int .i64 0, .int .i64 0, .int .i64 0, .int .i64 0] 55)) := (Below.refl _ _).alloc (by simp) _
  have hfirst : Hid (Below w.heap.size w (w.alloc (.cells #[.int .i64 0, .int .i64 0, .int .i64 0, .int .i64 0, .int .i64 0] 55))) := (Below.refl _ _).alloc (by simp) _
  have hcell0 : Hid (∀ j, (w.alloc (.cells #[.int .i64 0, .int .i64 0, .int .i64 0, .int .i64 0, .int .i64 0] 55)).cell? ⟨w.heap.size, j, none⟩ = ((pad 0 []).map (Value.int .i64))[j]?) := by
    intro j
    rw [World.cell?_alloc_new]
    simp [pad]
  have hfroz0 : Hid (∀ j, (w.alloc (.cells #[.int .i64 0, .int .i64 0, .int .i64 0, .int .i64 0, .int .i64 0] 55)).frozen? ⟨w.heap.size, j, none⟩ = false) := by
    intro j
    simp
  have H0 := Lib.hid hown0
  have H2 := Lib.hid hbel0
  clear hown0 hbel0
  go_loopw [20] (fun i wr => ∃ k : Nat, k ≤ n ∧ i = .int .i64 k ∧ Hid ((xs.take k).all good = true) ∧
      Hid (wr.ownsRow (w.heap.size + 1) 55 5 (.slice (some ⟨w.heap.size + 1, 0, none⟩) 1 1) 1 ((pad n (xs.take k)).map (Value.int .i64))) ∧
      Hid (Below (w.heap.size + 1) (w.alloc (.cells #[.int .i64 0, .int .i64 0, .int .i64 0, .int .i64 0, .int .i64 0] 55)) wr)) (fun i _ => n - (intOf i).toNat)
  case atStart => exact ⟨0, Nat.zero_le _, rfl, by simp [Hid], H0, H2⟩
  case round =>
    obtain ⟨k, hk, rfl, hg, ho, hbel⟩ := hrel
    clear H0 H2
    have hbel' : Below w.heap.size w wr := hfirst.out.trans (hbel.out.mono (by omega))
    by_cases hlt : k < n
    · have hc1 : wr.cell? ⟨b, off + k, none⟩ = some (.int .i64 (xs.getD k 0)) := (hbel'.cell (p := ⟨b, off + k, none⟩) hb).trans (hc k hlt)
      clear hc hbel'
      obtain ⟨x, hx⟩ : ∃ x, xs.getD k 0 = x := ⟨_, rfl⟩
      rw [hx] at hc1
      have HX := Lib.hid hx
      clear hx
      by_cases hx0 : 0 ≤ x
      · by_cases hx1 : x ≤ 100000
        · have hf := ho.out.frozenAt (1 + k)
          have hcc : ∃ z, wr.cell? ⟨w.heap.size + 1, 1 + k, none⟩ = some z := by
            refine ⟨_, (ho.out.cellAt (1 + k) (by omega)).trans (List.getElem?_eq_getElem (by simp [pad]; omega))⟩
          obtain ⟨z, hz⟩ := hcc
          have hst := (ho.out.stored (1 + k) (.int .i64 x)).1
          rw [← HX.out, pad_set xs n k (by rw [HN.out]; exact hlt) (by rw [HN.out]; exact h4), HX.out] at hst
          have HS := Lib.hid hst
          clear hst
          go_wp2
          go_roundw
          case rel => exact ⟨k + 1, by omega, by go_num, good_step xs k (by rw [HN.out]; omega) hg.out (by rw [HX.out]; exact hx0) (by rw [HX.out]; exact hx1), HS.out, hbel.out.setCell (by simp) _⟩
          case measure => simp [intOf]; omega
        · have hno := okB_bad xs k (by rw [HN.out]; omega) (.inr (by rw [HX.out]; omega))
          have r0 : ∀ j, wr.cell? ⟨w.heap.size, j, none⟩ = ((pad 0 []).map (Value.int .i64))[j]? := fun j => (hbel.out.cell (p := ⟨w.heap.size, j, none⟩) (by simp)).trans (hcell0.out j)
          have rf : ∀ j, wr.frozen? ⟨w.heap.size, j, none⟩ = false := fun j => (hbel.out.frozen (p := ⟨w.heap.size, j, none⟩) (by simp)).trans (hfroz0.out j)
          have q0 : wr.cell? ⟨w.heap.size, 0, none⟩ = some (.int .i64 0) := r0 0
          have q1 : wr.cell? ⟨w.heap.size, 1, none⟩ = some (.int .i64 0) := r0 1
          have q2 : wr.cell? ⟨w.heap.size, 2, none⟩ = some (.int .i64 0) := r0 2
          have q3 : wr.cell? ⟨w.heap.size, 3, none⟩ = some (.int .i64 0) := r0 3
          have q4 : wr.cell? ⟨w.heap.size, 4, none⟩ = some (.int .i64 0) := r0 4
          clear r0
          have hB := hfirst.out.trans (hbel.out.mono (B' := w.heap.size) (by omega))
          have HNO := Lib.hid hno
          have HB := Lib.hid hB
          clear hno hB
          go_wp2
          exact bodyPost_ret (v := .tuple #[.agg #[.int .i64 0, .int .i64 0, .int .i64 0, .int .i64 0, .int .i64 0], .bool false]) (by simp [results, Tryz.results47, go_sem, q0, q1, q2, q3, q4]) rfl ⟨ret_clk (cvOr_no HNO.out) HNO.out, ((((HB.out.setCell (by simp) _).setCell (by simp) _).setCell (by simp) _).setCell (by simp) _).setCell (by simp) _⟩
      · have hno := okB_bad xs k (by rw [HN.out]; omega) (.inl (by rw [HX.out]; omega))
        have r0 : ∀ j, wr.cell? ⟨w.heap.size, j, none⟩ = ((pad 0 []).map (Value.int .i64))[j]? := fun j => (hbel.out.cell (p := ⟨w.heap.size, j, none⟩) (by simp)).trans (hcell0.out j)
        have rf : ∀ j, wr.frozen? ⟨w.heap.size, j, none⟩ = false := fun j => (hbel.out.frozen (p := ⟨w.heap.size, j, none⟩) (by simp)).trans (hfroz0.out j)
        have q0 : wr.cell? ⟨w.heap.size, 0, none⟩ = some (.int .i64 0) := r0 0
        have q1 : wr.cell? ⟨w.heap.size, 1, none⟩ = some (.int .i64 0) := r0 1
        have q2 : wr.cell? ⟨w.heap.size, 2, none⟩ = some (.int .i64 0) := r0 2
        have q3 : wr.cell? ⟨w.heap.size, 3, none⟩ = some (.int .i64 0) := r0 3
        have q4 : wr.cell? ⟨w.heap.size, 4, none⟩ = some (.int .i64 0) := r0 4
        clear r0
        have hB := hfirst.out.trans (hbel.out.mono (B' := w.heap.size) (by omega))
        have HNO := Lib.hid hno
        have HB := Lib.hid hB
        clear hno hB
        go_wp2
        exact bodyPost_ret (v := .tuple #[.agg #[.int .i64 0, .int .i64 0, .int .i64 0, .int .i64 0, .int .i64 0], .bool false]) (by simp [results, Tryz.results47, go_sem, q0, q1, q2, q3, q4]) rfl ⟨ret_clk (cvOr_no HNO.out) HNO.out, ((((HB.out.setCell (by simp) _).setCell (by simp) _).setCell (by simp) _).setCell (by simp) _).setCell (by simp) _⟩
    · have hkn : k = n := by omega
      have hyes := okB_all xs k (by rw [HN.out]; omega) (by omega) (by omega) hg.out
      subst hkn
      have ht : xs.take k = xs := by rw [List.take_of_length_le (by rw [HN.out]; omega)]
      have c0 : ∀ j, wr.cell? ⟨w.heap.size + 1, j, none⟩ = ((pad k (xs.take k)).map (Value.int .i64))[j]? ∨ 5 ≤ j := fun j => by
        by_cases hj : j < 5
        · exact .inl (ho.out.cellAt j (by omega))
        · exact .inr (by omega)
      rw [ht] at c0
      have p0 : wr.cell? ⟨w.heap.size + 1, 0, none⟩ = some (.int .i64 k) := (c0 0).resolve_right (by omega)
      have p1 : wr.cell? ⟨w.heap.size + 1, 1, none⟩ = some (.int .i64 (xs.getD 0 0)) := (c0 1).resolve_right (by omega)
      have p2 : wr.cell? ⟨w.heap.size + 1, 2, none⟩ = some (.int .i64 (xs.getD 1 0)) := (c0 2).resolve_right (by omega)
      have p3 : wr.cell? ⟨w.heap.size + 1, 3, none⟩ = some (.int .i64 (xs.getD 2 0)) := (c0 3).resolve_right (by omega)
      have p4 : wr.cell? ⟨w.heap.size + 1, 4, none⟩ = some (.int .i64 (xs.getD 3 0)) := (c0 4).resolve_right (by omega)
      have r0 : ∀ j, wr.cell? ⟨w.heap.size, j, none⟩ = ((pad 0 []).map (Value.int .i64))[j]? := fun j => (hbel.out.cell (p := ⟨w.heap.size, j, none⟩) (by simp)).trans (hcell0.out j)
      have rf : ∀ j, wr.frozen? ⟨w.heap.size, j, none⟩ = false := fun j => (hbel.out.frozen (p := ⟨w.heap.size, j, none⟩) (by simp)).trans (hfroz0.out j)
      have q0 : wr.cell? ⟨w.heap.size, 0, none⟩ = some (.int .i64 0) := r0 0
      have q1 : wr.cell? ⟨w.heap.size, 1, none⟩ = some (.int .i64 0) := r0 1
      have q2 : wr.cell? ⟨w.heap.size, 2, none⟩ = some (.int .i64 0) := r0 2
      have q3 : wr.cell? ⟨w.heap.size, 3, none⟩ = some (.int .i64 0) := r0 3
      have q4 : wr.cell? ⟨w.heap.size, 4, none⟩ = some (.int .i64 0) := r0 4
      clear r0 c0
      have hB := hfirst.out.trans (hbel.out.mono (B' := w.heap.size) (by omega))
      have hcv : cvOr xs = .agg #[.int .i64 k, .int .i64 (xs.getD 0 0), .int .i64 (xs.getD 1 0), .int .i64 (xs.getD 2 0), .int .i64 (xs.getD 3 0)] := by rw [cvOr_yes hyes, cv, HN.out]
      have HC := Lib.hid hcv
      have HNO := Lib.hid hyes
      have HB := Lib.hid hB
      clear hyes hB hcv ht hc
      generalize xs.getD 0 0 = x0 at *
      generalize xs.getD 1 0 = x1 at *
      generalize xs.getD 2 0 = x2 at *
      generalize xs.getD 3 0 = x3 at *
      go_wp2
      exact bodyPost_ret (v := .tuple #[.agg #[.int .i64 k, .int .i64 x0, .int .i64 x1, .int .i64 x2, .int .i64 x3], .bool true]) (by simp [results, Tryz.results47, go_sem, q0, q1, q2, q3, q4]) rfl ⟨ret_clk HC.out HNO.out, ((((HB.out.setCell (by simp) _).setCell (by simp) _).setCell (by simp) _).setCell (by simp) _).setCell (by simp) _⟩

/-- the parts of the clock that readClock gives: those of xs, or zeros -/
def cn (xs : List Int) : Int := if okB xs = true then xs.length else 0
def cx (xs : List Int) (i : Nat) : Int := if okB xs = true then xs.getD i 0 else 0
theorem cvOr_eq (xs : List Int) : cvOr xs = .agg #[.int .i64 (cn xs), .int .i64 (cx xs 0), .int .i64 (cx xs 1), .int .i64 (cx xs 2), .int .i64 (cx xs 3)] := by
  unfold cvOr cn cx cv
  by_cases h : okB xs = true <;> simp [h]

theorem readClock_any (v : Value) (xs : List Int) (w : World) (h : Ints w v xs) :
    Calls Tryz.prog 47 #[v] w fun e w' => e = .returned (.tuple #[.agg #[.int .i64 (cn xs), .int .i64 (cx xs 0), .int .i64 (cx xs 1), .int .i64 (cx xs 2), .int .i64 (cx xs 3)], .bool (okB xs)]) ∧ Below w.heap.size w w' := by
  rw [← cvOr_eq]
  rcases h with ⟨a, cap, rfl, rfl⟩ | ⟨b, off, cap, rfl, h1, h2, h3, h4⟩
  · exact readClock_len _ _ _ w (by omega) (by omega)
  · by_cases hl : 1 ≤ xs.length ∧ xs.length ≤ 4
    · exact readClock_in b off cap _ xs w rfl hl.1 hl.2 h1 h4
    · have hno := okB_len xs (by omega)
      rw [cvOr_no hno, hno]
      exact readClock_len _ _ _ w (by unfold maxLen at h3; omega) (by omega)
end Go.Proofs.YtkcfcmigcphjlaaGreat
namespace Go.Proofs.YtkcfcmigcphjlaaGreat
open Go.RowKit
set_option linter.unusedVariables false
def mx (x y : Int) : Int := if x < y then y else x
/-- the cells of the greater clock behind k rounds -/
def mxk (n c0 c1 c2 c3 d0 d1 d2 d3 : Int) (k : Nat) : List Int :=
  [n, if 0 < k then mx c0 d0 else c0, if 1 < k then mx c1 d1 else c1, if 2 < k then mx c2 d2 else c2, if 3 < k then mx c3 d3 else c3]

theorem mxk_step (n c0 c1 c2 c3 d0 d1 d2 d3 m : Int) (k : Nat) (hk : k < 4) : ∃ x y, (vi (mxk n c0 c1 c2 c3 d0 d1 d2 d3 k))[1 + k]? = some (.int .i64 x) ∧ (vi [m, d0, d1, d2, d3])[1 + k]? = some (.int .i64 y) ∧
    (vi (mxk n c0 c1 c2 c3 d0 d1 d2 d3 k)).set (1 + k) (.int .i64 (mx x y)) = vi (mxk n c0 c1 c2 c3 d0 d1 d2 d3 (k + 1)) := by
  match k, hk with
  | 0, _ => exact ⟨c0, d0, rfl, rfl, rfl⟩
  | 1, _ => exact ⟨c1, d1, rfl, rfl, rfl⟩
  | 2, _ => exact ⟨c2, d2, rfl, rfl, rfl⟩
  | 3, _ => exact ⟨c3, d3, rfl, rfl, rfl⟩
  | k + 4, h => omega

set_option maxHeartbeats 400000 in
theorem greater_any (n c0 c1 c2 c3 d0 d1 d2 d3 m : Int) (V : Value) (hV : V = .agg ((vi (mxk n c0 c1 c2 c3 d0 d1 d2 d3 n.toNat)).toArray)) (w : World) (h0 : 0 ≤ n) (h4 : n ≤ 4) :
    Calls Tryz.prog 64 #[.agg #[.int .i64 n, .int .i64 c0, .int .i64 c1, .int .i64 c2, .int .i64 c3], .agg #[.int .i64 m, .int .i64 d0, .int .i64 d1, .int .i64 d2, .int .i64 d3]] w fun e w' =>
      e = .returned V ∧ Below w.heap.size w w' := by
  have b1 : Blk (w.alloc (.cells #[.int .i64 n, .int .i64 c0, .int .i64 c1, .int .i64 c2, .int .i64 c3] 55)) w.heap.size (vi (mxk n c0 c1 c2 c3 d0 d1 d2 d3 0)) := by simpa [vi, mxk] using Blk.new w #[.int .i64 n, .int .i64 c0, .int .i64 c1, .int .i64 c2, .int .i64 c3] 55
  have b2 : Blk ((w.alloc (.cells #[.int .i64 n, .int .i64 c0, .int .i64 c1, .int .i64 c2, .int .i64 c3] 55)).alloc (.cells #[.int .i64 m, .int .i64 d0, .int .i64 d1, .int .i64 d2, .int .i64 d3] 55)) (w.heap.size + 1) (vi [m, d0, d1, d2, d3]) := by simpa [vi] using Blk.new (w.alloc (.cells #[.int .i64 n, .int .i64 c0, .int .i64 c1, .int .i64 c2, .int .i64 c3] 55)) #[.int .i64 m, .int .i64 d0, .int .i64 d1, .int .i64 d2, .int .i64 d3] 55
  have b3 : Blk (((w.alloc (.cells #[.int .i64 n, .int .i64 c0, .int .i64 c1, .int .i64 c2, .int .i64 c3] 55)).alloc (.cells #[.int .i64 m, .int .i64 d0, .int .i64 d1, .int .i64 d2, .int .i64 d3] 55)).alloc (.cells #[.int .i64 0, .int .i64 0, .int .i64 0, .int .i64 0, .int .i64 0] 55)) (w.heap.size + 1 + 1) (vi [0, 0, 0, 0, 0]) := by simpa [vi] using Blk.new ((w.alloc (.cells #[.int .i64 n, .int .i64 c0, .int .i64 c1, .int .i64 c2, .int .i64 c3] 55)).alloc (.cells #[.int .i64 m, .int .i64 d0, .int .i64 d1, .int .i64 d2, .int .i64 d3] 55)) #[.int .i64 0, .int .i64 0, .int .i64 0, .int .i64 0, .int .i64 0] 55
  have B1 := Lib.hid ((b1.alloc (.cells #[.int .i64 m, .int .i64 d0, .int .i64 d1, .int .i64 d2, .int .i64 d3] 55)).alloc (.cells #[.int .i64 0, .int .i64 0, .int .i64 0, .int .i64 0, .int .i64 0] 55))
  have B2 := Lib.hid (b2.alloc (.cells #[.int .i64 0, .int .i64 0, .int .i64 0, .int .i64 0, .int .i64 0] 55))
  have B3 := Lib.hid b3
  have bb := Lib.hid ((((Below.refl w.heap.size w).alloc (Nat.le_refl _) (.cells #[.int .i64 n, .int .i64 c0, .int .i64 c1, .int .i64 c2, .int .i64 c3] 55)).alloc (by simp) (.cells #[.int .i64 m, .int .i64 d0, .int .i64 d1, .int .i64 d2, .int .i64 d3] 55)).alloc (by simp; omega) (.cells #[.int .i64 0, .int .i64 0, .int .i64 0, .int .i64 0, .int .i64 0] 55))
  have HV0 := Lib.hid hV
  clear b1 b2 b3 hV
  go_enter Tryz.func64, Tryz.ntmps64
  go_wp2
  go_loopw [8] (fun i wr => ∃ k : Nat, (k : Int) ≤ n ∧ i = .int .i64 k ∧ Hid (Blk wr w.heap.size (vi (mxk n c0 c1 c2 c3 d0 d1 d2 d3 k))) ∧ Hid (Blk wr (w.heap.size + 1) (vi [m, d0, d1, d2, d3])) ∧ Hid (Blk wr (w.heap.size + 1 + 1) (vi [0, 0, 0, 0, 0])) ∧ Hid (Below w.heap.size w wr)) (fun i _ => n.toNat - (intOf i).toNat)
  case atStart => exact ⟨0, h0, rfl, B1, B2, B3, bb⟩
  case round =>
    obtain ⟨k, hk, rfl, g1, g2, g3, gb⟩ := hrel
    clear B1 B2 B3 bb
    by_cases hlt : (k : Int) < n
    · obtain ⟨x, y, hx, hy, hst⟩ := mxk_step n c0 c1 c2 c3 d0 d1 d2 d3 m k (by omega)
      have q1 := (g1.out.cell (1 + k)).trans hx
      have q2 := (g2.out.cell (1 + k)).trans hy
      have q3 := g1.out.free (1 + k)
      have G1 : Blk (wr.setCell ⟨w.heap.size, 1 + k, none⟩ (.int .i64 (if x < y then y else x))) w.heap.size (vi (mxk n c0 c1 c2 c3 d0 d1 d2 d3 (k + 1))) := by
        have := g1.out.set (j := 1 + k) (by simp [vi, mxk]; omega) (.int .i64 (mx x y))
        rw [hst] at this
        exact this
      have H1 := Lib.hid G1
      clear hx hy hst G1
      have k0 : (0 : Int) ≤ k := by omega
      have k4 : (k : Int) < 4 := by omega
      go_wp2
      go_region
      all_goals go_wp2
      all_goals go_roundw
      case rel => exact ⟨k + 1, by omega, by go_num, H1.out.drew, (g2.out.other (p := ⟨w.heap.size, 1 + k, none⟩) (by simp) _).drew, (g3.out.other (p := ⟨w.heap.size, 1 + k, none⟩) (by simp; omega) _).drew, (gb.out.setCell (p := ⟨w.heap.size, 1 + k, none⟩) (Nat.le_refl _) _).drew⟩
      case measure => simp [intOf]; omega
    · have hkn : n = k := by omega
      subst hkn
      have q0 := g1.out.cell 0
      have q1 := g1.out.cell 1
      have q2 := g1.out.cell 2
      have q3 := g1.out.cell 3
      have q4 := g1.out.cell 4
      have r0 := g3.out.cell 0
      have r1 := g3.out.cell 1
      have r2 := g3.out.cell 2
      have r3 := g3.out.cell 3
      have r4 := g3.out.cell 4
      have rf := g3.out.free
      have ek : ((k : Int)).toNat = k := by simp
      have EK := Lib.hid ek
      clear ek
      simp only [vi, mxk, List.map_cons, List.map_nil, List.getElem?_cons_zero, List.getElem?_cons_succ] at q0 q1 q2 q3 q4 r0 r1 r2 r3 r4
      have hv : Hid (.agg ((vi (mxk k c0 c1 c2 c3 d0 d1 d2 d3 k)).toArray) = Value.agg #[.int .i64 k, .int .i64 (if 0 < k then mx c0 d0 else c0), .int .i64 (if 1 < k then mx c1 d1 else c1), .int .i64 (if 2 < k then mx c2 d2 else c2), .int .i64 (if 3 < k then mx c3 d3 else c3)]) := rfl
      have HV : Hid (V = Value.agg #[.int .i64 k, .int .i64 (if 0 < k then mx c0 d0 else c0), .int .i64 (if 1 < k then mx c1 d1 else c1), .int .i64 (if 2 < k then mx c2 d2 else c2), .int .i64 (if 3 < k then mx c3 d3 else c3)]) := by
        show V = _
        rw [HV0.out, EK.out]
        exact hv.out
      clear hv HV0
      generalize (if 0 < k then mx c0 d0 else c0) = x0 at *
      generalize (if 1 < k then mx c1 d1 else c1) = x1 at *
      generalize (if 2 < k then mx c2 d2 else c2) = x2 at *
      generalize (if 3 < k then mx c3 d3 else c3) = x3 at *
      go_wp2
      exact bodyPost_ret (v := .agg #[.int .i64 k, .int .i64 x0, .int .i64 x1, .int .i64 x2, .int .i64 x3]) (by simp [results, Tryz.results64, go_sem, r0, r1, r2, r3, r4]) rfl ⟨by rw [HV.out], ((((gb.out.setCell (by simp; omega) _).setCell (by simp; omega) _).setCell (by simp; omega) _).setCell (by simp; omega) _).setCell (by simp; omega) _⟩
end Go.Proofs.YtkcfcmigcphjlaaGreat
namespace Go.Proofs.YtkcfcmigcphjlaaGreat
open Go.RowKit
set_option linter.unusedVariables false
theorem part40 (a b c d : Int) (w : World) : (part 3 #[.int .i64 a, .int .i64 b, .int .i64 c, .int .i64 d] 0).run Tryz.prog w = .ok (.int .i64 a) w := by kernel_rfl
theorem part41 (a b c d : Int) (w : World) : (part 3 #[.int .i64 a, .int .i64 b, .int .i64 c, .int .i64 d] 1).run Tryz.prog w = .ok (.int .i64 b) w := by kernel_rfl
theorem part42 (a b c d : Int) (w : World) : (part 3 #[.int .i64 a, .int .i64 b, .int .i64 c, .int .i64 d] 2).run Tryz.prog w = .ok (.int .i64 c) w := by kernel_rfl
theorem part43 (a b c d : Int) (w : World) : (part 3 #[.int .i64 a, .int .i64 b, .int .i64 c, .int .i64 d] 3).run Tryz.prog w = .ok (.int .i64 d) w := by kernel_rfl
theorem run_eqarr (d : Nat) (a0 a1 a2 a3 b0 b1 b2 b3 : Int) (w : World) : (Op.equalIn (d + 2) 53 (.agg #[.int .i64 a0, .int .i64 a1, .int .i64 a2, .int .i64 a3]) (.agg #[.int .i64 b0, .int .i64 b1, .int .i64 b2, .int .i64 b3])).run Tryz.prog w = .ok (eqB [a0, a1, a2, a3] [b0, b1, b2, b3]) w := by
  have e (x y : Int) : (Op.equalIn (d + 1) 3 (.int .i64 x) (.int .i64 y)).run Tryz.prog w = .ok (x == y) w := run_equalIn_int w d 3 .i64 .i64 x y Tryz.underlying3
  rw [Op.equalIn]
  simp [run_underlying Tryz.underlying53, List.range', part40, part41, part42, part43, e, eqB]
  by_cases h0 : a0 = b0 <;> by_cases h1 : a1 = b1 <;> by_cases h2 : a2 = b2 <;> by_cases h3 : a3 = b3 <;> simp [h0, h1, h2, h3]
theorem run_counts (n a b c d : Int) (w : World) : (Instr.field 55 (.agg #[.int .i64 n, .int .i64 a, .int .i64 b, .int .i64 c, .int .i64 d]) 1).run Tryz.prog w = .ok (.agg #[.int .i64 a, .int .i64 b, .int .i64 c, .int .i64 d]) w := by kernel_rfl
set_option maxHeartbeats 400000 in
theorem leq_any (n c0 c1 c2 c3 d0 d1 d2 d3 m : Int) (w : World) (h0 : 0 ≤ n) (h4 : n ≤ 4) :
    Calls Tryz.prog 46 #[.agg #[.int .i64 n, .int .i64 c0, .int .i64 c1, .int .i64 c2, .int .i64 c3], .agg #[.int .i64 m, .int .i64 d0, .int .i64 d1, .int .i64 d2, .int .i64 d3]] w fun e w' =>
      e = .returned (.bool (eqB ((mxk n c0 c1 c2 c3 d0 d1 d2 d3 n.toNat).drop 1) [d0, d1, d2, d3])) ∧ Below w.heap.size w w' := by
  obtain ⟨x0, x1, x2, x3, hm⟩ : ∃ x0 x1 x2 x3, mxk n c0 c1 c2 c3 d0 d1 d2 d3 n.toNat = [n, x0, x1, x2, x3] := ⟨_, _, _, _, rfl⟩
  have hg : ∀ w, Calls Tryz.prog 64 #[.agg #[.int .i64 n, .int .i64 c0, .int .i64 c1, .int .i64 c2, .int .i64 c3], .agg #[.int .i64 m, .int .i64 d0, .int .i64 d1, .int .i64 d2, .int .i64 d3]] w fun e w' =>
      e = .returned (.agg #[.int .i64 n, .int .i64 x0, .int .i64 x1, .int .i64 x2, .int .i64 x3]) ∧ Below w.heap.size w w' := fun w => greater_any n c0 c1 c2 c3 d0 d1 d2 d3 m _ (by rw [hm]; rfl) w h0 h4
  rw [hm]
  have HG := Lib.hid hg
  clear hg hm
  have rc := run_counts n x0 x1 x2 x3
  have rq := run_eqarr 9998 x0 x1 x2 x3 d0 d1 d2 d3
  have hr : Hid (eqB (List.drop 1 [n, x0, x1, x2, x3]) [d0, d1, d2, d3] = eqB [x0, x1, x2, x3] [d0, d1, d2, d3]) := rfl
  have bb := Lib.hid (((Below.refl w.heap.size w).alloc (Nat.le_refl _) (.cells #[.int .i64 n, .int .i64 c0, .int .i64 c1, .int .i64 c2, .int .i64 c3] 55)).alloc (by simp) (.cells #[.int .i64 m, .int .i64 d0, .int .i64 d1, .int .i64 d2, .int .i64 d3] 55))
  go_enter Tryz.func46, Tryz.ntmps46
  go_wp2_with fail
  go_region_with (go_at_call 64; refine (HG.out _).mono ?_; rintro e w' ⟨rfl, hb⟩; obtain ⟨hc, hf⟩ := bcell hb; have HB := Lib.hid (bb.out.drew.trans (hb.mono (by simp; omega))); clear hb)
  all_goals go_wp2
  all_goals go_ret
  all_goals (refine ⟨ret_bool hr.out.symm, ?_⟩)
  all_goals exact HB.out
end Go.Proofs.YtkcfcmigcphjlaaGreat
namespace Go.Proofs.YtkcfcmigcphjlaaGreat
open Go.RowKit
set_option linter.unusedVariables false

/-- the value that readClock gives as a clock -/
abbrev zeroClk : Value := .agg #[.int .i64 0, .int .i64 0, .int .i64 0, .int .i64 0, .int .i64 0]
def ClkIs (xs : List Int) (n c0 c1 c2 c3 : Int) : Prop := n = cn xs ∧ c0 = cx xs 0 ∧ c1 = cx xs 1 ∧ c2 = cx xs 2 ∧ c3 = cx xs 3

theorem Blk.five {w : World} {B : Nat} {a b c d e : Int} (h : Blk w B (vi [a, b, c, d, e])) : w.cell? ⟨B, 0, none⟩ = some (.int .i64 a) ∧ w.cell? ⟨B, 1, none⟩ = some (.int .i64 b) ∧ w.cell? ⟨B, 2, none⟩ = some (.int .i64 c) ∧ w.cell? ⟨B, 3, none⟩ = some (.int .i64 d) ∧ w.cell? ⟨B, 4, none⟩ = some (.int .i64 e) ∧ (∀ j, w.frozen? ⟨B, j, none⟩ = false) ∧ B < w.heap.size :=
  ⟨h.cell 0, h.cell 1, h.cell 2, h.cell 3, h.cell 4, h.free, h.lt⟩
theorem Blk.clk (w : World) (a b c d e : Int) : Blk (w.alloc (.cells #[.int .i64 a, .int .i64 b, .int .i64 c, .int .i64 d, .int .i64 e] 55)) w.heap.size (vi [a, b, c, d, e]) := by
  simpa [vi] using Blk.new w #[.int .i64 a, .int .i64 b, .int .i64 c, .int .i64 d, .int .i64 e] 55

set_option maxHeartbeats 800000 in
theorem readPair_any (v v' : Value) (xs ys : List Int) (w : World) (h : Ints w v xs) (h' : Ints w v' ys) (n c0 c1 c2 c3 m d0 d1 d2 d3 : Int) (hc : ClkIs xs n c0 c1 c2 c3) (hd : ClkIs ys m d0 d1 d2 d3) (hb : bothB xs ys = true) :
    Calls Tryz.prog 45 #[v, v'] w fun e w' => e = .returned (.tuple #[.agg #[.int .i64 n, .int .i64 c0, .int .i64 c1, .int .i64 c2, .int .i64 c3], .agg #[.int .i64 m, .int .i64 d0, .int .i64 d1, .int .i64 d2, .int .i64 d3], .bool true]) ∧ Below w.heap.size w w' := by
  simp only [bothB, Bool.and_eq_true, decide_eq_true_eq] at hb
  obtain ⟨⟨o1, o2⟩, ol⟩ := hb
  have r1 := fun w1 h => readClock_any v xs w1 h
  have r2 := fun w1 h => readClock_any v' ys w1 h
  obtain ⟨rfl, rfl, rfl, rfl, rfl⟩ := hc
  obtain ⟨rfl, rfl, rfl, rfl, rfl⟩ := hd
  simp only [o1] at r1
  simp only [o2] at r2
  have R1 := Lib.hid r1
  have R2 := Lib.hid r2
  have HI := Lib.hid h
  have HI' := Lib.hid h'
  have en : cn xs = cn ys := by simp [cn, o1, o2, ol]
  clear r1 r2 h h' o1 o2 ol
  have e1 : (cn xs == cn ys) = true := by simp [en]
  have e2 : (cn xs != cn ys) = false := by simp [en]
  clear en
  generalize cn xs = n at *
  generalize cx xs 0 = c0 at *
  generalize cx xs 1 = c1 at *
  generalize cx xs 2 = c2 at *
  generalize cx xs 3 = c3 at *
  generalize cn ys = m at *
  generalize cx ys 0 = d0 at *
  generalize cx ys 1 = d1 at *
  generalize cx ys 2 = d2 at *
  generalize cx ys 3 = d3 at *
  have B0 := Lib.hid (((Below.refl w.heap.size w).alloc (Nat.le_refl _) (.cells #[.int .i64 0, .int .i64 0, .int .i64 0, .int .i64 0, .int .i64 0] 55)).alloc (by simp) (.cells #[.int .i64 0, .int .i64 0, .int .i64 0, .int .i64 0, .int .i64 0] 55))
  have Z0 : Hid (Blk ((w.alloc (.cells #[.int .i64 0, .int .i64 0, .int .i64 0, .int .i64 0, .int .i64 0] 55)).alloc (.cells #[.int .i64 0, .int .i64 0, .int .i64 0, .int .i64 0, .int .i64 0] 55)) w.heap.size (vi [0, 0, 0, 0, 0])) := (Blk.clk w 0 0 0 0 0).alloc _
  have Z1 : Hid (Blk ((w.alloc (.cells #[.int .i64 0, .int .i64 0, .int .i64 0, .int .i64 0, .int .i64 0] 55)).alloc (.cells #[.int .i64 0, .int .i64 0, .int .i64 0, .int .i64 0, .int .i64 0] 55)) (w.heap.size + 1) (vi [0, 0, 0, 0, 0])) := by
    have := Blk.clk (w.alloc (.cells #[.int .i64 0, .int .i64 0, .int .i64 0, .int .i64 0, .int .i64 0] 55)) 0 0 0 0 0
    simpa [Hid] using this
  go_enter Tryz.func45, Tryz.ntmps45
  go_wp2_with fail
  refine (R1.out _ (HI.out.below (B := 0) B0.out)).mono ?_
  rintro e w1 ⟨rfl, hb1⟩
  have Y0 := Lib.hid ((Z0.out.below hb1 (by simp; omega)).alloc (.cells #[.int .i64 n, .int .i64 c0, .int .i64 c1, .int .i64 c2, .int .i64 c3] 55))
  have Y1 := Lib.hid ((Z1.out.below hb1 (by simp)).alloc (.cells #[.int .i64 n, .int .i64 c0, .int .i64 c1, .int .i64 c2, .int .i64 c3] 55))
  have K1 := Lib.hid (Blk.clk w1 n c0 c1 c2 c3)
  have B1 := Lib.hid (B0.out.trans (hb1.mono B0.out.size))
  clear hb1
  go_wp2_with fail
  refine (R2.out _ (HI'.out.below (B := 0) (B1.out.alloc B1.out.size _))).mono ?_
  rintro e w2 ⟨rfl, hb2⟩
  obtain ⟨y00, y01, y02, y03, y04, y0f, y0l⟩ := (Y0.out.below hb2 Y0.out.lt).five
  obtain ⟨y10, y11, y12, y13, y14, y1f, y1l⟩ := (Y1.out.below hb2 Y1.out.lt).five
  obtain ⟨k10, k11, k12, k13, k14, k1f, k1l⟩ := (K1.out.below hb2 K1.out.lt).five
  have B2 := Lib.hid ((B1.out.alloc B1.out.size _).trans (hb2.mono (B1.out.alloc B1.out.size (.cells #[.int .i64 n, .int .i64 c0, .int .i64 c1, .int .i64 c2, .int .i64 c3] 55)).size))
  clear hb2 Y0 Y1 Z0 Z1 K1 R1 R2 HI HI' B0
  go_wp2
  go_region
  all_goals go_wp2
  have hB : Below w.heap.size w w2 := B2.out
  have hS := hB.size
  refine bodyPost_ret (v := .tuple #[.agg #[.int .i64 n, .int .i64 c0, .int .i64 c1, .int .i64 c2, .int .i64 c3], .agg #[.int .i64 m, .int .i64 d0, .int .i64 d1, .int .i64 d2, .int .i64 d3], .bool true])
    (by simp [results, Tryz.results45, go_sem, y00, y01, y02, y03, y04, y10, y11, y12, y13, y14, y0l, y1l]) rfl
    ⟨rfl, ?_⟩
  with_reducible refine Below.drew ?_
  with_reducible refine Below.alloc ?_ ?_ _
  · repeat (first | (with_reducible exact hB) | (with_reducible refine Below.setCell ?_ ?_ _))
    all_goals simp
  · simpa using hS
set_option maxHeartbeats 800000 in
theorem readPair_no (v v' : Value) (xs ys : List Int) (w : World) (h : Ints w v xs) (h' : Ints w v' ys) (n c0 c1 c2 c3 m d0 d1 d2 d3 : Int) (hc : ClkIs xs n c0 c1 c2 c3) (hd : ClkIs ys m d0 d1 d2 d3) (hb : bothB xs ys = false) :
    Calls Tryz.prog 45 #[v, v'] w fun e w' => e = .returned (.tuple #[.agg #[.int .i64 0, .int .i64 0, .int .i64 0, .int .i64 0, .int .i64 0], .agg #[.int .i64 0, .int .i64 0, .int .i64 0, .int .i64 0, .int .i64 0], .bool false]) ∧ Below w.heap.size w w' := by
  have r1 := fun w1 h => readClock_any v xs w1 h
  have r2 := fun w1 h => readClock_any v' ys w1 h
  obtain ⟨rfl, rfl, rfl, rfl, rfl⟩ := hc
  obtain ⟨rfl, rfl, rfl, rfl, rfl⟩ := hd
  have hcase : okB xs = false ∨ (okB xs = true ∧ okB ys = false) ∨ (okB xs = true ∧ okB ys = true ∧ ¬ cn xs = cn ys) := by
    cases o1 : okB xs
    · exact .inl rfl
    · cases o2 : okB ys
      · exact .inr (.inl ⟨rfl, rfl⟩)
      · refine .inr (.inr ⟨rfl, rfl, ?_⟩)
        simp only [bothB, o1, o2, Bool.and_self, Bool.true_and, decide_eq_false_iff_not] at hb
        simp [cn, o1, o2]
        omega
  have R1 := Lib.hid r1
  have R2 := Lib.hid r2
  have HI := Lib.hid h
  have HI' := Lib.hid h'
  clear r1 r2 h h' hb
  generalize cn xs = n at *
  generalize cx xs 0 = c0 at *
  generalize cx xs 1 = c1 at *
  generalize cx xs 2 = c2 at *
  generalize cx xs 3 = c3 at *
  generalize cn ys = m at *
  generalize cx ys 0 = d0 at *
  generalize cx ys 1 = d1 at *
  generalize cx ys 2 = d2 at *
  generalize cx ys 3 = d3 at *
  obtain ⟨o1, ho1⟩ : ∃ o, okB xs = o := ⟨_, rfl⟩
  obtain ⟨o2, ho2⟩ : ∃ o, okB ys = o := ⟨_, rfl⟩
  rw [ho1] at R1 hcase
  rw [ho2] at R2 hcase
  clear ho1 ho2
  have hq : (o1 = false) ∨ (o1 = true ∧ o2 = false) ∨ (o1 = true ∧ o2 = true ∧ (n == m) = false ∧ (n != m) = true) := by
    rcases hcase with h | h | h
    · exact .inl h
    · exact .inr (.inl h)
    · exact .inr (.inr ⟨h.1, h.2.1, by simpa using h.2.2, by simpa using h.2.2⟩)
  clear hcase
  have B0 := Lib.hid (((Below.refl w.heap.size w).alloc (Nat.le_refl _) (.cells #[.int .i64 0, .int .i64 0, .int .i64 0, .int .i64 0, .int .i64 0] 55)).alloc (by simp) (.cells #[.int .i64 0, .int .i64 0, .int .i64 0, .int .i64 0, .int .i64 0] 55))
  have Z0 : Hid (Blk ((w.alloc (.cells #[.int .i64 0, .int .i64 0, .int .i64 0, .int .i64 0, .int .i64 0] 55)).alloc (.cells #[.int .i64 0, .int .i64 0, .int .i64 0, .int .i64 0, .int .i64 0] 55)) w.heap.size (vi [0, 0, 0, 0, 0])) := (Blk.clk w 0 0 0 0 0).alloc _
  have Z1 : Hid (Blk ((w.alloc (.cells #[.int .i64 0, .int .i64 0, .int .i64 0, .int .i64 0, .int .i64 0] 55)).alloc (.cells #[.int .i64 0, .int .i64 0, .int .i64 0, .int .i64 0, .int .i64 0] 55)) (w.heap.size + 1) (vi [0, 0, 0, 0, 0])) := by
    have := Blk.clk (w.alloc (.cells #[.int .i64 0, .int .i64 0, .int .i64 0, .int .i64 0, .int .i64 0] 55)) 0 0 0 0 0
    simpa [Hid] using this
  rcases hq with rfl | ⟨rfl, rfl⟩ | ⟨rfl, rfl, e1, e2⟩
  all_goals
    go_enter Tryz.func45, Tryz.ntmps45
    go_wp2_with fail
    refine (R1.out _ (HI.out.below (B := 0) B0.out)).mono ?_
    rintro e w1 ⟨rfl, hb1⟩
    have Y0 := Lib.hid ((Z0.out.below hb1 (by simp; omega)).alloc (.cells #[.int .i64 n, .int .i64 c0, .int .i64 c1, .int .i64 c2, .int .i64 c3] 55))
    have Y1 := Lib.hid ((Z1.out.below hb1 (by simp)).alloc (.cells #[.int .i64 n, .int .i64 c0, .int .i64 c1, .int .i64 c2, .int .i64 c3] 55))
    have K1 := Lib.hid (Blk.clk w1 n c0 c1 c2 c3)
    have B1 := Lib.hid (B0.out.trans (hb1.mono B0.out.size))
    clear hb1
    go_wp2_with fail
    refine (R2.out _ (HI'.out.below (B := 0) (B1.out.alloc B1.out.size _))).mono ?_
    rintro e w2 ⟨rfl, hb2⟩
    obtain ⟨y00, y01, y02, y03, y04, y0f, y0l⟩ := (Y0.out.below hb2 Y0.out.lt).five
    obtain ⟨y10, y11, y12, y13, y14, y1f, y1l⟩ := (Y1.out.below hb2 Y1.out.lt).five
    obtain ⟨k10, k11, k12, k13, k14, k1f, k1l⟩ := (K1.out.below hb2 K1.out.lt).five
    have B2 := Lib.hid ((B1.out.alloc B1.out.size _).trans (hb2.mono (B1.out.alloc B1.out.size (.cells #[.int .i64 n, .int .i64 c0, .int .i64 c1, .int .i64 c2, .int .i64 c3] 55)).size))
    clear hb2 Y0 Y1 Z0 Z1 K1 R1 R2 HI HI' B0
    go_wp2
    have hB : Below w.heap.size w w2 := B2.out
    have hS := hB.size
    refine bodyPost_ret (v := .tuple #[.agg #[.int .i64 0, .int .i64 0, .int .i64 0, .int .i64 0, .int .i64 0], .agg #[.int .i64 0, .int .i64 0, .int .i64 0, .int .i64 0, .int .i64 0], .bool false])
      (by simp [results, Tryz.results45, go_sem, y00, y01, y02, y03, y04, y10, y11, y12, y13, y14, y0l, y1l]) rfl
      ⟨rfl, ?_⟩
    with_reducible refine Below.alloc ?_ ?_ _
    · repeat (first | (with_reducible exact hB) | (with_reducible refine Below.setCell ?_ ?_ _))
      all_goals simp
    · simpa using hS
end Go.Proofs.YtkcfcmigcphjlaaGreat
namespace Go.Proofs.YtkcfcmigcphjlaaGreat
open Go.RowKit
set_option linter.unusedVariables false

theorem getD_out (xs : List Int) (i : Nat) (h : xs.length ≤ i) : xs.getD i 0 = 0 := by
  simp [List.getD, List.getElem?_eq_none h]
theorem mx_eq (x y : Int) : mx x y = y ↔ x ≤ y := by
  unfold mx; split <;> omega
theorem leq_math (xs ys : List Int) (hb : bothB xs ys = true) :
    eqB ((mxk (cn xs) (cx xs 0) (cx xs 1) (cx xs 2) (cx xs 3) (cx ys 0) (cx ys 1) (cx ys 2) (cx ys 3) (cn xs).toNat).drop 1) [cx ys 0, cx ys 1, cx ys 2, cx ys 3] = leqB xs ys := by
  simp only [bothB, Bool.and_eq_true, decide_eq_true_eq] at hb
  obtain ⟨⟨o1, o2⟩, ol⟩ := hb
  have k1 := (okB_iff xs).1 o1
  simp only [cn, cx, o1, o2, if_true, Int.toNat_natCast]
  rw [Bool.eq_iff_iff, leqB_iff]
  simp only [eqB, mxk, decide_eq_true_eq, List.drop_succ_cons, List.drop_zero, List.cons.injEq, and_true]
  have key : ∀ i, (if i < xs.length then mx (xs.getD i 0) (ys.getD i 0) else xs.getD i 0) = ys.getD i 0 ↔ (i < xs.length → xs.getD i 0 ≤ ys.getD i 0) := by
    intro i
    by_cases hi : i < xs.length
    · rw [if_pos hi, mx_eq]; exact ⟨fun h _ => h, fun h => h hi⟩
    · rw [if_neg hi, getD_out xs i (by omega), getD_out ys i (by omega)]; exact ⟨fun _ h => absurd h hi, fun _ => rfl⟩
  rw [key 0, key 1, key 2, key 3]
  constructor
  · rintro ⟨h0, h1, h2, h3⟩ i hi
    match i with
    | 0 => exact h0 hi
    | 1 => exact h1 hi
    | 2 => exact h2 hi
    | 3 => exact h3 hi
    | i + 4 => omega
  · intro h
    exact ⟨h 0, h 1, h 2, h 3⟩
theorem cn_range (xs : List Int) : 0 ≤ cn xs ∧ cn xs ≤ 4 := by
  unfold cn
  split
  · rename_i h
    have := (okB_iff xs).1 h
    omega
  · omega

set_option maxHeartbeats 800000 in
theorem ClockLeq_any (v v' : Value) (xs ys : List Int) (w : World) (h : Ints w v xs) (h' : Ints w v' ys) :
    Calls Tryz.prog 14 #[v, v'] w fun e w' => e = .returned (.bool (spLeq xs ys)) ∧ Below w.heap.size w w' := by
  cases hb : bothB xs ys with
  | false =>
    have HP := Lib.hid (readPair_no v v' xs ys w h h' _ _ _ _ _ _ _ _ _ _ ⟨rfl, rfl, rfl, rfl, rfl⟩ ⟨rfl, rfl, rfl, rfl, rfl⟩ hb)
    have HR := Lib.hid (show spLeq xs ys = false by simp [spLeq, hb])
    clear h h' hb
    go_enter Tryz.func14, Tryz.ntmps14
    go_wp2_with fail
    refine HP.out.mono ?_
    rintro e w1 ⟨rfl, hb1⟩
    have B1 := Lib.hid hb1
    clear hb1
    go_wp2
    go_ret
    refine ⟨ret_bool HR.out.symm, ?_⟩
    exact (B1.out.alloc B1.out.size _).alloc (by have := B1.out.size; simp; omega) _
  | true =>
    have HP := Lib.hid (readPair_any v v' xs ys w h h' _ _ _ _ _ _ _ _ _ _ ⟨rfl, rfl, rfl, rfl, rfl⟩ ⟨rfl, rfl, rfl, rfl, rfl⟩ hb)
    have HR := Lib.hid (show spLeq xs ys = leqB xs ys by simp [spLeq, hb])
    have hl := fun w => leq_any (cn xs) (cx xs 0) (cx xs 1) (cx xs 2) (cx xs 3) (cx ys 0) (cx ys 1) (cx ys 2) (cx ys 3) (cn ys) w (cn_range xs).1 (cn_range xs).2
    simp only [leq_math xs ys hb] at hl
    have HL := Lib.hid hl
    clear h h' hb hl
    generalize leqB xs ys = r at *
    generalize cn xs = n at *
    generalize cx xs 0 = c0 at *
    generalize cx xs 1 = c1 at *
    generalize cx xs 2 = c2 at *
    generalize cx xs 3 = c3 at *
    generalize cn ys = m at *
    generalize cx ys 0 = d0 at *
    generalize cx ys 1 = d1 at *
    generalize cx ys 2 = d2 at *
    generalize cx ys 3 = d3 at *
    go_enter Tryz.func14, Tryz.ntmps14
    go_wp2_with fail
    refine HP.out.mono ?_
    rintro e w1 ⟨rfl, hb1⟩
    have B1 := Lib.hid ((hb1.alloc hb1.size (.cells #[.int .i64 n, .int .i64 c0, .int .i64 c1, .int .i64 c2, .int .i64 c3] 55)).alloc (by have := hb1.size; simp; omega) (.cells #[.int .i64 m, .int .i64 d0, .int .i64 d1, .int .i64 d2, .int .i64 d3] 55))
    clear hb1
    go_wp2_with fail
    refine (HL.out _).mono ?_
    rintro e w2 ⟨rfl, hb2⟩
    have B2 := Lib.hid (B1.out.trans (hb2.mono B1.out.size))
    clear hb2
    go_wp2
    go_ret
    exact ⟨ret_bool HR.out.symm, B2.out⟩

end Go.Proofs.YtkcfcmigcphjlaaGreat





namespace Go.Proofs.YtkcfcmigcphjlaaGreat
open Go.RowKit
set_option linter.unusedVariables false

/-- the elements of a row that grew keep their lists -/
theorem owns_list {w w' : World} {lo K size n : Nat} {v : Value} {xs : List Value} {ts : List ActT} (h : ∀ t ∈ ts, t.Owns w lo) (ho : w.ownsRow K 33 size v n xs) (hg : w.grownBy w' v.ownBlock) : ∀ t ∈ ts, t.Owns w' lo :=
  fun t ht => (h t ht).else_ hg (own_else ho)
theorem owns_below {w w' : World} {lo : Nat} {ts : List ActT} (h : ∀ t ∈ ts, t.Owns w lo) (hb : Below w.heap.size w w') : ∀ t ∈ ts, t.Owns w' lo := fun t ht => (h t ht).below hb
/-- an act put in -/
def Put (w : World) (lo : Nat) (l : List ActM) (e : Ending) (w' : World) : Prop := ∃ v, e = .returned v ∧ OwnActs w' lo v l ∧ Below w.heap.size w w'
theorem slice_of {w : World} {t : ActT} (h : t.Reads w) : ∃ x m c y n d, t.vd = .slice x m c ∧ t.vs = .slice y n d := by
  obtain ⟨x, c, h1⟩ := ints_len h.1
  obtain ⟨y, d, h2⟩ := ups_len h.2
  exact ⟨x, _, c, y, _, d, h1, h2⟩

theorem put_own {W : World} {lo j : Nat} {v : Value} {ts : List ActT} {t' : ActT} {a : ActM} (hr : W.ownsRow lo 33 11 v (ts.length + 1) (va (ts.take j ++ t' :: ts.drop j))) (he : ∀ x ∈ ts, x.Owns W lo) (ht : t'.Owns W lo)
    (ha : t'.a = a) (hj : putJ (ts.map ActT.a) a ts.length = j) (hl : j ≤ ts.length) : OwnActs W lo v (putM (ts.map ActT.a) a) := by
  refine ⟨ts.take j ++ t' :: ts.drop j, ?_, ?_, fun x hx => ?_⟩
  · unfold putM
    rw [List.length_map, hj, ← ha]
    simp [List.map_append, List.map_take, List.map_drop]
  · rw [cur_length ts t' j hl]
    exact hr
  · simp only [List.mem_append, List.mem_cons] at hx
    rcases hx with hx | rfl | hx
    · exact he x (List.mem_of_mem_take hx)
    · exact ht
    · exact he x (List.mem_of_mem_drop hx)

set_option maxRecDepth 100000 in
set_option maxHeartbeats 6400000 in
theorem l3put_any (lo : Nat) (v : Value) (ts : List ActT) (t : ActT) (w : World) (h : OwnT w lo v ts) (hlo : lo ≤ w.heap.size) (ht : t.Reads w) (hs : t.a.Small) (hl : ts.length ≤ 1048576) :
    Calls Tryz.prog 53 #[v, t.val] w (Put w lo (putM (ts.map ActT.a) t.a)) := by
  obtain ⟨i2, hi, hz0, hz1, hz2⟩ := info_parts Tryz.infoAct
  have HT := Lib.hid ht
  have HS := Lib.hid hs
  have HO := Lib.hid h
  clear h ht hs
  have HTu := HT
  obtain ⟨sa, sm, hsv⟩ := actsT_len (ownT_acts HO.out)
  subst hsv
  have B0 := Lib.hid ((Below.refl w.heap.size w).alloc (Nat.le_refl _) (.cells #[.int .i64 t.a.r, .int .i64 t.a.n, t.vd, .int .i64 t.a.actor, .int .i64 t.a.kind, .int .i64 t.a.to, .int .i64 t.a.bucket, .int .i64 t.a.mask, .int .i64 t.a.gr, .int .i64 t.a.gn, t.vs] 33))
  have K0 := Lib.hid (Blk.new w #[.int .i64 t.a.r, .int .i64 t.a.n, t.vd, .int .i64 t.a.actor, .int .i64 t.a.kind, .int .i64 t.a.to, .int .i64 t.a.bucket, .int .i64 t.a.mask, .int .i64 t.a.gr, .int .i64 t.a.gn, t.vs] 33)
  go_enter Tryz.func53, Tryz.ntmps53
  simp only [ActT.val]
  go_upto_region 1 with (fail)
  obtain ⟨W1, hW1⟩ : ∃ W1, W1 = w.alloc (.cells #[.int .i64 t.a.r, .int .i64 t.a.n, t.vd, .int .i64 t.a.actor, .int .i64 t.a.kind, .int .i64 t.a.to, .int .i64 t.a.bucket, .int .i64 t.a.mask, .int .i64 t.a.gr, .int .i64 t.a.gn, t.vs] 33) := ⟨_, rfl⟩
  rw [← hW1] at B0 K0 ⊢
  have hsz : W1.heap.size = w.heap.size + 1 := by rw [hW1]; simp
  have HSZ := Lib.hid hsz
  clear hW1 hsz
  have O0 := Lib.hid (World.ownsRow_lit (size := 11) (e := 33) (base := W1.heap.size) W1 #[] 0 (Nat.le_refl _) (by unfold maxLen; omega) rfl)
  have B1 := Lib.hid (B0.out.alloc B0.out.size (.cells #[] 33))
  have K1 := Lib.hid (K0.out.alloc (.cells #[] 33))
  have E1 := Lib.hid (HO.out.below B1.out)
  have HM1 : Hid (0 + ts.length ≤ maxLen) := by show _ ≤ _; unfold maxLen; omega
  have HM2 : Hid ((0 + ts.length) * 120 ≤ 140737488355328) := by show _ ≤ _; omega
  have CO := Lib.hid (va_one (ts := ts) (fun x hx => ⟨ints_one (E1.out.2 x hx).reads.1, ups_one (E1.out.2 x hx).reads.2⟩))
  go_wp2_with (at_builtin; refine wpList_app rfl (.tmp 8) (.tmp 9) 23 rfl W1.heap.size 33 i2 _ 11 120 Tryz.underlying23 hi hz0 hz1 hz2 rfl (by decide) _ (.slice sa ts.length sm) 0 ts.length [] (va ts) rfl rfl O0.out (src_acts (ownT_acts E1.out)) CO.out HM1.out HM2.out (by simp) ?_)
  intro v1 w1 hown1 hgrow1 _
  try simp only [Nat.zero_add, List.nil_append] at hown1
  obtain ⟨a1, c1, rfl⟩ := row_shape hown1
  have G1 : (W1.alloc (.cells #[] 33)).grownBy w1 (some W1.heap.size) := hgrow1
  have K2 := Lib.hid (K1.out.grown G1 (by rw [HSZ.out]; omega))
  have B2 := Lib.hid (B1.out.grown G1 B1.out.size (fun k hk => by cases hk; exact B0.out.size))
  have E2 := Lib.hid (owns_list E1.out.2 O0.out hgrow1)
  have R1 := Lib.hid hown1
  have L1 : W1.heap.size + 1 ≤ w1.heap.size := by have := G1.size; simpa using this
  clear hgrow1 G1 hown1 HM1 HM2 CO
  have HT2 := Lib.hid (HT.out.below B2.out)
  have CL := Lib.hid (l2own_any t w1 HT2.out HS.out)
  have c0 := K2.out.cell
  go_wp2_with fail
  refine CL.out.mono ?_
  rintro e w2 ⟨t', hta, rfl, hown, b2⟩
  simp only [ActT.val]
  have B3 := Lib.hid (B2.out.trans (b2.mono B2.out.size))
  have R2 := Lib.hid (row_keep R1.out (fun g _ hl _ => b2.block g hl))
  have E3 := Lib.hid (owns_below E2.out b2)
  have T3 := Lib.hid (hown.less (show lo ≤ w1.heap.size from Nat.le_trans hlo B2.out.size))
  have TA := Lib.hid hta
  have L2 : W1.heap.size + 1 ≤ w2.heap.size := Nat.le_trans L1 b2.size
  clear b2 hown hta c0
  have R3 := Lib.hid (row_keep (w' := w2.alloc (.cells #[.int .i64 t'.a.r, .int .i64 t'.a.n, t'.vd, .int .i64 t'.a.actor, .int .i64 t'.a.kind, .int .i64 t'.a.to, .int .i64 t'.a.bucket, .int .i64 t'.a.mask, .int .i64 t'.a.gr, .int .i64 t'.a.gn, t'.vs] 33)) R2.out (fun g _ hl _ => Below.heap_alloc _ _ _ hl))
  have E4 := Lib.hid (owns_below E3.out ((Below.refl _ _).alloc (Nat.le_refl _) (.cells #[.int .i64 t'.a.r, .int .i64 t'.a.n, t'.vd, .int .i64 t'.a.actor, .int .i64 t'.a.kind, .int .i64 t'.a.to, .int .i64 t'.a.bucket, .int .i64 t'.a.mask, .int .i64 t'.a.gr, .int .i64 t'.a.gn, t'.vs] 33)))
  have T4 := Lib.hid (T3.out.alloc (.cells #[.int .i64 t'.a.r, .int .i64 t'.a.n, t'.vd, .int .i64 t'.a.actor, .int .i64 t'.a.kind, .int .i64 t'.a.to, .int .i64 t'.a.bucket, .int .i64 t'.a.mask, .int .i64 t'.a.gr, .int .i64 t'.a.gn, t'.vs] 33))
  have B4 := Lib.hid (B3.out.alloc B3.out.size (.cells #[.int .i64 t'.a.r, .int .i64 t'.a.n, t'.vd, .int .i64 t'.a.actor, .int .i64 t'.a.kind, .int .i64 t'.a.to, .int .i64 t'.a.bucket, .int .i64 t'.a.mask, .int .i64 t'.a.gr, .int .i64 t'.a.gn, t'.vs] 33))
  have SR := Lib.hid (src_new (w := w2) t' 33)
  have CO := Lib.hid (cells_one T3.out.reads)
  have HM1 : Hid (ts.length + 1 ≤ maxLen) := by show _ ≤ _; unfold maxLen; omega
  have HM2 : Hid ((ts.length + 1) * 120 ≤ 140737488355328) := by show _ ≤ _; omega
  go_wp2_with (at_builtin; refine wpList_app rfl (.tmp 11) (.tmp 14) 23 rfl W1.heap.size 33 i2 _ 11 120 Tryz.underlying23 hi hz0 hz1 hz2 rfl (by decide) (.slice a1 ts.length c1) (.slice (some ⟨w2.heap.size, 0, none⟩) 1 1) ts.length 1 (va ts) t'.cells rfl rfl R3.out SR.out CO.out HM1.out HM2.out (by simp; omega) ?_)
  intro v3 w3 hown3 hgrow3 _
  have R5 := Lib.hid hown3
  have E5 := Lib.hid (owns_list E4.out R3.out hgrow3)
  have T5 := Lib.hid (T4.out.else_ hgrow3 (own_else R3.out))
  have B5 := Lib.hid (owned_block B4.out R3.out hgrow3 B4.out.size (by have := HSZ.out; omega))
  clear hown3 hgrow3 HM1 HM2 CO SR R3 E4 T4 B4 R2 E3 T3 B3 E2 R1 K2 K1 E1 O0 HT2 CL B2 B1 K0 B0 HT HTu
  have hform : ∃ g cap, v3 = .slice (some ⟨g, 0, none⟩) (ts.length + 1) cap ∧ w.heap.size ≤ g := by
    rcases R5.out.2 with ⟨_, h0⟩ | ⟨g, cap, cur, hv, hg, _⟩
    · omega
    · exact ⟨g, cap, hv, by have := HSZ.out; omega⟩
  obtain ⟨g, cap, rfl, hg⟩ := hform
  have R6 : Hid (w3.ownsRow g 33 11 (.slice (some ⟨g, 0, none⟩) (ts.length + 1) cap) (ts.length + 1) (va (ts.take ts.length ++ t' :: ts.drop ts.length))) := by
    show World.ownsRow _ _ _ _ _ _ _
    have := (own_at R5.out).1
    simpa [va] using this
  clear R5
  obtain ⟨M, hM⟩ : ∃ M, M = ts.length + 1 := ⟨_, rfl⟩
  rw [← hM] at R6 ⊢
  have HM := Lib.hid hM
  have M1 : M ≤ 1048577 := by omega
  have M0 : 1 ≤ M := by omega
  clear hM
  obtain ⟨x1, m1, y1, x2, m2, y2, hvd, hvs⟩ := slice_of T5.out.reads
  obtain ⟨⟨r, n, dep, actor, kind, dst, bucket, mask, gr, gn, ups⟩, vd, vs⟩ := t'
  simp only at hvd hvs
  subst hvd hvs
  obtain ⟨J, hJ⟩ : ∃ J, J = putJ (ts.map ActT.a) t.a ts.length := ⟨_, rfl⟩
  have HJ := Lib.hid hJ
  clear hJ
  have e0 : (M : Int) - 1 = ts.length := by have := HM.out; omega
  go_wp2
  go_loopw [6] (fun i wr => ∃ j : Nat, j ≤ ts.length ∧ i = .int .i64 j ∧ Hid (wr.ownsRow g 33 11 (.slice (some ⟨g, 0, none⟩) M cap) M (va (ts.take j ++ (⟨⟨r, n, dep, actor, kind, dst, bucket, mask, gr, gn, ups⟩, .slice x1 m1 y1, .slice x2 m2 y2⟩ : ActT) :: ts.drop j))) ∧ Hid (∀ x ∈ ts, x.Owns wr lo) ∧ Hid (((⟨⟨r, n, dep, actor, kind, dst, bucket, mask, gr, gn, ups⟩, .slice x1 m1 y1, .slice x2 m2 y2⟩ : ActT)).Owns wr lo) ∧ Hid (Below w.heap.size w wr) ∧ Hid (J = putJ (ts.map ActT.a) t.a j)) (fun i _ => (intOf i).toNat)
  case atStart => exact ⟨ts.length, Nat.le_refl _, rfl, R6, E5, T5, B5, HJ⟩
  case round =>
    obtain ⟨j, hj, rfl, hr, he, ht, hbel, hjj⟩ := hrel
    clear R6 E5 T5 B5 e0
    by_cases h0 : j = 0
    · subst h0
      have e1 : decide ((0 : Int) < ((0 : Nat) : Int)) = false := by decide
      have HF := Lib.hid (show J = 0 by rw [hjj.out]; rfl)
      go_wp2
      go_quiet (fail)
      go_wp2
      go_ret
      exact ⟨_, rfl, put_own (row_less (lo := lo) (by rw [← HM.out]; exact hr.out) (by omega)) he.out ht.out TA.out (by rw [← HJ.out, HF.out]) (Nat.zero_le _), below_drewN hbel.out _⟩
    · obtain ⟨p, hjp⟩ : ∃ p, j = p + 1 := ⟨j - 1, by omega⟩
      have HJP := Lib.hid hjp
      have hp : p < ts.length := by omega
      have hpj : j - 1 = p := by omega
      have j0 : 0 < j := by omega
      have jM : j < M := by have := HM.out; omega
      have pM : p < M := by omega
      have at1 := row_actAt hr.out j ((cur_length ts _ _ hj).trans HM.out.symm) jM
      have at0 := row_actAt hr.out p ((cur_length ts _ _ hj).trans HM.out.symm) pM
      have hca := cur_at ts (⟨⟨r, n, dep, actor, kind, dst, bucket, mask, gr, gn, ups⟩, .slice x1 m1 y1, .slice x2 m2 y2⟩ : ActT) p hp
      have hsw := cur_swap ts (⟨⟨r, n, dep, actor, kind, dst, bucket, mask, gr, gn, ups⟩, .slice x1 m1 y1, .slice x2 m2 y2⟩ : ActT) p hp
      rw [← hjp] at hca hsw
      rw [hca.1] at at1
      rw [hca.2] at at0
      have hq := he.out _ (getD_mem hp)
      have hgm := getD_map hp
      have hst := hjj.out
      rw [hjp, putJ, hgm] at hst
      clear hgm hjj hca hjp h0
      obtain ⟨q, hqq⟩ : ∃ q, q = ts.getD p t0 := ⟨_, rfl⟩
      rw [← hqq] at at0 hq hsw hst
      have HQ := Lib.hid hqq
      clear hqq
      obtain ⟨x3, m3, y3, x4, m4, y4, hvd, hvs⟩ := slice_of hq.reads
      obtain ⟨⟨r', n', dep', actor', kind', dst', bucket', mask', gr', gn', ups'⟩, vd', vs'⟩ := q
      simp only at hvd hvs hst
      subst hvd hvs
      have HSW := Lib.hid hsw
      have HTO := ht
      have HQO := Lib.hid hq
      clear hsw hq
      have AH := Lib.hid (fun w (h1 : ((⟨⟨r, n, dep, actor, kind, dst, bucket, mask, gr, gn, ups⟩, .slice x1 m1 y1, .slice x2 m2 y2⟩ : ActT)).Reads w) (h2 : ((⟨⟨r', n', dep', actor', kind', dst', bucket', mask', gr', gn', ups'⟩, .slice x3 m3 y3, .slice x4 m4 y4⟩ : ActT)).Reads w) => specAhead_any _ _ _ _ w h1.is h2.is)
      simp only [ActT.val] at AH
      rw [← TA.out] at hst
      have HPJ := Lib.hid hpj
      have e1 : decide ((0 : Int) < (j : Int)) = true := by simp; omega
      have e2 : IntKind.i64.wrap ((j : Int) - 1) = p := by rw [IntWalk.i64_in _ (by omega)]; omega
      have i0 : (0 : Int) ≤ (j : Int) := by omega
      have i1 : (j : Int) < (M : Int) := by omega
      have i2' : (0 : Int) ≤ (p : Int) := by omega
      have i3 : (p : Int) < (M : Int) := by omega
      clear hpj
      have c0 := at1.c0
      have c1 := at1.c1
      have c2 := at1.c2
      have c3 := at1.c3
      have c4 := at1.c4
      have c5 := at1.c5
      have c6 := at1.c6
      have c7 := at1.c7
      have c8 := at1.c8
      have c9 := at1.c9
      have c10 := at1.c10
      have d0 := at0.c0
      have d1 := at0.c1
      have d2 := at0.c2
      have d3 := at0.c3
      have d4 := at0.c4
      have d5 := at0.c5
      have d6 := at0.c6
      have d7 := at0.c7
      have d8 := at0.c8
      have d9 := at0.c9
      have d10 := at0.c10
      clear at0 at1
      go_wp2_with fail
      refine wp_region_still_tail 12 (by kernel_rfl) (by kernel_rfl) ?_
      simp only [List.take_succ_cons, List.take_zero, List.drop_succ_cons, List.drop_zero]
      change wpStill _ _ wr.drew _ _ _
      repeat still_step
      refine wpStill_nil ?_
      change wpList _ _ _ _ _ wr.drew
      obtain ⟨w4, hw4⟩ : ∃ w4, w4 = wr.drew := ⟨_, rfl⟩
      have hb4 : Hid (Below w.heap.size w w4) := by rw [hw4]; exact hbel.out.drew
      have hr4 : Hid (w4.ownsRow g 33 11 (.slice (some ⟨g, 0, none⟩) M cap) M (va (ts.take j ++ (⟨⟨r, n, dep, actor, kind, dst, bucket, mask, gr, gn, ups⟩, .slice x1 m1 y1, .slice x2 m2 y2⟩ : ActT) :: ts.drop j))) := by rw [hw4]; exact hr.out
      have he4 : Hid (∀ x ∈ ts, x.Owns w4 lo) := by rw [hw4]; exact he.out
      have ht4 : Hid (((⟨⟨r, n, dep, actor, kind, dst, bucket, mask, gr, gn, ups⟩, .slice x1 m1 y1, .slice x2 m2 y2⟩ : ActT)).Owns w4 lo) := by rw [hw4]; exact ht.out
      have hq4 : Hid (((⟨⟨r', n', dep', actor', kind', dst', bucket', mask', gr', gn', ups'⟩, .slice x3 m3 y3, .slice x4 m4 y4⟩ : ActT)).Owns w4 lo) := by rw [hw4]; exact HQO.out
      rw [← hw4]
      clear hw4 c0 c1 c2 c3 c4 c5 c6 c7 c8 c9 c10 d0 d1 d2 d3 d4 d5 d6 d7 d8 d9 d10 hr he ht hbel HQO HTO
      cases hah : aheadM ⟨r, n, dep, actor, kind, dst, bucket, mask, gr, gn, ups⟩ ⟨r', n', dep', actor', kind', dst', bucket', mask', gr', gn', ups'⟩
      · rw [hah, if_neg (by simp)] at hst
        have HST := Lib.hid hst
        have HAH := Lib.hid hah
        clear hst hah
        go_wp2_with fail
        refine (AH.out _ ht4.out.reads hq4.out.reads).mono ?_
        rintro e w5 ⟨rfl, b5⟩
        rw [HAH.out]
        have B5 := Lib.hid (hb4.out.trans (b5.mono hb4.out.size))
        have R5 := Lib.hid (row_keep hr4.out (fun g _ hl _ => b5.block g hl))
        have E5 := Lib.hid (owns_below he4.out b5)
        have T5 := Lib.hid (ht4.out.below b5)
        have Q5 := Lib.hid (hq4.out.below b5)
        clear b5 hr4 he4 ht4 hq4 hb4
        go_wp2
        go_ret
        exact ⟨_, rfl, put_own (row_less (lo := lo) (by rw [← HM.out]; exact R5.out) (by omega)) E5.out T5.out TA.out (by rw [← HJ.out, HST.out, HJP.out]) hj, B5.out⟩
      · rw [hah, if_pos rfl] at hst
        have HST := Lib.hid hst
        have HAH := Lib.hid hah
        clear hst hah
        go_wp2_with fail
        refine (AH.out _ ht4.out.reads hq4.out.reads).mono ?_
        rintro e w5 ⟨rfl, b5⟩
        rw [HAH.out]
        have B5 := Lib.hid (hb4.out.trans (b5.mono hb4.out.size))
        have R5 := Lib.hid (row_keep hr4.out (fun g _ hl _ => b5.block g hl))
        have E5 := Lib.hid (owns_below he4.out b5)
        have T5 := Lib.hid (ht4.out.below b5)
        have Q5 := Lib.hid (hq4.out.below b5)
        clear b5 hr4 he4 ht4 hq4 hb4
        have at1 := row_actAt R5.out j ((cur_length ts _ _ hj).trans HM.out.symm) jM
        have hca := cur_at ts (⟨⟨r, n, dep, actor, kind, dst, bucket, mask, gr, gn, ups⟩, .slice x1 m1 y1, .slice x2 m2 y2⟩ : ActT) p hp
        rw [← HJP.out] at hca
        rw [hca.1] at at1
        have c0 := at1.c0
        have c1 := at1.c1
        have c2 := at1.c2
        have c3 := at1.c3
        have c4 := at1.c4
        have c5 := at1.c5
        have c6 := at1.c6
        have c7 := at1.c7
        have c8 := at1.c8
        have c9 := at1.c9
        have c10 := at1.c10
        clear at1
        go_upto_region 7 with (fail)
        have R6 := Lib.hid (row_keep (w' := w5.alloc (.cells #[.int .i64 r, .int .i64 n, .slice x1 m1 y1, .int .i64 actor, .int .i64 kind, .int .i64 dst, .int .i64 bucket, .int .i64 mask, .int .i64 gr, .int .i64 gn, .slice x2 m2 y2] 33)) R5.out (fun g _ hl _ => Below.heap_alloc _ _ _ hl))
        have E6 := Lib.hid (owns_below E5.out ((Below.refl _ _).alloc (Nat.le_refl _) (.cells #[.int .i64 r, .int .i64 n, .slice x1 m1 y1, .int .i64 actor, .int .i64 kind, .int .i64 dst, .int .i64 bucket, .int .i64 mask, .int .i64 gr, .int .i64 gn, .slice x2 m2 y2] 33)))
        have T6 := Lib.hid (T5.out.alloc (.cells #[.int .i64 r, .int .i64 n, .slice x1 m1 y1, .int .i64 actor, .int .i64 kind, .int .i64 dst, .int .i64 bucket, .int .i64 mask, .int .i64 gr, .int .i64 gn, .slice x2 m2 y2] 33))
        have Q6 := Lib.hid (Q5.out.alloc (.cells #[.int .i64 r, .int .i64 n, .slice x1 m1 y1, .int .i64 actor, .int .i64 kind, .int .i64 dst, .int .i64 bucket, .int .i64 mask, .int .i64 gr, .int .i64 gn, .slice x2 m2 y2] 33))
        have B6 := Lib.hid (B5.out.alloc B5.out.size (.cells #[.int .i64 r, .int .i64 n, .slice x1 m1 y1, .int .i64 actor, .int .i64 kind, .int .i64 dst, .int .i64 bucket, .int .i64 mask, .int .i64 gr, .int .i64 gn, .slice x2 m2 y2] 33))
        have X6 := Lib.hid (Blk.new w5 #[.int .i64 r, .int .i64 n, .slice x1 m1 y1, .int .i64 actor, .int .i64 kind, .int .i64 dst, .int .i64 bucket, .int .i64 mask, .int .i64 gr, .int .i64 gn, .slice x2 m2 y2] 33)
        have gw5 : g < w5.heap.size := by
          rcases (own_at R5.out) with ⟨_, _, h⟩
          exact h
        obtain ⟨W6, hW6⟩ : ∃ W6, W6 = w5.alloc (.cells #[.int .i64 r, .int .i64 n, .slice x1 m1 y1, .int .i64 actor, .int .i64 kind, .int .i64 dst, .int .i64 bucket, .int .i64 mask, .int .i64 gr, .int .i64 gn, .slice x2 m2 y2] 33) := ⟨_, rfl⟩
        rw [← hW6] at R6 E6 T6 Q6 B6 X6 ⊢
        clear hW6 R5 E5 T5 Q5 B5 c0 c1 c2 c3 c4 c5 c6 c7 c8 c9 c10
        have at1 := row_actAt R6.out j ((cur_length ts _ _ hj).trans HM.out.symm) jM
        have at0 := row_actAt R6.out p ((cur_length ts _ _ hj).trans HM.out.symm) pM
        rw [hca.1] at at1
        rw [hca.2, ← HQ.out] at at0
        have c0 := at1.c0
        have c1 := at1.c1
        have c2 := at1.c2
        have c3 := at1.c3
        have c4 := at1.c4
        have c5 := at1.c5
        have c6 := at1.c6
        have c7 := at1.c7
        have c8 := at1.c8
        have c9 := at1.c9
        have c10 := at1.c10
        have d0 := at0.c0
        have d1 := at0.c1
        have d2 := at0.c2
        have d3 := at0.c3
        have d4 := at0.c4
        have d5 := at0.c5
        have d6 := at0.c6
        have d7 := at0.c7
        have d8 := at0.c8
        have d9 := at0.c9
        have d10 := at0.c10
        clear at1 at0
        have ff := R6.out.frozenAt
        have R7 := Lib.hid (row_set11 R6.out j ((cur_length ts _ _ hj).trans HM.out.symm) jM (⟨⟨r', n', dep', actor', kind', dst', bucket', mask', gr', gn', ups'⟩, .slice x3 m3 y3, .slice x4 m4 y4⟩ : ActT))
        have G7 := Lib.hid (grown_set11 W6 g (j * 11) (j * 11 + 1) (j * 11 + 2) (j * 11 + 3) (j * 11 + 4) (j * 11 + 5) (j * 11 + 6) (j * 11 + 7) (j * 11 + 8) (j * 11 + 9) (j * 11 + 10) (.int .i64 r') (.int .i64 n') (.slice x3 m3 y3) (.int .i64 actor') (.int .i64 kind') (.int .i64 dst') (.int .i64 bucket') (.int .i64 mask') (.int .i64 gr') (.int .i64 gn') (.slice x4 m4 y4))
        go_upto_region 8 with (fail)
        have ty := row_type R6.out
        have EW : Elsewhere W6 lo (some g) := fun g' e => by cases e; exact .inr ty
        have E7 := Lib.hid (fun x hx => (E6.out x hx).else_ G7.out EW)
        have T7 := Lib.hid (T6.out.else_ G7.out EW)
        have B7 := Lib.hid (B6.out.grown G7.out B6.out.size (fun k hk => by cases hk; exact hg))
        have X7 := Lib.hid (X6.out.grown G7.out (by omega))
        obtain ⟨W7, hW7⟩ : ∃ W7, W7 = (((((((((((W6.setCell ⟨g, j * 11, none⟩ (.int .i64 r')).setCell ⟨g, j * 11 + 1, none⟩ (.int .i64 n')).setCell ⟨g, j * 11 + 2, none⟩ (.slice x3 m3 y3)).setCell ⟨g, j * 11 + 3, none⟩ (.int .i64 actor')).setCell ⟨g, j * 11 + 4, none⟩ (.int .i64 kind')).setCell ⟨g, j * 11 + 5, none⟩ (.int .i64 dst')).setCell ⟨g, j * 11 + 6, none⟩ (.int .i64 bucket')).setCell ⟨g, j * 11 + 7, none⟩ (.int .i64 mask')).setCell ⟨g, j * 11 + 8, none⟩ (.int .i64 gr')).setCell ⟨g, j * 11 + 9, none⟩ (.int .i64 gn')).setCell ⟨g, j * 11 + 10, none⟩ (.slice x4 m4 y4)) := ⟨_, rfl⟩
        rw [← hW7] at R7 E7 T7 B7 X7 ⊢
        clear hW7 c0 c1 c2 c3 c4 c5 c6 c7 c8 c9 c10 d0 d1 d2 d3 d4 d5 d6 d7 d8 d9 d10 ff G7 EW ty R6 E6 T6 Q6 B6 X6
        have hl7 : ((ts.take j ++ (⟨⟨r, n, dep, actor, kind, dst, bucket, mask, gr, gn, ups⟩, .slice x1 m1 y1, .slice x2 m2 y2⟩ : ActT) :: ts.drop j).set j (⟨⟨r', n', dep', actor', kind', dst', bucket', mask', gr', gn', ups'⟩, .slice x3 m3 y3, .slice x4 m4 y4⟩ : ActT)).length = M := by rw [List.length_set]; exact (cur_length ts _ _ hj).trans HM.out.symm
        have at0 := row_actAt R7.out p hl7 pM
        generalize ((ts.take j ++ (⟨⟨r, n, dep, actor, kind, dst, bucket, mask, gr, gn, ups⟩, .slice x1 m1 y1, .slice x2 m2 y2⟩ : ActT) :: ts.drop j).set j (⟨⟨r', n', dep', actor', kind', dst', bucket', mask', gr', gn', ups'⟩, .slice x3 m3 y3, .slice x4 m4 y4⟩ : ActT)).getD p t0 = z at at0
        obtain ⟨⟨z0, z1, z2, z3, z4, z5, z6, z7, z8, z9, z10⟩, z11, z12⟩ := z
        have d0 := at0.c0
        have d1 := at0.c1
        have d2 := at0.c2
        have d3 := at0.c3
        have d4 := at0.c4
        have d5 := at0.c5
        have d6 := at0.c6
        have d7 := at0.c7
        have d8 := at0.c8
        have d9 := at0.c9
        have d10 := at0.c10
        clear at0
        simp only at d0 d1 d2 d3 d4 d5 d6 d7 d8 d9 d10
        have ff := R7.out.frozenAt
        have cx := X7.out.cell
        have R8 := Lib.hid (row_set11 R7.out p hl7 pM (⟨⟨r, n, dep, actor, kind, dst, bucket, mask, gr, gn, ups⟩, .slice x1 m1 y1, .slice x2 m2 y2⟩ : ActT))
        have hsw2 := HSW.out
        rw [hsw2] at R8
        have G8 := Lib.hid (grown_set11 W7 g (p * 11) (p * 11 + 1) (p * 11 + 2) (p * 11 + 3) (p * 11 + 4) (p * 11 + 5) (p * 11 + 6) (p * 11 + 7) (p * 11 + 8) (p * 11 + 9) (p * 11 + 10) (.int .i64 r) (.int .i64 n) (.slice x1 m1 y1) (.int .i64 actor) (.int .i64 kind) (.int .i64 dst) (.int .i64 bucket) (.int .i64 mask) (.int .i64 gr) (.int .i64 gn) (.slice x2 m2 y2))
        have ty := row_type R7.out
        have EW : Elsewhere W7 lo (some g) := fun g' e => by cases e; exact .inr ty
        have E8 := Lib.hid (fun x hx => (E7.out x hx).else_ G8.out EW)
        have T8 := Lib.hid (T7.out.else_ G8.out EW)
        have B8 := Lib.hid (B7.out.grown G8.out B7.out.size (fun k hk => by cases hk; exact hg))
        clear EW ty hsw2 hca hl7
        go_wp2
        go_roundw
        case rel => exact ⟨p, by omega, by first | go_num | rw [e2], R8.out, E8.out, T8.out, B8.out, by
          show J = _
          have h1 := HST.out
          have h2 := TA.out
          try simp only at h2
          rw [h2] at h1
          exact h1⟩
        case measure => (have h4 := HJP.out; simp [intOf]; omega)
end Go.Proofs.YtkcfcmigcphjlaaGreat
namespace Go.Proofs.YtkcfcmigcphjlaaGreat
open Go.RowKit
set_option linter.unusedVariables false

theorem scan_all {n : Int} : ∀ (l : List ActM) (p : Option ActM) (next v : List Int), scanM n p next l = some v → ∀ a ∈ l, actOkM a n = true
  | [], _, _, _, _, a, ha => by cases ha
  | x :: l, p, next, v, h, a, ha => by
    rw [scanM] at h
    split at h
    · rename_i hx
      rcases List.mem_cons.1 ha with rfl | ha
      · exact hx.1
      · exact scan_all l _ _ v h a ha
    · cases h
theorem setOk_all {l : List ActM} {n : Int} (h : setOkM l n = true) : 1 ≤ n ∧ n ≤ 4 ∧ l.length ≤ 60 ∧ ∀ a ∈ l, actOkM a n = true := by
  simp only [setOkM, Bool.and_eq_true, decide_eq_true_eq] at h
  obtain ⟨⟨⟨h1, h2⟩, h3⟩, h4⟩ := h
  refine ⟨h1, h2, h3, ?_⟩
  cases hs : scanM n none (List.replicate n.toNat 0) l with
  | none => rw [hs] at h4; cases h4
  | some v => exact scan_all l none _ v hs
theorem ok_small {a : ActM} {n : Int} (h : actOkM a n = true) : a.Small := by
  have hu : a.ups.length ≤ 5 := by
    simp only [actOkM, Bool.and_eq_true, fieldsM, okUps, decide_eq_true_eq] at h
    have h := h.2
    split at h
    · simp only [Bool.and_eq_true, decide_eq_true_eq] at h; omega
    · split at h
      · simp only [Bool.and_eq_true, decide_eq_true_eq] at h; omega
      · split at h
        · simp only [Bool.and_eq_true, decide_eq_true_eq] at h; omega
        · split at h
          · simp only [Bool.and_eq_true, decide_eq_true_eq] at h; omega
          · cases h
  have hd : a.dep.length ≤ 4 := by
    simp only [actOkM, Bool.and_eq_true, decide_eq_true_eq] at h
    omega
  exact ⟨by omega, by omega⟩
theorem setOk_small {l : List ActM} {n : Int} (h : setOkM l n = true) : SmallL l := by
  obtain ⟨_, _, h3, h4⟩ := setOk_all h
  exact ⟨by omega, fun a ha => ok_small (h4 a ha)⟩

/-- the model of AddAct -/
def addM (l : List ActM) (n : Int) (a : ActM) : Option (List ActM) :=
  if setOkM l n = true ∧ findM l a.r a.n < 0 ∧ setOkM (putM l a) n = true then some (putM l a) else none
def AddedNo (w : World) (e : Ending) (w' : World) : Prop := e = .returned (.tuple #[.slice none 0 0, .bool false]) ∧ Below w.heap.size w w'
def AddedYes (w : World) (l : List ActM) (e : Ending) (w' : World) : Prop := ∃ v, e = .returned (.tuple #[v, .bool true]) ∧ OwnActs w' w.heap.size v l ∧ Below w.heap.size w w'
def Added (w : World) (o : Option (List ActM)) (e : Ending) (w' : World) : Prop := (o = none ∧ AddedNo w e w') ∨ ∃ l, o = some l ∧ AddedYes w l e w'

set_option maxRecDepth 100000 in
set_option maxHeartbeats 3200000 in
theorem addAct_any (v : Value) (l : List ActM) (n : Int) (t : ActT) (w : World) (h : Acts w v l) (hn : -9223372036854775808 ≤ n ∧ n ≤ 9223372036854775807) (ht : t.Reads w) (hs : t.a.Small) :
    Calls Tryz.prog 18 #[v, .int .i64 n, t.val] w (Added w (addM l n t.a)) := by
  have HA := Lib.hid h
  have HT := Lib.hid ht
  have HS := Lib.hid hs
  clear h ht hs
  obtain ⟨O, hO⟩ : ∃ O, O = addM l n t.a := ⟨_, rfl⟩
  rw [← hO]
  have HO := Lib.hid hO
  clear hO
  have SO := Lib.hid (fun W v l h => setOk_any v l n W h hn)
  have B0 := Lib.hid ((Below.refl w.heap.size w).alloc (Nat.le_refl _) (.cells #[.int .i64 t.a.r, .int .i64 t.a.n, t.vd, .int .i64 t.a.actor, .int .i64 t.a.kind, .int .i64 t.a.to, .int .i64 t.a.bucket, .int .i64 t.a.mask, .int .i64 t.a.gr, .int .i64 t.a.gn, t.vs] 33))
  have K0 := Lib.hid (Blk.new w #[.int .i64 t.a.r, .int .i64 t.a.n, t.vd, .int .i64 t.a.actor, .int .i64 t.a.kind, .int .i64 t.a.to, .int .i64 t.a.bucket, .int .i64 t.a.mask, .int .i64 t.a.gr, .int .i64 t.a.gn, t.vs] 33)
  cases h1 : setOkM l n
  · have HN := Lib.hid (show O = none by rw [HO.out, addM, h1]; simp)
    have H1 := Lib.hid h1
    clear h1
    go_enter Tryz.func18, Tryz.ntmps18
    simp only [ActT.val]
    go_wp2_with fail
    refine (SO.out _ v l (HA.out.below B0.out)).mono ?_
    rintro e w1 ⟨rfl, b1⟩
    rw [H1.out]
    have B1 := Lib.hid (B0.out.trans (b1.mono B0.out.size))
    clear b1
    go_wp2_with fail
    go_ret2
    exact .inl ⟨HN.out, rfl, B1.out⟩
  · have SM := Lib.hid (setOk_small h1)
    have H1 := Lib.hid h1
    obtain ⟨f, hf⟩ : ∃ f, f = findM l t.a.r t.a.n := ⟨_, rfl⟩
    have HF := Lib.hid hf
    clear h1 hf
    by_cases h2 : f < 0
    · obtain ⟨s, hs⟩ : ∃ s, s = setOkM (putM l t.a) n := ⟨_, rfl⟩
      have HSP := Lib.hid hs
      have HH := Lib.hid h2
      clear hs
      cases s
      · have HN := Lib.hid (show O = none by rw [HO.out, addM, ← HSP.out]; simp)
        have e1 : decide (0 ≤ f) = false := by simp; omega
        go_enter Tryz.func18, Tryz.ntmps18
        simp only [ActT.val]
        go_wp2_with fail
        refine (SO.out _ v l (HA.out.below B0.out)).mono ?_
        rintro e w1 ⟨rfl, b1⟩
        rw [H1.out]
        have B1 := Lib.hid (B0.out.trans (b1.mono B0.out.size))
        have K1 := Lib.hid (K0.out.below b1 K0.out.lt)
        have c0 := K1.out.cell
        clear b1
        go_wp2_with fail
        refine (find_any v l _ _ _ (HA.out.below B1.out)).mono ?_
        rintro e w2 ⟨rfl, hw2⟩
        subst hw2
        rw [← HF.out]
        go_wp2_with fail
        clear c0
        have D0 : Hid (Below w2.heap.size w2 w2.drew) := (Below.refl _ _).drew
        refine wp_region_held_drew (S := fun w' => Below w2.heap.size w2 w') (by kernel_rfl) (D0.out) (fun hHeld => ?_)
        refine held_take (i := 0) (d := some 22) (v := ?_) rfl (by kernel_rfl) (by kernel_rfl) (by kernel_rfl) (by kernel_rfl) (fun _ _ _ h => h) (by kernel_rfl) ?_ hHeld ?_
        rotate_left
        · intro w' hSw
          go_simp
          first | done | with_reducible rfl
        simp only [Act.put, List.setIfInBounds_toArray, List.set_cons_zero, List.set_cons_succ]
        refine held_take (i := 2) (d := some 24) (v := ?_) rfl (by kernel_rfl) (by kernel_rfl) (by kernel_rfl) (by kernel_rfl) (fun _ _ _ h => h) (by kernel_rfl) ?_ hHeld ?_
        rotate_left
        · intro w' hSw
          have cc := (K1.out.below hSw K1.out.lt).cell
          go_simp
          first | done | with_reducible rfl
        simp only [Act.put, List.setIfInBounds_toArray, List.set_cons_zero, List.set_cons_succ]
        refine wpAnyH_ready (rs := [1]) (by kernel_rfl) (by simp) ?_
        refine AllReadyH.cons rfl (fun K hK => ?_) AllReadyH.nil
        go_simp
        refine (l3own_any v l _ (HA.out.below (B1.out.trans (hHeld.mono B1.out.size))) SM.out).mono ?_
        rintro e w3 ⟨v3, rfl, o3, b3⟩
        have o3 := o3.less hHeld.size
        have D3 := Lib.hid (hHeld.trans (b3.mono hHeld.size))
        have O3 := Lib.hid o3
        clear b3 o3
        go_simp
        refine hK.out _ _ (D3.out) (fun hHeld => ?_)
        clear hK K
        try simp only [Act.put, List.setIfInBounds_toArray, List.set_cons_zero, List.set_cons_succ]
        refine wpAnyH_ready (rs := [3]) (by kernel_rfl) (by simp) ?_
        refine AllReadyH.cons rfl (fun K hK => ?_) AllReadyH.nil
        go_simp
        obtain ⟨us, hus, hot⟩ := O3.out
        refine (l3put_any w2.heap.size v3 us t _ hot D3.out.size (HT.out.below (B1.out.trans (D3.out.mono B1.out.size))) HS.out (by have := SM.out.1; rw [hus] at this; simpa using this)).mono ?_
        rintro e w4 ⟨v4, rfl, o4, b4⟩
        rw [← hus] at o4
        have D4 := Lib.hid (D3.out.trans (b4.mono D3.out.size))
        have P4 := Lib.hid o4
        clear b4 o4 hus hot
        go_simp
        refine hK.out _ _ (D4.out) (fun hHeld => ?_)
        clear hK K
        try simp only [Act.put, List.setIfInBounds_toArray, List.set_cons_zero, List.set_cons_succ]
        refine held_take (i := 4) (d := some 8) (v := ?_) rfl (by kernel_rfl) (by kernel_rfl) (by kernel_rfl) (by kernel_rfl) (fun _ _ _ h => h) (by kernel_rfl) ?_ hHeld ?_
        rotate_left
        · intro w' hSw
          go_simp
          first | done | with_reducible rfl
        simp only [Act.put, List.setIfInBounds_toArray, List.set_cons_zero, List.set_cons_succ]
        refine wpAnyH_done (by kernel_rfl) ?_ _
        have B4 := Lib.hid (B1.out.trans (D4.out.mono B1.out.size))
        go_wp2_with fail
        refine (SO.out _ v4 _ (ownActs_acts P4.out)).mono ?_
        rintro e w5 ⟨rfl, b5⟩
        rw [← HSP.out]
        have b5h := Lib.hid b5
        have B5 := Lib.hid (B4.out.trans (b5.mono B4.out.size))
        clear b5

        go_wp2_with fail
        go_ret2
        exact .inl ⟨HN.out, rfl, B5.out⟩
      · have HN := Lib.hid (show O = some (putM l t.a) by rw [HO.out, addM, ← HSP.out, H1.out, ← HF.out]; simp [h2])
        have e1 : decide (0 ≤ f) = false := by simp; omega
        go_enter Tryz.func18, Tryz.ntmps18
        simp only [ActT.val]
        go_wp2_with fail
        refine (SO.out _ v l (HA.out.below B0.out)).mono ?_
        rintro e w1 ⟨rfl, b1⟩
        rw [H1.out]
        have B1 := Lib.hid (B0.out.trans (b1.mono B0.out.size))
        have K1 := Lib.hid (K0.out.below b1 K0.out.lt)
        have c0 := K1.out.cell
        clear b1
        go_wp2_with fail
        refine (find_any v l _ _ _ (HA.out.below B1.out)).mono ?_
        rintro e w2 ⟨rfl, hw2⟩
        subst hw2
        rw [← HF.out]
        go_wp2_with fail
        clear c0
        have D0 : Hid (Below w2.heap.size w2 w2.drew) := (Below.refl _ _).drew
        refine wp_region_held_drew (S := fun w' => Below w2.heap.size w2 w') (by kernel_rfl) (D0.out) (fun hHeld => ?_)
        refine held_take (i := 0) (d := some 22) (v := ?_) rfl (by kernel_rfl) (by kernel_rfl) (by kernel_rfl) (by kernel_rfl) (fun _ _ _ h => h) (by kernel_rfl) ?_ hHeld ?_
        rotate_left
        · intro w' hSw
          go_simp
          first | done | with_reducible rfl
        simp only [Act.put, List.setIfInBounds_toArray, List.set_cons_zero, List.set_cons_succ]
        refine held_take (i := 2) (d := some 24) (v := ?_) rfl (by kernel_rfl) (by kernel_rfl) (by kernel_rfl) (by kernel_rfl) (fun _ _ _ h => h) (by kernel_rfl) ?_ hHeld ?_
        rotate_left
        · intro w' hSw
          have cc := (K1.out.below hSw K1.out.lt).cell
          go_simp
          first | done | with_reducible rfl
        simp only [Act.put, List.setIfInBounds_toArray, List.set_cons_zero, List.set_cons_succ]
        refine wpAnyH_ready (rs := [1]) (by kernel_rfl) (by simp) ?_
        refine AllReadyH.cons rfl (fun K hK => ?_) AllReadyH.nil
        go_simp
        refine (l3own_any v l _ (HA.out.below (B1.out.trans (hHeld.mono B1.out.size))) SM.out).mono ?_
        rintro e w3 ⟨v3, rfl, o3, b3⟩
        have o3 := o3.less hHeld.size
        have D3 := Lib.hid (hHeld.trans (b3.mono hHeld.size))
        have O3 := Lib.hid o3
        clear b3 o3
        go_simp
        refine hK.out _ _ (D3.out) (fun hHeld => ?_)
        clear hK K
        try simp only [Act.put, List.setIfInBounds_toArray, List.set_cons_zero, List.set_cons_succ]
        refine wpAnyH_ready (rs := [3]) (by kernel_rfl) (by simp) ?_
        refine AllReadyH.cons rfl (fun K hK => ?_) AllReadyH.nil
        go_simp
        obtain ⟨us, hus, hot⟩ := O3.out
        refine (l3put_any w2.heap.size v3 us t _ hot D3.out.size (HT.out.below (B1.out.trans (D3.out.mono B1.out.size))) HS.out (by have := SM.out.1; rw [hus] at this; simpa using this)).mono ?_
        rintro e w4 ⟨v4, rfl, o4, b4⟩
        rw [← hus] at o4
        have D4 := Lib.hid (D3.out.trans (b4.mono D3.out.size))
        have P4 := Lib.hid o4
        clear b4 o4 hus hot
        go_simp
        refine hK.out _ _ (D4.out) (fun hHeld => ?_)
        clear hK K
        try simp only [Act.put, List.setIfInBounds_toArray, List.set_cons_zero, List.set_cons_succ]
        refine held_take (i := 4) (d := some 8) (v := ?_) rfl (by kernel_rfl) (by kernel_rfl) (by kernel_rfl) (by kernel_rfl) (fun _ _ _ h => h) (by kernel_rfl) ?_ hHeld ?_
        rotate_left
        · intro w' hSw
          go_simp
          first | done | with_reducible rfl
        simp only [Act.put, List.setIfInBounds_toArray, List.set_cons_zero, List.set_cons_succ]
        refine wpAnyH_done (by kernel_rfl) ?_ _
        have B4 := Lib.hid (B1.out.trans (D4.out.mono B1.out.size))
        go_wp2_with fail
        refine (SO.out _ v4 _ (ownActs_acts P4.out)).mono ?_
        rintro e w5 ⟨rfl, b5⟩
        rw [← HSP.out]
        have b5h := Lib.hid b5
        have B5 := Lib.hid (B4.out.trans (b5.mono B4.out.size))
        clear b5

        go_wp2_with fail
        go_ret2
        exact .inr ⟨_, HN.out, _, rfl, (P4.out.below b5h.out).less B1.out.size, B5.out⟩
    · have HN := Lib.hid (show O = none by rw [HO.out, addM, ← HF.out]; simp [h2])
      have e1 : decide (0 ≤ f) = true := by simp; omega
      go_enter Tryz.func18, Tryz.ntmps18
      simp only [ActT.val]
      go_wp2_with fail
      refine (SO.out _ v l (HA.out.below B0.out)).mono ?_
      rintro e w1 ⟨rfl, b1⟩
      rw [H1.out]
      have B1 := Lib.hid (B0.out.trans (b1.mono B0.out.size))
      have c0 := (K0.out.below b1 K0.out.lt).cell
      clear b1
      go_wp2_with fail
      refine (find_any v l _ _ _ (HA.out.below B1.out)).mono ?_
      rintro e w2 ⟨rfl, rfl⟩
      rw [← HF.out]
      go_wp2_with fail
      go_ret2
      exact .inl ⟨HN.out, rfl, B1.out⟩
end Go.Proofs.YtkcfcmigcphjlaaGreat


namespace Go.Proofs.YtkcfcmigcphjlaaGreat
open Go.RowKit
set_option linter.unusedVariables false

def unionFrom (out : List ActM) : List ActM → Option (List ActM)
  | [] => some out
  | a :: rest =>
    if 0 ≤ findM out a.r a.n then (if sameM (out.getD (findM out a.r a.n).toNat act0) a = true then unionFrom out rest else none) else unionFrom (putM out a) rest
/-- the model of Union -/
def unionM (l m : List ActM) (n : Int) : Option (List ActM) :=
  if setOkM l n = true ∧ setOkM m n = true then (match unionFrom l m with | some out => if setOkM out n = true then some out else none | none => none) else none
theorem putJ_le (l : List ActM) (a : ActM) (j : Nat) : putJ l a j ≤ j := by
  induction j with
  | zero => simp [putJ]
  | succ j ih => rw [putJ]; split <;> omega
theorem putM_length (l : List ActM) (a : ActM) : (putM l a).length = l.length + 1 := by
  have := putJ_le l a l.length
  simp only [putM, List.length_append, List.length_take, List.length_cons, List.length_drop]
  omega
theorem findFrom_range (r n : Int) (l : List ActM) (i : Nat) (h : 0 ≤ findFrom r n l i) : i ≤ (findFrom r n l i).toNat ∧ (findFrom r n l i).toNat < i + l.length := by
  induction l generalizing i with
  | nil => simp [findFrom] at h
  | cons a l ih =>
    rw [findFrom] at h ⊢
    split at h
    · rename_i hx; rw [if_pos hx]; simp
    · rename_i hx; rw [if_neg hx]
      have := ih (i + 1) h
      simp only [List.length_cons]
      omega
theorem find_range (l : List ActM) (r n : Int) (h : 0 ≤ findM l r n) : (findM l r n).toNat < l.length := by
  have := findFrom_range r n l 0 h
  unfold findM
  omega
end Go.Proofs.YtkcfcmigcphjlaaGreat
namespace Go.Proofs.YtkcfcmigcphjlaaGreat
open Go.RowKit
set_option linter.unusedVariables false

/-- the acts of a slice, where there are any -/
theorem actsT_at {w : World} {a : Option Addr} {len cap : Nat} {ts : List ActT} (h : ActsT w (.slice a len cap) ts) (hp : 0 < len) : len = ts.length ∧ ∃ b off, a = some ⟨b, off, none⟩ ∧ b < w.heap.size ∧ ∀ i, i < len → ActAt w b (off + i * 11) (ts.getD i t0) := by
  rcases h.2 with ⟨a', cap', h', rfl⟩ | ⟨b, off, cap', h', h1, h2, h3, h4⟩
  · simp only [Value.slice.injEq] at h'; omega
  · simp only [Value.slice.injEq] at h'
    obtain ⟨rfl, rfl, rfl⟩ := h'
    exact ⟨rfl, b, off, rfl, h1, h4⟩

def doneM (n : Int) (o : Option (List ActM)) : Option (List ActM) := match o with | some out => if setOkM out n = true then some out else none | none => none
theorem union_eq {l m : List ActM} {n : Int} (h1 : setOkM l n = true) (h2 : setOkM m n = true) : unionM l m n = doneM n (unionFrom l m) := by rw [unionM, if_pos ⟨h1, h2⟩]; rfl

set_option maxRecDepth 100000 in
set_option maxHeartbeats 6400000 in
theorem union_walk (v : Value) (l : List ActM) (x : Option Addr) (len cap : Nat) (ts : List ActT) (n : Int) (w : World) (h : Acts w v l) (hm : ActsT w (.slice x len cap) ts) (hl : ts.length = len) (hn : -9223372036854775808 ≤ n ∧ n ≤ 9223372036854775807)
    (h1 : setOkM l n = true) (h2 : setOkM (ts.map ActT.a) n = true) :
    Calls Tryz.prog 22 #[v, .slice x len cap, .int .i64 n] w (Added w (unionM l (ts.map ActT.a) n)) := by
  have HA := Lib.hid h
  have HM := Lib.hid hm
  have N1 := Lib.hid hl
  have H1 := Lib.hid h1
  have H2 := Lib.hid h2
  have SM := Lib.hid (setOk_small h1)
  have L1 : l.length ≤ 60 := (setOk_all h1).2.2.1
  have L2 : len ≤ 60 := by have := (setOk_all h2).2.2.1; rw [List.length_map] at this; omega
  have SA := Lib.hid (fun t (ht : t ∈ ts) => ok_small ((setOk_all h2).2.2.2 t.a (List.mem_map_of_mem ht)))
  obtain ⟨O, hO⟩ : ∃ O, O = unionFrom l (ts.map ActT.a) := ⟨_, rfl⟩
  have hU : unionM l (ts.map ActT.a) n = doneM n O := by rw [union_eq h1 h2, hO]
  obtain ⟨U, hUU⟩ : ∃ U, U = unionM l (ts.map ActT.a) n := ⟨_, rfl⟩
  rw [← hUU] at hU ⊢
  have HU := Lib.hid hU
  have HO := Lib.hid hO
  clear h hm hl h1 h2 hO hU hUU
  have SO := Lib.hid (fun W v l h => setOk_any v l n W h hn)
  go_enter Tryz.func22, Tryz.ntmps22
  go_wp2_with fail
  refine (SO.out _ v l HA.out).mono ?_
  rintro e w1 ⟨rfl, b1⟩
  rw [H1.out]
  have B1 := Lib.hid b1
  clear b1
  go_wp2_with fail
  refine (SO.out _ _ _ ⟨ts, rfl, HM.out.below B1.out⟩).mono ?_
  rintro e w2 ⟨rfl, b2⟩
  rw [H2.out]
  have B2 := Lib.hid (B1.out.trans (b2.mono B1.out.size))
  clear b2
  go_wp2_with fail
  refine (l3own_any v l _ (HA.out.below B2.out) SM.out).mono ?_
  rintro e w3 ⟨v3, rfl, o3, b3⟩
  have B3 := Lib.hid (B2.out.trans (b3.mono B2.out.size))
  have O3 := Lib.hid (o3.less B2.out.size)
  clear b3 o3
  go_wp2_with fail
  go_loopw [8, 9] (fun sv i wr => ∃ (k : Nat) (us : List ActM) (u : Value), u = sv ∧ k ≤ len ∧ i = .int .i64 k ∧ us.length ≤ 60 + k ∧ Hid (O = unionFrom us ((ts.map ActT.a).drop k)) ∧ Hid (OwnActs wr w.heap.size u us) ∧ Hid (Below w.heap.size w wr)) (fun _ i _ => len - (intOf i).toNat)
  case atStart => exact ⟨0, l, _, rfl, Nat.zero_le _, rfl, L1, HO.out, O3.out, B3.out⟩
  case round =>
    obtain ⟨k, us, u, hu, hk, rfl, hul, hg, ho, hbel⟩ := hrel
    subst hu
    clear O3 B3 B2 B1
    obtain ⟨ua, uc, rfl⟩ := acts_len (ownActs_acts ho.out)
    by_cases hlt : k < len
    · obtain ⟨hz, b, off, rfl, hb, hc⟩ := actsT_at HM.out (by omega)
      clear hz
      have hm := getD_mem (ts := ts) (i := k) (by rw [N1.out]; exact hlt)
      have AT := Lib.hid ((hc k hlt).below hbel.out hb)
      have HT := Lib.hid ((HM.out.1 _ hm).below hbel.out)
      have SMt := Lib.hid (SA.out _ hm)
      have hst := hg.out
      rw [drop_ts (by rw [N1.out]; exact hlt), unionFrom] at hst
      obtain ⟨t, htt⟩ : ∃ t, t = ts.getD k t0 := ⟨_, rfl⟩
      rw [← htt] at AT HT SMt hst
      clear hc hm hg htt
      have FI := Lib.hid (fun q => find_any (.slice ua us.length uc) us t.a.r t.a.n (wr.drewN q) (acts_drewN (ownActs_acts ho.out) q))
      obtain ⟨f, hf⟩ : ∃ f, f = findM us t.a.r t.a.n := ⟨_, rfl⟩
      rw [← hf] at FI hst
      have HF := Lib.hid hf
      clear hf
      have i0 : (0 : Int) ≤ (k : Int) := by omega
      have i1 : (k : Int) < (len : Int) := by omega
      have c0 := AT.out.c0
      have c1 := AT.out.c1
      have c2 := AT.out.c2
      have c3 := AT.out.c3
      have c4 := AT.out.c4
      have c5 := AT.out.c5
      have c6 := AT.out.c6
      have c7 := AT.out.c7
      have c8 := AT.out.c8
      have c9 := AT.out.c9
      have c10 := AT.out.c10
      by_cases hf0 : 0 ≤ f
      · rw [if_pos hf0] at hst
        have hfr := find_range us t.a.r t.a.n (by rw [← HF.out]; exact hf0)
        rw [← HF.out] at hfr
        obtain ⟨fk, rfl⟩ := Int.eq_ofNat_of_zero_le hf0
        simp only [Int.toNat_natCast] at hfr hst
        obtain ⟨us', hus, hot⟩ := ho.out
        have hat := ownT_acts hot
        obtain ⟨hul2, b2, off2, rfl, hb2, hc2⟩ := actsT_at hat (by omega)
        have hm2 := getD_mem (ts := us') (i := fk) (by omega)
        have AT2 := Lib.hid (hc2 fk hfr)
        have HT2 := Lib.hid (hat.1 _ hm2)
        have hga : us.getD fk act0 = (us'.getD fk t0).a := by rw [hus, getD_map (by omega)]
        simp only [hga] at hst
        obtain ⟨t2, htt⟩ : ∃ t2, t2 = us'.getD fk t0 := ⟨_, rfl⟩
        rw [← htt] at AT2 HT2 hst
        clear hm2 htt hc2 hat hot hga hus
        have SM2 := Lib.hid (fun W (h1 : t2.Reads W) (h2 : t.Reads W) => specSame_any t2.val t.val t2.a t.a W h1.is h2.is)
        simp only [ActT.val] at SM2
        have e1 : decide (0 ≤ (fk : Int)) = true := by simp
        have e2 : decide ((fk : Int) < 0) = false := by simp
        have i2 : (0 : Int) ≤ (fk : Int) := by omega
        have i3 : (fk : Int) < (us.length : Int) := by omega
        have d0 := AT2.out.c0
        have d1 := AT2.out.c1
        have d2 := AT2.out.c2
        have d3 := AT2.out.c3
        have d4 := AT2.out.c4
        have d5 := AT2.out.c5
        have d6 := AT2.out.c6
        have d7 := AT2.out.c7
        have d8 := AT2.out.c8
        have d9 := AT2.out.c9
        have d10 := AT2.out.c10
        clear hul2
        cases hS : sameM t2.a t.a
        · have HN := Lib.hid (show U = none by rw [HU.out, hst, hS]; rfl)
          have HSm := Lib.hid hS
          clear hst hS
          go_wp2_with fail
          go_quiet ((go_at_call 52; exact Calls.quiet_of_same (FI.out _)))
          go_wp2_with fail
          refine wp_region_still_tail 11 (by kernel_rfl) (by kernel_rfl) ?_
          simp only [List.take_succ_cons, List.take_zero, List.drop_succ_cons, List.drop_zero]
          change wpStill _ _ (wr.drewN nq).drew _ _ _
          repeat still_step
          refine wpStill_nil ?_
          change wpList _ _ _ _ _ (wr.drewN nq).drew
          have D5 : Hid (Below wr.heap.size wr (wr.drewN nq).drew) := (below_drewN (Below.refl _ _) nq).drew
          generalize (wr.drewN nq).drew = W5 at D5 ⊢
          go_wp2_with fail
          refine (SM2.out _ (HT2.out.below D5.out) (HT.out.below D5.out)).mono ?_
          rintro e w6 ⟨rfl, b6⟩
          rw [HSm.out]
          have D6 := Lib.hid (D5.out.trans (b6.mono D5.out.size))
          have O6 := Lib.hid (ho.out.below D6.out)
          clear b6
          go_wp2_with fail
          go_ret2
          exact .inl ⟨HN.out, rfl, hbel.out.trans (D6.out.mono hbel.out.size)⟩
        · have HST := Lib.hid (show O = unionFrom us ((ts.map ActT.a).drop (k + 1)) by rw [hst, hS]; rfl)
          have HSm := Lib.hid hS
          clear hst hS
          go_wp2_with fail
          go_quiet ((go_at_call 52; exact Calls.quiet_of_same (FI.out _)))
          go_wp2_with fail
          refine wp_region_still_tail 11 (by kernel_rfl) (by kernel_rfl) ?_
          simp only [List.take_succ_cons, List.take_zero, List.drop_succ_cons, List.drop_zero]
          change wpStill _ _ (wr.drewN nq).drew _ _ _
          repeat still_step
          refine wpStill_nil ?_
          change wpList _ _ _ _ _ (wr.drewN nq).drew
          have D5 : Hid (Below wr.heap.size wr (wr.drewN nq).drew) := (below_drewN (Below.refl _ _) nq).drew
          generalize (wr.drewN nq).drew = W5 at D5 ⊢
          go_wp2_with fail
          refine (SM2.out _ (HT2.out.below D5.out) (HT.out.below D5.out)).mono ?_
          rintro e w6 ⟨rfl, b6⟩
          rw [HSm.out]
          have D6 := Lib.hid (D5.out.trans (b6.mono D5.out.size))
          have O6 := Lib.hid (ho.out.below D6.out)
          clear b6
          go_wp2_with fail
          go_roundw
          case rel =>
            exact ⟨k + 1, us, _, rfl, by omega, by go_num, by omega, HST.out, O6.out, hbel.out.trans (D6.out.mono hbel.out.size)⟩
          case measure => simp [intOf]; omega
      · rw [if_neg hf0] at hst
        have HST := Lib.hid hst
        have e1 : decide (0 ≤ f) = false := by simp; omega
        have e2 : decide (f < 0) = true := by simp; omega
        clear hst
        go_wp2_with fail
        go_quiet ((go_at_call 52; exact Calls.quiet_of_same (FI.out _)))
        go_wp2_with fail
        go_quiet (fail)
        obtain ⟨us', hus, hot⟩ := ho.out
        have PU := Lib.hid (fun W (hB : Below wr.heap.size wr W) => l3put_any w.heap.size (.slice ua us.length uc) us' t W (hot.below hB) (Nat.le_trans hbel.out.size hB.size) (HT.out.below hB) SMt.out (by have := congrArg List.length hus; simp at this; omega))
        rw [← hus] at PU
        clear hus hot
        go_wp2_with fail
        simp only [ActT.val] at PU
        refine (PU.out _ (below_drewN (Below.refl _ _) _)).mono ?_
        rintro e w4 ⟨v4, rfl, o4, b4⟩
        have O4 := Lib.hid o4
        have B4 := Lib.hid ((below_drewN hbel.out _).trans (b4.mono hbel.out.size))
        clear b4 o4
        go_wp2_with fail
        go_roundw
        case rel =>
          exact ⟨k + 1, _, _, rfl, by omega, by go_num, by rw [putM_length]; omega, HST.out, O4.out, B4.out⟩
        case measure => simp [intOf]; omega
    · have HO2 := Lib.hid (show O = some us by rw [hg.out, drop_end (by simp; rw [N1.out]; omega)]; rfl)
      have SE := Lib.hid (fun W h => SO.out W (.slice ua us.length uc) us h)
      cases hS : setOkM us n
      · have HN := Lib.hid (show U = none by rw [HU.out, HO2.out, doneM]; simp [hS])
        have HSm := Lib.hid hS
        clear hS hg
        go_wp2_with fail
        refine (SE.out _ (ownActs_acts ho.out)).mono ?_
        rintro e w6 ⟨rfl, b6⟩
        rw [HSm.out]
        have D6 := Lib.hid (hbel.out.trans (b6.mono hbel.out.size))
        clear b6
        go_wp2_with fail
        go_ret2
        exact .inl ⟨HN.out, rfl, D6.out⟩
      · have HN := Lib.hid (show U = some us by rw [HU.out, HO2.out, doneM]; simp [hS])
        have HSm := Lib.hid hS
        clear hS hg
        go_wp2_with fail
        refine (SE.out _ (ownActs_acts ho.out)).mono ?_
        rintro e w6 ⟨rfl, b6⟩
        rw [HSm.out]
        have D6 := Lib.hid (hbel.out.trans (b6.mono hbel.out.size))
        have O6 := Lib.hid (ho.out.below b6)
        clear b6
        go_wp2_with fail
        go_ret2
        exact .inr ⟨_, HN.out, _, rfl, O6.out, D6.out⟩
end Go.Proofs.YtkcfcmigcphjlaaGreat
namespace Go.Proofs.YtkcfcmigcphjlaaGreat
open Go.RowKit
set_option linter.unusedVariables false

set_option maxRecDepth 100000 in
set_option maxHeartbeats 1600000 in
theorem union_any (v v' : Value) (l m : List ActM) (n : Int) (w : World) (h : Acts w v l) (h' : Acts w v' m) (hn : -9223372036854775808 ≤ n ∧ n ≤ 9223372036854775807) :
    Calls Tryz.prog 22 #[v, v', .int .i64 n] w (Added w (unionM l m n)) := by
  cases h1 : setOkM l n
  · have HN := Lib.hid (show unionM l m n = none by rw [unionM, h1]; simp)
    have SO := Lib.hid (setOk_any v l n w h hn)
    rw [h1] at SO
    clear h1 h h'
    go_enter Tryz.func22, Tryz.ntmps22
    go_wp2_with fail
    refine SO.out.mono ?_
    rintro e w1 ⟨rfl, b1⟩
    have B1 := Lib.hid b1
    clear b1
    go_wp2_with fail
    go_ret2
    exact .inl ⟨HN.out, rfl, B1.out⟩
  · cases h2 : setOkM m n
    · have HN := Lib.hid (show unionM l m n = none by rw [unionM, h2]; simp)
      have SO := Lib.hid (setOk_any v l n w h hn)
      have SO2 := Lib.hid (fun W (hb : Below w.heap.size w W) => setOk_any v' m n W (h'.below hb) hn)
      rw [h1] at SO
      rw [h2] at SO2
      clear h1 h2 h h'
      go_enter Tryz.func22, Tryz.ntmps22
      go_wp2_with fail
      refine SO.out.mono ?_
      rintro e w1 ⟨rfl, b1⟩
      have B1 := Lib.hid b1
      clear b1
      go_wp2_with fail
      refine (SO2.out _ B1.out).mono ?_
      rintro e w2 ⟨rfl, b2⟩
      have B2 := Lib.hid (B1.out.trans (b2.mono B1.out.size))
      clear b2
      go_wp2_with fail
      go_ret2
      exact .inl ⟨HN.out, rfl, B2.out⟩
    · obtain ⟨ts, rfl, ht⟩ := h'
      obtain ⟨x, cap, rfl⟩ := actsT_len ht
      exact union_walk v l x _ cap ts n w h ht rfl hn h1 h2
end Go.Proofs.YtkcfcmigcphjlaaGreat


namespace Go.Proofs.YtkcfcmigcphjlaaGreat
open Go.RowKit
set_option linter.unusedVariables false

theorem splice_all (l cs : List Value) (h : cs.length = l.length) : splice l 0 cs = cs := by
  simp [splice, h]
/-- w holds in block g the ints xs as a row of its own -/
def IsBlk (w : World) (g : Nat) (xs : List Int) : Prop := w.heap[g]? = some (.cells (vi xs).toArray 3 (0, 0))

set_option maxHeartbeats 400000 in
theorem list_any (n : Nat) (c0 c1 c2 c3 : Int) (w : World) (h4 : n ≤ 4) :
    Calls Tryz.prog 38 #[.agg #[.int .i64 n, .int .i64 c0, .int .i64 c1, .int .i64 c2, .int .i64 c3]] w fun e w' =>
      e = .returned (.slice (some ⟨w.heap.size + 1, 0, none⟩) n n) ∧ IsBlk w' (w.heap.size + 1) ([c0, c1, c2, c3].take n) ∧ Below w.heap.size w w' := by
  obtain ⟨i0, hi, hz0, hz1, hz2⟩ := info_parts Tryz.info3
  have hmk : ∀ w : World, (Instr.makeSlice 27 (.int .i64 (n : Int)) (.int .i64 (n : Int))).run Tryz.prog w = .ok (.slice (some ⟨w.heap.size, 0, none⟩) n n) (w.alloc (.cells (vi (List.replicate n (0:Int))).toArray 3)) := by
    intro w
    have h := run_make (P := Tryz.prog) w 27 3 i0 (.int .i64 0) Tryz.underlying27 hi hz0 .i64 .i64 n n (by omega) (by omega) (by rw [hz2]; omega) (by omega)
    rw [hz1] at h
    simp only [Int.toNat_natCast] at h
    rw [made] at h
    exact h
  clear hi hz0 hz1 hz2 i0
  have b1 : Blk (w.alloc (.cells #[.int .i64 n, .int .i64 c0, .int .i64 c1, .int .i64 c2, .int .i64 c3] 55)) w.heap.size (vi [n, c0, c1, c2, c3]) := by simpa [vi] using Blk.new w #[.int .i64 n, .int .i64 c0, .int .i64 c1, .int .i64 c2, .int .i64 c3] 55
  have B1 := Lib.hid (b1.alloc (.cells (vi (List.replicate n (0:Int))).toArray 3))
  have hg : ((w.alloc (.cells #[.int .i64 n, .int .i64 c0, .int .i64 c1, .int .i64 c2, .int .i64 c3] 55)).alloc (.cells (vi (List.replicate n (0:Int))).toArray 3)).heap[w.heap.size + 1]? = some (.cells (vi (List.replicate n (0:Int))).toArray 3 (0, 0)) := by
    have := heap_alloc_new (w.alloc (.cells #[.int .i64 n, .int .i64 c0, .int .i64 c1, .int .i64 c2, .int .i64 c3] 55)) (.cells (vi (List.replicate n (0:Int))).toArray 3)
    simpa using this
  have bb := Lib.hid (((Below.refl w.heap.size w).alloc (Nat.le_refl _) (.cells #[.int .i64 n, .int .i64 c0, .int .i64 c1, .int .i64 c2, .int .i64 c3] 55)).alloc (by simp) (.cells (vi (List.replicate n (0:Int))).toArray 3))
  have HG := Lib.hid hg
  clear b1 hg
  go_enter Tryz.func38, Tryz.ntmps38
  have hlen : ([c0, c1, c2, c3].take n).length = n := by simp; omega
  have HL := Lib.hid hlen
  clear hlen
  go_wp2_with (with_reducible refine wpList_copy_splice rfl (.tmp 7) (.tmp 9) 27 27 rfl 3 Tryz.underlying27 (by kernel_rfl) (some ⟨w.heap.size + 1, 0, none⟩) (some ⟨w.heap.size, 1, none⟩) n n 4 4 rfl rfl (w.heap.size + 1) 0 (vi (List.replicate n (0:Int))) 3 HG.out (vi ([c0, c1, c2, c3].take n)) ?c1 ?c2 ?c3 ?c4 w.heap.size w bb.out (by omega) ?_)
  case c1 =>
    rw [vi, List.length_map, HL.out]
    show n = min 4 n
    omega
  case c2 =>
    intro _ j v hj
    have hjn : j < n := by
      have := (List.getElem?_eq_some_iff.1 hj).1
      rw [vi, List.length_map, HL.out] at this
      exact this
    rw [← hj]
    simp only [vi, List.map_take, List.map_cons, List.map_nil]
    rw [Nat.add_comm 1 j, List.getElem?_cons_succ, List.getElem?_take_of_lt hjn]
  case c3 => rw [vi, List.length_map, HL.out]; simp [vi]
  case c4 =>
    intro v hv
    simp only [vi, List.mem_map] at hv
    obtain ⟨x, _, rfl⟩ := hv
    rfl
  intro w' hw' hb'
  have HW := Lib.hid hw'.out
  have HBB := Lib.hid hb'
  clear hw' hb'
  go_wp2
  go_ret
  refine ⟨rfl, ?_, HBB.out⟩
  have := HW.out
  rw [splice_all _ _ (by rw [vi, List.length_map, HL.out]; simp [vi])] at this
  exact this
end Go.Proofs.YtkcfcmigcphjlaaGreat

















namespace Go.Proofs.YtkcfcmigcphjlaaGreat
open Go.RowKit
set_option linter.unusedVariables false

set_option maxRecDepth 100000 in
set_option maxHeartbeats 1600000 in
theorem reaches_any (pl x0 x1 x2 x3 x : Int) (t : ActT) (q : Nat) (w : World) (h : t.Reads w) (hr : t.a.r = (q : Int)) (hq : q < 4) (hx : [x0, x1, x2, x3].getD q 0 = x) :
    Calls Tryz.prog 95 #[.agg #[.int .i64 pl, .int .i64 x0, .int .i64 x1, .int .i64 x2, .int .i64 x3], t.val] w fun e w' => e = .returned (.bool (decide (t.a.n ≤ x))) ∧ Below w.heap.size w w' := by
  obtain ⟨⟨r, n, dep, actor, kind, dst, bucket, mask, gr, gn, ups⟩, vd, vs⟩ := t
  have hsd := ints_len h.1
  have hsu := ups_len h.2
  simp only at hsd hsu hr
  obtain ⟨da, dc, rfl⟩ := hsd
  obtain ⟨ua, uc, rfl⟩ := hsu
  clear h
  subst hr
  obtain ⟨W0, hW0⟩ : ∃ W0, W0 = (w.alloc (.cells #[.int .i64 pl, .int .i64 x0, .int .i64 x1, .int .i64 x2, .int .i64 x3] 55)).alloc (.cells #[.int .i64 q, .int .i64 n, .slice da dep.length dc, .int .i64 actor, .int .i64 kind, .int .i64 dst, .int .i64 bucket, .int .i64 mask, .int .i64 gr, .int .i64 gn, .slice ua ups.length uc] 33) := ⟨_, rfl⟩
  have k0 : Blk ((w.alloc (.cells #[.int .i64 pl, .int .i64 x0, .int .i64 x1, .int .i64 x2, .int .i64 x3] 55)).alloc (.cells #[.int .i64 q, .int .i64 n, .slice da dep.length dc, .int .i64 actor, .int .i64 kind, .int .i64 dst, .int .i64 bucket, .int .i64 mask, .int .i64 gr, .int .i64 gn, .slice ua ups.length uc] 33)) w.heap.size [.int .i64 pl, .int .i64 x0, .int .i64 x1, .int .i64 x2, .int .i64 x3] := (Blk.new w _ _).alloc _
  have b0 := ((Below.refl w.heap.size w).alloc (Nat.le_refl _) (.cells #[.int .i64 pl, .int .i64 x0, .int .i64 x1, .int .i64 x2, .int .i64 x3] 55)).alloc (by simp) (.cells #[.int .i64 q, .int .i64 n, .slice da dep.length dc, .int .i64 actor, .int .i64 kind, .int .i64 dst, .int .i64 bucket, .int .i64 mask, .int .i64 gr, .int .i64 gn, .slice ua ups.length uc] 33)
  have cx : W0.cell? ⟨w.heap.size, 1 + q, none⟩ = some (.int .i64 x) := by
    rw [hW0, k0.cell (1 + q), ← hx]
    match q, hq with
    | 0, _ => rfl
    | 1, _ => rfl
    | 2, _ => rfl
    | 3, _ => rfl
  have kA : Blk W0 (w.heap.size + 1) [.int .i64 q, .int .i64 n, .slice da dep.length dc, .int .i64 actor, .int .i64 kind, .int .i64 dst, .int .i64 bucket, .int .i64 mask, .int .i64 gr, .int .i64 gn, .slice ua ups.length uc] := by
    rw [hW0]
    have := Blk.new (w.alloc (.cells #[.int .i64 pl, .int .i64 x0, .int .i64 x1, .int .i64 x2, .int .i64 x3] 55)) #[.int .i64 q, .int .i64 n, .slice da dep.length dc, .int .i64 actor, .int .i64 kind, .int .i64 dst, .int .i64 bucket, .int .i64 mask, .int .i64 gr, .int .i64 gn, .slice ua ups.length uc] 33
    rw [World.size_alloc] at this
    exact this
  rw [← hW0] at b0
  have B0 := Lib.hid b0
  have ca := kA.cell 0
  have cb := kA.cell 1
  simp only [List.getElem?_cons_zero, List.getElem?_cons_succ] at ca cb
  have i0 : (0 : Int) ≤ (q : Int) := by omega
  have i1 : (q : Int) < 4 := by omega
  clear k0 b0 kA hx
  show Calls _ _ #[_, Value.agg #[.int .i64 q, .int .i64 n, .slice da dep.length dc, .int .i64 actor, .int .i64 kind, .int .i64 dst, .int .i64 bucket, .int .i64 mask, .int .i64 gr, .int .i64 gn, .slice ua ups.length uc]] w _
  go_enter Tryz.func95, Tryz.ntmps95
  go_upto_region 1 with (fail)
  rw [← hW0]
  clear hW0
  go_quiet (fail)
  go_wp2
  go_ret
  exact ⟨rfl, below_drewN B0.out _⟩

/-- an iterator over those acts of a set that a function wants -/
def Those (w : World) (cs : List Value) (wf : Value) (e : Ending) (w' : World) : Prop := ∃ S F, e = .returned (.func (.func 111) #[] #[.pointer (some ⟨S, 0, none⟩), .pointer (some ⟨F, 0, none⟩)]) ∧ w.heap.size ≤ S ∧ w.heap.size ≤ F ∧ Blk w' S cs ∧ Blk w' F [wf] ∧ Below w.heap.size w w'
set_option maxRecDepth 100000 in
set_option maxHeartbeats 1600000 in
theorem those_any (a : Option Addr) (l c b : Nat) (p x0 x1 x2 x3 : Int) (fn : Fn) (fa fb : Array Value) (w : World) :
    Calls Tryz.prog 94 #[.agg #[.slice a l c, .map (some b), .int .i64 p, .int .i64 x0, .int .i64 x1, .int .i64 x2, .int .i64 x3], .func fn fa fb] w (Those w [.slice a l c, .map (some b), .int .i64 p, .int .i64 x0, .int .i64 x1, .int .i64 x2, .int .i64 x3] (.func fn fa fb)) := by
  go_enter Tryz.func94, Tryz.ntmps94
  go_wp2
  go_ret
  refine ⟨w.heap.size, w.heap.size + 1, rfl, Nat.le_refl _, by omega, (Blk.new w _ _).alloc _, ?_, ((Below.refl w.heap.size w).alloc (Nat.le_refl _) _).alloc (by simp) _⟩
  have := Blk.new (w.alloc (.cells #[.slice a l c, .map (some b), .int .i64 p, .int .i64 x0, .int .i64 x1, .int .i64 x2, .int .i64 x3] 57)) #[.func fn fa fb] 109
  rw [World.size_alloc] at this
  exact this
end Go.Proofs.YtkcfcmigcphjlaaGreat
namespace Go.Proofs.YtkcfcmigcphjlaaGreat
open Go.RowKit
set_option linter.unusedVariables false

/-- an iterator over the acts of a set that a clock reaches: the set's seven cells in one block, the function in another -/
def UpTo (w : World) (cs ks : List Value) (e : Ending) (w' : World) : Prop := ∃ S F, e = .returned (.func (.func 111) #[] #[.pointer (some ⟨S, 0, none⟩), .pointer (some ⟨F, 0, none⟩)]) ∧ w.heap.size ≤ S ∧ w.heap.size ≤ F ∧ Blk w' S cs ∧ Blk w' F [.func (.func 95) #[.agg ks.toArray] #[]] ∧ Below w.heap.size w w'
set_option maxRecDepth 100000 in
set_option maxHeartbeats 1600000 in
theorem upTo_any (a : Option Addr) (l c b : Nat) (p x0 x1 x2 x3 q y0 y1 y2 y3 : Int) (w : World) :
    Calls Tryz.prog 67 #[.agg #[.slice a l c, .map (some b), .int .i64 p, .int .i64 x0, .int .i64 x1, .int .i64 x2, .int .i64 x3], .agg #[.int .i64 q, .int .i64 y0, .int .i64 y1, .int .i64 y2, .int .i64 y3]] w (UpTo w [.slice a l c, .map (some b), .int .i64 p, .int .i64 x0, .int .i64 x1, .int .i64 x2, .int .i64 x3] [.int .i64 q, .int .i64 y0, .int .i64 y1, .int .i64 y2, .int .i64 y3]) := by
  go_enter Tryz.func67, Tryz.ntmps67
  obtain ⟨W0, hW0⟩ : ∃ W0, W0 = (w.alloc (.cells #[.slice a l c, .map (some b), .int .i64 p, .int .i64 x0, .int .i64 x1, .int .i64 x2, .int .i64 x3] 57)).alloc (.cells #[.int .i64 q, .int .i64 y0, .int .i64 y1, .int .i64 y2, .int .i64 y3] 55) := ⟨_, rfl⟩
  have kS : Blk W0 w.heap.size [.slice a l c, .map (some b), .int .i64 p, .int .i64 x0, .int .i64 x1, .int .i64 x2, .int .i64 x3] := by
    rw [hW0]
    exact (Blk.new w _ _).alloc _
  have kC : Blk W0 (w.heap.size + 1) [.int .i64 q, .int .i64 y0, .int .i64 y1, .int .i64 y2, .int .i64 y3] := by
    rw [hW0]
    have := Blk.new (w.alloc (.cells #[.slice a l c, .map (some b), .int .i64 p, .int .i64 x0, .int .i64 x1, .int .i64 x2, .int .i64 x3] 57)) #[.int .i64 q, .int .i64 y0, .int .i64 y1, .int .i64 y2, .int .i64 y3] 55
    rw [World.size_alloc] at this
    exact this
  have B0 := Lib.hid (((Below.refl w.heap.size w).alloc (Nat.le_refl _) (.cells #[.slice a l c, .map (some b), .int .i64 p, .int .i64 x0, .int .i64 x1, .int .i64 x2, .int .i64 x3] 57)).alloc (by simp) (.cells #[.int .i64 q, .int .i64 y0, .int .i64 y1, .int .i64 y2, .int .i64 y3] 55))
  rw [← hW0] at B0
  have s0 := kS.cell 0
  have s1 := kS.cell 1
  have s2 := kS.cell 2
  have s3 := kS.cell 3
  have s4 := kS.cell 4
  have s5 := kS.cell 5
  have s6 := kS.cell 6
  have c0 := kC.cell 0
  have c1 := kC.cell 1
  have c2 := kC.cell 2
  have c3 := kC.cell 3
  have c4 := kC.cell 4
  simp only [List.getElem?_cons_zero, List.getElem?_cons_succ] at s0 s1 s2 s3 s4 s5 s6 c0 c1 c2 c3 c4
  clear kS kC
  go_upto_region 1 with (fail)
  rw [← hW0]
  clear hW0
  go_wp2_with fail
  refine (those_any _ _ _ _ _ _ _ _ _ _ _ _ _).mono ?_
  rintro e w6 ⟨S, F, rfl, hS, hF, kS, kF, b6⟩
  have h0 := B0.out.size
  go_wp2
  go_ret
  exact ⟨S, F, rfl, by omega, by omega, kS, kF, B0.out.trans (b6.mono h0)⟩
end Go.Proofs.YtkcfcmigcphjlaaGreat
namespace Go.Proofs.YtkcfcmigcphjlaaGreat
open Go.RowKit Go.Shelf
set_option linter.unusedVariables false
attribute [local go_sem] Oper.semAt_some

/-- whether the clock knows the act -/
def knowsT (ys : List Int) (t : ActT) : Bool := decide (t.a.n ≤ ys.getD t.a.r.toNat 0)

theorem filt_succ (P : ActT → Bool) (ts : List ActT) (k : Nat) (h : k < ts.length) : (ts.take (k + 1)).filter P = (ts.take k).filter P ++ (if P (ts.getD k t0) then [ts.getD k t0] else []) := by
  rw [List.take_add_one, List.filter_append]
  simp only [List.getD_eq_getElem?_getD, List.getElem?_eq_getElem h, Option.toList_some, Option.getD_some]
  by_cases hp : P ts[k] = true <;> simp [hp]
theorem filt_len (P : ActT → Bool) (ts : List ActT) (k : Nat) (h : k < ts.length) : ((ts.take k).filter P).length < ts.length := by
  have h1 := List.length_filter_le P (ts.take k)
  have h2 := List.length_take_le k ts
  omega
theorem filt_pre (P : ActT → Bool) (ts : List ActT) (k : Nat) : (ts.take k).filter P <+: ts.filter P := by
  have := List.take_append_drop k ts
  exact ⟨(ts.drop k).filter P, by rw [← List.filter_append, this]⟩

set_option maxRecDepth 100000 in
set_option maxHeartbeats 3200000 in
theorem those1_in (n : Nat) (hn : 1 ≤ n) (l Sb G b off cap len : Nat) (mp : Value) (p x0 x1 x2 x3 pl y0 y1 y2 y3 : Int) (ts : List ActT) (K : ActT → Prop) (J Jx : List ActT → World → Prop) (w0 W : World)
    (hK : ∀ t ∈ ts, K t)
    (hJ : ∀ pre A B, J pre A → Below A.heap.size A B → J pre B)
    (hY : ∀ pre x W, K x → J pre W → pre.length < ts.length → YieldAt Fence.wide (n - 1) Tryz.prog l #[x.val] W fun e W' =>
      (e = .returned (.bool true) ∧ J (pre ++ [x]) W' ∧ Below w0.heap.size W W') ∨ (e = .returned (.bool false) ∧ Jx (pre ++ [x]) W'))
    (h1 : ts.length = len) (hl : len ≤ 9223372036854775807) (hb : b < w0.heap.size) (hS : Sb < w0.heap.size) (hG : G < w0.heap.size) (hW : Below w0.heap.size w0 W)
    (hr : ∀ t ∈ ts, t.Reads w0 ∧ 0 ≤ t.a.r ∧ t.a.r < 4) (hc : ∀ i, i < len → ActAt w0 b (off + i * 11) (ts.getD i t0))
    (kS : Blk w0 Sb [.slice (some ⟨b, off, none⟩) len cap, mp, .int .i64 p, .int .i64 x0, .int .i64 x1, .int .i64 x2, .int .i64 x3])
    (kG : Blk w0 G [.func (.func 95) #[.agg #[.int .i64 pl, .int .i64 y0, .int .i64 y1, .int .i64 y2, .int .i64 y3]] #[]]) (h0 : J [] W) :
    CallsIn Fence.wide n Tryz.prog 111 #[.func (.yield l) #[] #[], .pointer (some ⟨Sb, 0, none⟩), .pointer (some ⟨G, 0, none⟩)] W fun e W' => (∃ v, e = .returned v) ∧
      ((∃ zs, zs = ts.filter (knowsT [y0, y1, y2, y3]) ∧ J zs W') ∨ (∃ pre, pre <+: ts.filter (knowsT [y0, y1, y2, y3]) ∧ Jx pre W')) := by
  have s0 := (kS.below hW hS).cell 0
  simp only [List.getElem?_cons_zero] at s0
  refine callsIn_of_wp Tryz.func111 rfl trivial ?_ rfl
  simp only [Tryz.ntmps111, List.size_toArray, List.length_cons, List.length_nil, Nat.reduceAdd, Nat.reduceSub, Array.replicate_succ, Array.replicate_zero, List.push_toArray, List.append_toArray, List.nil_append, List.cons_append]
  have HC := Lib.hid hc
  have HR := Lib.hid hr
  have N1 := Lib.hid h1
  have HJ := Lib.hid hJ
  have HY := Lib.hid hY
  have HKK := Lib.hid hK
  have KG := Lib.hid kG
  clear kS kG hc hr h1 hJ hY hK
  gi_wp2
  gi_loopw [9] (fun i wr => ∃ k : Nat, k ≤ len ∧ i = .int .i64 k ∧ Hid (J ((ts.take k).filter (knowsT [y0, y1, y2, y3])) wr) ∧ Hid (Below w0.heap.size w0 wr)) (fun i _ => len - (intOf i).toNat)
  case atStart => exact ⟨0, Nat.zero_le _, rfl, h0, hW⟩
  case round =>
    obtain ⟨k, hk, rfl, hj, hbel⟩ := hrel
    by_cases hlt : k < len
    · have hlt2 : k < ts.length := by rw [N1.out]; exact hlt
      have hm := getD_mem (ts := ts) (i := k) hlt2
      obtain ⟨hq0, hq1, hq2⟩ := HR.out _ hm
      have HKT := Lib.hid (HKK.out _ hm)
      have AT := Lib.hid ((HC.out k hlt).below hbel.out hb)
      have HT := Lib.hid (hq0.below hbel.out)
      have FS := Lib.hid (filt_succ (knowsT [y0, y1, y2, y3]) ts k hlt2)
      have FL := Lib.hid (filt_len (knowsT [y0, y1, y2, y3]) ts k hlt2)
      have FP := Lib.hid (filt_pre (knowsT [y0, y1, y2, y3]) ts (k + 1))
      have g0 := (KG.out.below hbel.out hG).cell 0
      simp only [List.getElem?_cons_zero] at g0
      have hGw : G < wr.heap.size := Nat.lt_of_lt_of_le hG hbel.out.size
      obtain ⟨t, htt⟩ : ∃ t, t = ts.getD k t0 := ⟨_, rfl⟩
      rw [← htt] at AT HT hq1 hq2 FS HKT
      clear hm htt hq0
      obtain ⟨⟨r, nn, dep, actor, kind, dst, bucket, mask, gr, gn, ups⟩, vd, vs⟩ := t
      have hsd := ints_len HT.out.1
      have hsu := ups_len HT.out.2
      simp only at hsd hsu hq1 hq2
      obtain ⟨q, rfl⟩ : ∃ q : Nat, r = (q : Int) := ⟨r.toNat, by omega⟩
      obtain ⟨da, dc, rfl⟩ := hsd
      obtain ⟨ua, uc, rfl⟩ := hsu
      have c0 := AT.out.c0
      have c1 := AT.out.c1
      have c2 := AT.out.c2
      have c3 := AT.out.c3
      have c4 := AT.out.c4
      have c5 := AT.out.c5
      have c6 := AT.out.c6
      have c7 := AT.out.c7
      have c8 := AT.out.c8
      have c9 := AT.out.c9
      have c10 := AT.out.c10
      simp only at c0 c1 c2 c3 c4 c5 c6 c7 c8 c9 c10
      clear AT
      gi_wp2_with fail
      refine ⟨trivial, ?_⟩
      have kq : Blk (wr.alloc (.cells #[.int .i64 (q : Int), .int .i64 nn, .slice da dep.length dc, .int .i64 actor, .int .i64 kind, .int .i64 dst, .int .i64 bucket, .int .i64 mask, .int .i64 gr, .int .i64 gn, .slice ua ups.length uc] 33)) wr.heap.size [.int .i64 (q : Int), .int .i64 nn, .slice da dep.length dc, .int .i64 actor, .int .i64 kind, .int .i64 dst, .int .i64 bucket, .int .i64 mask, .int .i64 gr, .int .i64 gn, .slice ua ups.length uc] := Blk.new wr _ _
      have bq := (Below.refl wr.heap.size wr).alloc (Nat.le_refl _) (.cells #[.int .i64 (q : Int), .int .i64 nn, .slice da dep.length dc, .int .i64 actor, .int .i64 kind, .int .i64 dst, .int .i64 bucket, .int .i64 mask, .int .i64 gr, .int .i64 gn, .slice ua ups.length uc] 33)
      obtain ⟨Q, hQ⟩ : ∃ Q, Q = wr.heap.size := ⟨_, rfl⟩
      generalize wr.alloc (.cells #[.int .i64 (q : Int), .int .i64 nn, .slice da dep.length dc, .int .i64 actor, .int .i64 kind, .int .i64 dst, .int .i64 bucket, .int .i64 mask, .int .i64 gr, .int .i64 gn, .slice ua ups.length uc] 33) = wb at kq bq ⊢
      have HT2 := HT.out.below bq
      have hjb := HJ.out _ _ _ hj.out bq
      have hbb := hbel.out.trans (bq.mono hbel.out.size)
      obtain ⟨X, hX⟩ : ∃ X, X = decide (nn ≤ [y0, y1, y2, y3].getD q 0) := ⟨_, rfl⟩
      have FX : Hid ((ts.take (k + 1)).filter (knowsT [y0, y1, y2, y3]) = (ts.take k).filter (knowsT [y0, y1, y2, y3]) ++ (if X = true then [(⟨⟨(q : Int), nn, dep, actor, kind, dst, bucket, mask, gr, gn, ups⟩, .slice da dep.length dc, .slice ua ups.length uc⟩ : ActT)] else [])) := by
        rw [hX]; exact FS.out
      have RC : CallsIn Fence.wide (n - 1) Tryz.prog 95 #[.agg #[.int .i64 pl, .int .i64 y0, .int .i64 y1, .int .i64 y2, .int .i64 y3], .agg #[.int .i64 (q : Int), .int .i64 nn, .slice da dep.length dc, .int .i64 actor, .int .i64 kind, .int .i64 dst, .int .i64 bucket, .int .i64 mask, .int .i64 gr, .int .i64 gn, .slice ua ups.length uc]] wb fun e w' => e = .returned (.bool X) ∧ Below wb.heap.size wb w' := by
        rw [hX]; exact callsIn_wide.2 (reaches_any pl y0 y1 y2 y3 _ (⟨⟨(q : Int), nn, dep, actor, kind, dst, bucket, mask, gr, gn, ups⟩, .slice da dep.length dc, .slice ua ups.length uc⟩ : ActT) q wb HT2 rfl (by omega) rfl)
      refine RC.mono ?_
      clear RC hX FS
      rintro e w2 ⟨rfl, b2⟩
      have kq2 := kq.below b2 kq.lt
      have hj2 := Lib.hid (HJ.out _ _ _ hjb b2)
      have hb2 := Lib.hid (hbb.trans (b2.mono hbb.size))
      clear hjb hbb HT2 bq kq b2
      have e0 := kq2.cell 0
      have e1 := kq2.cell 1
      have e2 := kq2.cell 2
      have e3 := kq2.cell 3
      have e4 := kq2.cell 4
      have e5 := kq2.cell 5
      have e6 := kq2.cell 6
      have e7 := kq2.cell 7
      have e8 := kq2.cell 8
      have e9 := kq2.cell 9
      have e10 := kq2.cell 10
      simp only [List.getElem?_cons_zero, List.getElem?_cons_succ] at e0 e1 e2 e3 e4 e5 e6 e7 e8 e9 e10
      clear kq2 c0 c1 c2 c3 c4 c5 c6 c7 c8 c9 c10 g0
      cases X
      · gi_wp2
        refine ⟨fun f hf => (nomatch hf), ?_⟩
        gi_wp2
        go_roundw
        case rel =>
          refine ⟨k + 1, by omega, by first | rfl | simp, ?_, hb2⟩
          have := FX.out
          simp only [Bool.false_eq_true, if_false, List.append_nil] at this
          exact Lib.hid (by rw [this]; exact hj2.out)
        case measure => simp [intOf]; omega
      · have hy2 := HY.out _ (⟨⟨(q : Int), nn, dep, actor, kind, dst, bucket, mask, gr, gn, ups⟩, .slice da dep.length dc, .slice ua ups.length uc⟩ : ActT) w2 HKT.out hj2.out FL.out
        simp only [ActT.val] at hy2
        obtain ⟨fn, tmps, assign, body, hy, hR⟩ := hy2
        gi_wp2
        refine hR.mono ?_
        clear e0 e1 e2 e3 e4 e5 e6 e7 e8 e9 e10
        rintro e W3 (⟨rfl, hJ3, hk3⟩ | ⟨rfl, hJx3⟩)
        · gi_wp2
          go_roundw
          case rel =>
            refine ⟨k + 1, by omega, by first | rfl | simp, ?_, Lib.hid (hb2.out.trans hk3)⟩
            have := FX.out
            simp only [if_true] at this
            exact Lib.hid (by rw [this]; exact hJ3)
          case measure => simp [intOf]; omega
        · gi_wp2
          refine bodyPost_ret (results_none rfl _ _ _) rfl ?_
          refine ⟨⟨_, rfl⟩, .inr ⟨_, ?_, hJx3⟩⟩
          have h8 := FX.out
          simp only [if_true] at h8
          have h9 := FP.out
          rw [h8] at h9
          exact h9
    · obtain rfl : k = len := by omega
      gi_wp2
      go_end0
      refine ⟨⟨_, rfl⟩, .inl ⟨_, rfl, ?_⟩⟩
      have := hj.out
      rw [← N1.out, List.take_length] at this
      exact this

theorem map_sub {K : ActT → Prop} : ∀ (zs : List ActT), (∀ z ∈ zs, K z) → ∃ ys : List {t : ActT // K t}, ys.map Subtype.val = zs
  | [], _ => ⟨[], rfl⟩
  | z :: zs, h => by
    obtain ⟨ys, hy⟩ := map_sub zs (fun x hx => h x (List.mem_cons_of_mem _ hx))
    exact ⟨⟨z, h z (by simp)⟩ :: ys, by simp [hy]⟩
theorem map_sub_inj {K : ActT → Prop} : ∀ (xs ys : List {t : ActT // K t}), xs.map Subtype.val = ys.map Subtype.val → xs = ys
  | [], [], _ => rfl
  | [], y :: ys, h => by simp at h
  | x :: xs, [], h => by simp at h
  | x :: xs, y :: ys, h => by
    simp only [List.map_cons, List.cons.injEq] at h
    rw [Subtype.ext h.1, map_sub_inj xs ys h.2]
/-- what upTo hands back: all acts that the clock knows, in their order; or a prefix of them; each of them is one of which K holds -/
theorem those1_stops (n : Nat) (hn : 1 ≤ n) (Sb G b off cap len : Nat) (mp : Value) (p x0 x1 x2 x3 pl y0 y1 y2 y3 : Int) (ts : List ActT) (K : ActT → Prop) (hK : ∀ t ∈ ts, K t) (w0 : World)
    (h1 : ts.length = len) (hl : len ≤ 9223372036854775807) (hb : b < w0.heap.size) (hS : Sb < w0.heap.size) (hG : G < w0.heap.size)
    (hr : ∀ t ∈ ts, t.Reads w0 ∧ 0 ≤ t.a.r ∧ t.a.r < 4) (hc : ∀ i, i < len → ActAt w0 b (off + i * 11) (ts.getD i t0))
    (kS : Blk w0 Sb [.slice (some ⟨b, off, none⟩) len cap, mp, .int .i64 p, .int .i64 x0, .int .i64 x1, .int .i64 x2, .int .i64 x3])
    (kG : Blk w0 G [.func (.func 95) #[.agg #[.int .i64 pl, .int .i64 y0, .int .i64 y1, .int .i64 y2, .int .i64 y3]] #[]]) :
    SeqStopsK Fence.wide n Tryz.prog 111 #[.pointer (some ⟨Sb, 0, none⟩), .pointer (some ⟨G, 0, none⟩)] (fun t : {t : ActT // K t} => #[t.1.val]) (Below w0.heap.size)
      (fun zs => zs.map Subtype.val = ts.filter (knowsT [y0, y1, y2, y3])) (fun pre => pre.map Subtype.val <+: ts.filter (knowsT [y0, y1, y2, y3])) ts.length w0 := fun l J Jx W hW hA _ hY h0 => by
  refine (those1_in n hn l Sb G b off cap len mp p x0 x1 x2 x3 pl y0 y1 y2 y3 ts K (fun zs A => ∃ ys : List {t : ActT // K t}, ys.map Subtype.val = zs ∧ J ys A) (fun zs A => ∃ ys : List {t : ActT // K t}, ys.map Subtype.val = zs ∧ Jx ys A) w0 W hK
    (fun pre A B hj hab => ?_) (fun pre x V hx hj hlt => ?_) h1 hl hb hS hG hW hr hc kS kG ⟨[], rfl, h0⟩).mono ?_
  · obtain ⟨ys, hy, hj⟩ := hj
    exact ⟨ys, hy, hA ys A B none hj ⟨hab.os, hab.tape, hab.output, hab.size, fun k hk _ => hab.block k hk⟩ (fun _ h => nomatch h)⟩
  · obtain ⟨ys, hy, hj⟩ := hj
    have hlen : ys.length < ts.length := by rw [← hy] at hlt; simpa using hlt
    refine YieldAt.mono (hY ys ⟨x, hx⟩ V hj hlen) ?_
    rintro e V' (⟨rfl, hj', hk⟩ | ⟨rfl, hj'⟩)
    · exact .inl ⟨rfl, ⟨_, by simp [hy], hj'⟩, hk⟩
    · exact .inr ⟨rfl, ⟨_, by simp [hy], hj'⟩⟩
  · rintro e V ⟨hv, h⟩
    refine ⟨hv, ?_⟩
    rcases h with ⟨zs, rfl, ys, hy, hj⟩ | ⟨pre, hp, ys, hy, hj⟩
    · exact .inl ⟨ys, hy, hj⟩
    · exact .inr ⟨ys, by rw [← hy] at hp; exact hp, hj⟩
end Go.Proofs.YtkcfcmigcphjlaaGreat
namespace Go.Proofs.YtkcfcmigcphjlaaGreat
open Go.RowKit Go.Shelf
set_option linter.unusedVariables false

/-- the mark that one range over a function leaves -/
def markOf (D : Nat) : Deferred := { target := .collected D, args := #[] }
/-- W' is W with the blocks Ds shut -/
structure Shut (Ds : List Nat) (W W' : World) : Prop where
  os : W'.os = W.os
  tape : W'.tape = W.tape
  output : W'.output = W.output
  size : W'.heap.size = W.heap.size
  same : ∀ k, k ∉ Ds → W'.heap[k]? = W.heap[k]?
theorem Shut.below {Ds : List Nat} {W W' : World} {B : Nat} (h : Shut Ds W W') (hB : ∀ D ∈ Ds, B ≤ D) : Below B W W' :=
  ⟨h.os, h.tape, h.output, Nat.le_of_eq h.size.symm, fun k hk => h.same k (fun hm => by have := hB k hm; omega)⟩
theorem Shut.cell {Ds : List Nat} {W W' : World} {a : Addr} {v : Value} (h : Shut Ds W W') (hD : ∀ D ∈ Ds, W.heap[D]? = some (.deferred (some []))) (hc : W.cell? a = some v) : W'.cell? a = some v := by
  obtain ⟨o, ho, hcl⟩ := cells_of_cell hc
  refine (World.cell?_of_block (h.same _ (fun hm => ?_))).trans hc
  have := hD _ hm
  rw [ho] at this
  cases this
  cases hcl
theorem leaves_marks {F : Fence} {n : Nat} {P : Program} {fn : Func} {tmps : Array Value} {R : Ending → World → Prop} : ∀ (Ds : List Nat) (W : World), Ds.Nodup → (∀ D ∈ Ds, W.heap[D]? = some (.deferred (some []))) →
    (∀ W', Shut Ds W W' → ∃ v, (results fn tmps).run P W' = .ok v W' ∧ R (.returned v) W') → LeavesInM F n P fn tmps R (Ds.map markOf) .returning W
  | [], W, _, _, h => h W ⟨rfl, rfl, rfl, rfl, fun _ _ => rfl⟩
  | D :: Ds, W, hn, hD, h => by
    have hk := hD D (by simp)
    obtain ⟨hnd, hn2⟩ := List.nodup_cons.1 hn
    refine ⟨by simp, .inl ⟨D, _, rfl, run_takeDeferred hk, ?_⟩⟩
    refine leaves_marks Ds _ hn2 (fun E hE => ?_) (fun W' hW' => h W' ?_)
    · have hne : E ≠ D := fun e => hnd (e ▸ hE)
      exact (World.putObj_heap_other hne).trans (hD E (List.mem_cons_of_mem _ hE))
    · have hg := grownBy_putObj' W D (.deferred none)
      refine ⟨hW'.os, hW'.tape, hW'.output, by rw [hW'.size]; simp, fun k hk2 => ?_⟩
      simp only [List.mem_cons, not_or] at hk2
      rw [hW'.same k hk2.2]
      exact World.putObj_heap_other hk2.1
/-- the marks of the rounds so far: blocks of their own, beyond B, each still open -/
structure Marks (B : Nat) (Ds : List Nat) (W : World) : Prop where
  nodup : Ds.Nodup
  beyond : ∀ D ∈ Ds, B ≤ D
  blk : ∀ D ∈ Ds, W.heap[D]? = some (.deferred (some []))
theorem Marks.none (B : Nat) (W : World) : Marks B [] W := ⟨List.nodup_nil, fun _ h => (nomatch h), fun _ h => (nomatch h)⟩
theorem Marks.lt {B : Nat} {Ds : List Nat} {W : World} (h : Marks B Ds W) : ∀ D ∈ Ds, D < W.heap.size := fun D hD => (Array.getElem?_eq_some_iff.1 (h.blk D hD)).1
theorem Marks.below {B : Nat} {Ds : List Nat} {W W' : World} (h : Marks B Ds W) (hb : Below W.heap.size W W') : Marks B Ds W' :=
  ⟨h.nodup, h.beyond, fun D hD => (hb.block D (h.lt D hD)).trans (h.blk D hD)⟩
theorem Marks.push {B : Nat} {Ds : List Nat} {W W' : World} (h : Marks B Ds W) (hb : Below W.heap.size W W') {D : Nat} (hD : W.heap.size ≤ D) (hB : B ≤ D) (hk : W'.heap[D]? = some (.deferred (some []))) : Marks B (D :: Ds) W' :=
  ⟨List.nodup_cons.2 ⟨fun hm => by have := h.lt D hm; omega, h.nodup⟩, fun E hE => (List.mem_cons.1 hE).elim (fun e => e ▸ hB) (h.beyond E), fun E hE => (List.mem_cons.1 hE).elim (fun e => e ▸ hk) ((h.below hb).blk E)⟩
theorem below_keeps {K : Nat} {W W' : World} (h : Below W.heap.size W W') : KeepsFrom K W W' :=
  ⟨h.size, fun k o _ hk _ => (h.block k (Array.getElem?_eq_some_iff.1 hk).1).trans hk⟩
theorem Blk.ownFrom {β : Type} {K B : Nat} {l : List Value} (hB : B < K) : OwnFrom K (fun (_ : β) W => Blk W B l) := fun _ W W' row hs hg hr =>
  hs.same hg.size (hg.block B hs.lt (fun e => by have := (hr _ e.symm).1; omega))
theorem Blk.cellsOwn {β : Type} {K B : Nat} {v : Value} {l : List Value} : OwnFrom K (fun (_ : β) W => Blk W B (v :: l)) := fun _ W W' row hs hg hr =>
  hs.same hg.size (hg.block B hs.lt (fun e => by
    obtain ⟨_, o, ho, hc⟩ := hr _ e.symm
    obtain ⟨o', ho', hc'⟩ := cells_of_cell (hs.cell 0)
    simp only at ho'
    rw [ho] at ho'
    cases ho'
    rw [hc] at hc'
    cases hc'))
theorem Marks.ownFrom {β : Type} {K B : Nat} {Ds : List Nat} (h : ∀ D ∈ Ds, D < K) : OwnFrom K (fun (_ : β) W => Marks B Ds W) := fun _ W W' row hs hg hr =>
  ⟨hs.nodup, hs.beyond, fun D hD => (hg.block D (hs.lt D hD) (fun e => by have := (hr _ e.symm).1; have := h D hD; omega)).trans (hs.blk D hD)⟩
end Go.Proofs.YtkcfcmigcphjlaaGreat
