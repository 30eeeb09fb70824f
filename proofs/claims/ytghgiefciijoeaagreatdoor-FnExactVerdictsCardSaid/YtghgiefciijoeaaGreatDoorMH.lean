/- readClock. Blocks known whole; the methods greater, lesser, leq, sum of a clock. leq, sum, list. readPair. ClockLeq, Beside. -/
import Derived.Test.YtghgiefciijoeaaGreatDoorMA
import Derived.BigRegion
import Derived.Deep.RegionWith
import Derived.Deep.RegionHeld3

namespace Go.Proofs.YtghgiefciijoeaaGreatDoor
open Go.RowKit
set_option linter.unusedVariables false
def cv (xs : List Int) : Value := .agg #[.int .i64 xs.length, .int .i64 (xs.getD 0 0), .int .i64 (xs.getD 1 0), .int .i64 (xs.getD 2 0), .int .i64 (xs.getD 3 0)]
def cvOr (xs : List Int) : Value := if okB xs = true then cv xs else .agg #[.int .i64 0, .int .i64 0, .int .i64 0, .int .i64 0, .int .i64 0]
theorem cvOr_yes {xs : List Int} (h : okB xs = true) : cvOr xs = cv xs := if_pos h
theorem cvOr_no {xs : List Int} (h : okB xs = false) : cvOr xs = .agg #[.int .i64 0, .int .i64 0, .int .i64 0, .int .i64 0, .int .i64 0] := if_neg (by simp [h])
theorem ret_clk {xs : List Int} {v : Value} {b : Bool} (hv : cvOr xs = v) (hb : okB xs = b) : Ending.returned (.tuple #[v, .bool b]) = .returned (.tuple #[cvOr xs, .bool (okB xs)]) := by rw [hv, hb]
def pad (n : Nat) (ys : List Int) : List Int := [(n : Int), ys.getD 0 0, ys.getD 1 0, ys.getD 2 0, ys.getD 3 0]
theorem pad_set (xs : List Int) (n k : Nat) (hk : k < xs.length) (h4 : xs.length ≤ 4) : ((pad n (xs.take k)).map (Value.int .i64)).set (1 + k) (.int .i64 (xs.getD k 0)) = (pad n (xs.take (k + 1))).map (Value.int .i64) := by
 match xs, k, hk, h4 with
 | [a], 0, _, _ => rfl
 | [a, b], 0, _, _ => rfl
 | [a, b], 1, _, _ => rfl
 | [a, b, c], 0, _, _ => rfl
 | [a, b, c], 1, _, _ => rfl
 | [a, b, c], 2, _, _ => rfl
 | [a, b, c, d], 0, _, _ => rfl
 | [a, b, c, d], 1, _, _ => rfl
 | [a, b, c, d], 2, _, _ => rfl
 | [a, b, c, d], 3, _, _ => rfl
 | a :: b :: c :: d :: e :: r, k, _, h => simp at h
 | [], k, h, _ => simp at h
 | [a], k + 1, h, _ => simp at h
 | [a, b], k + 2, h, _ => simp at h; omega
 | [a, b, c], k + 3, h, _ => simp at h; omega
 | [a, b, c, d], k + 4, h, _ => simp at h; omega
set_option maxHeartbeats 400000 in
theorem readClock_len (a : Option Addr) (n cap : Nat) (w : World) (hn : n ≤ 9223372036854775807) (h : n < 1 ∨ 4 < n) :
  Calls Tryz.prog 130 #[.slice a n cap] w fun e w' => e = .returned (.tuple #[.agg #[.int .i64 0, .int .i64 0, .int .i64 0, .int .i64 0, .int .i64 0], .bool false]) ∧ Below w.heap.size w w' := by
 rcases h with h | h
 ·go_enter Tryz.func130, Tryz.ntmps130
  go_wp2
  exact bodyPost_ret (v := .tuple #[.agg #[.int .i64 0, .int .i64 0, .int .i64 0, .int .i64 0, .int .i64 0], .bool false]) (by simp [results, Tryz.results130, go_sem]) rfl ⟨rfl, (Below.refl _ _).alloc (Nat.le_refl _) _⟩
 ·have h' : ¬ n < 1 := by omega
  go_enter Tryz.func130, Tryz.ntmps130
  go_wp2
  exact bodyPost_ret (v := .tuple #[.agg #[.int .i64 0, .int .i64 0, .int .i64 0, .int .i64 0, .int .i64 0], .bool false]) (by simp [results, Tryz.results130, go_sem]) rfl ⟨rfl, (Below.refl _ _).alloc (Nat.le_refl _) _⟩
set_option maxHeartbeats 800000 in
theorem readClock_in (b off cap n : Nat) (xs : List Int) (w : World) (hn : xs.length = n) (h1 : 1 ≤ n) (h4 : n ≤ 4) (hb : b < w.heap.size)
  (hc : ∀ i, i < n → w.cell? ⟨b, off + i, none⟩ = some (.int .i64 (xs.getD i 0))) :
  Calls Tryz.prog 130 #[.slice (some ⟨b, off, none⟩) n cap] w fun e w' =>
   e = .returned (.tuple #[cvOr xs, .bool (okB xs)]) ∧ Below w.heap.size w w' := by
 have HN := Lib.hid hn
 clear hn
 go_enter Tryz.func130, Tryz.ntmps130
 go_wp2
 have hown0 : ((w.alloc (.cells #[.int .i64 0, .int .i64 0, .int .i64 0, .int .i64 0, .int .i64 0] 71)).alloc (.cells #[.int .i64 n, .int .i64 0, .int .i64 0, .int .i64 0, .int .i64 0] 71)).ownsRow (w.heap.size + 1) 71 5 (.slice (some ⟨w.heap.size + 1, 0, none⟩) 1 1) 1 ((pad n (xs.take 0)).map (Value.int .i64)) := by
  have := World.ownsRow_lit (size := 5) (e := 71) (base := w.heap.size + 1) (w.alloc (.cells #[.int .i64 0, .int .i64 0, .int .i64 0, .int .i64 0, .int .i64 0] 71)) #[.int .i64 n, .int .i64 0, .int .i64 0, .int .i64 0, .int .i64 0] 1 (by simp) (by unfold maxLen; omega) (by simp)
  simpa [pad] using this
 have hbel0 : Below (w.heap.size + 1) (w.alloc (.cells #[.int .i64 0, .int .i64 0, .int .i64 0, .int .i64 0, .int .i64 0] 71)) ((w.alloc (.cells #[.int .i64 0, .int .i64 0, .int .i64 0, .int .i64 0, .int .i64 0] 71)).alloc (.cells #[.int .i64 n, .int .i64 0, .int .i64 0, .int .i64 0, .int .i64 0] 71)) := (Below.refl _ _).alloc (by simp) _
 have hfirst : Hid (Below w.heap.size w (w.alloc (.cells #[.int .i64 0, .int .i64 0, .int .i64 0, .int .i64 0, .int .i64 0] 71))) := (Below.refl _ _).alloc (by simp) _
 have hcell0 : Hid (∀ j, (w.alloc (.cells #[.int .i64 0, .int .i64 0, .int .i64 0, .int .i64 0, .int .i64 0] 71)).cell? ⟨w.heap.size, j, none⟩ = ((pad 0 []).map (Value.int .i64))[j]?) := by
  intro j
  rw [World.cell?_alloc_new]
  simp [pad]
 have hfroz0 : Hid (∀ j, (w.alloc (.cells #[.int .i64 0, .int .i64 0, .int .i64 0, .int .i64 0, .int .i64 0] 71)).frozen? ⟨w.heap.size, j, none⟩ = false) := by
  intro j
  simp
 have H0 := Lib.hid hown0
 have H2 := Lib.hid hbel0
 clear hown0 hbel0
 go_loopw [20] (fun i wr => ∃ k : Nat, k ≤ n ∧ i = .int .i64 k ∧ Hid ((xs.take k).all good = true) ∧
   Hid (wr.ownsRow (w.heap.size + 1) 71 5 (.slice (some ⟨w.heap.size + 1, 0, none⟩) 1 1) 1 ((pad n (xs.take k)).map (Value.int .i64))) ∧
   Hid (Below (w.heap.size + 1) (w.alloc (.cells #[.int .i64 0, .int .i64 0, .int .i64 0, .int .i64 0, .int .i64 0] 71)) wr)) (fun i _ => n - (intOf i).toNat)
 case atStart => exact ⟨0, Nat.zero_le _, rfl, by simp [Hid], H0, H2⟩
 case round =>
  obtain ⟨k, hk, rfl, hg, ho, hbel⟩ := hrel
  clear H0 H2
  have hbel' : Below w.heap.size w wr := hfirst.out.trans (hbel.out.mono (by omega))
  by_cases hlt : k < n
  ·have hc1 : wr.cell? ⟨b, off + k, none⟩ = some (.int .i64 (xs.getD k 0)) := (hbel'.cell (p := ⟨b, off + k, none⟩) hb).trans (hc k hlt)
   clear hc hbel'
   obtain ⟨x, hx⟩ : ∃ x, xs.getD k 0 = x := ⟨_, rfl⟩
   rw [hx] at hc1
   have HX := Lib.hid hx
   clear hx
   by_cases hx0 : 0 ≤ x
   ·by_cases hx1 : x ≤ 100000
    ·have hf := ho.out.frozenAt (1 + k)
     have hcc : ∃ z, wr.cell? ⟨w.heap.size + 1, 1 + k, none⟩ = some z := by
      refine ⟨_, (ho.out.cellAt (1 + k) (by omega)).trans (List.getElem?_eq_getElem (by simp [pad]; omega))⟩
     obtain ⟨z, hz⟩ := hcc
     have hst := (ho.out.stored (1 + k) (.int .i64 x)).1
     rw [← HX.out, pad_set xs n k (by rw [HN.out]; exact hlt) (by rw [HN.out]; exact h4), HX.out] at hst
     have HS := Lib.hid hst
     clear hst
     go_wp2
     go_roundw
     case rel => exact ⟨k + 1, by omega, by go_num, good_step xs k (by rw [HN.out]; omega) hg.out (by rw [HX.out]; exact hx0) (by rw [HX.out]; exact hx1), HS.out, hbel.out.setCell (by simp) _⟩
     case measure => simp [intOf]; omega
    ·have hno := okB_bad xs k (by rw [HN.out]; omega) (.inr (by rw [HX.out]; omega))
     have r0 : ∀ j, wr.cell? ⟨w.heap.size, j, none⟩ = ((pad 0 []).map (Value.int .i64))[j]? := fun j => (hbel.out.cell (p := ⟨w.heap.size, j, none⟩) (by simp)).trans (hcell0.out j)
     have rf : ∀ j, wr.frozen? ⟨w.heap.size, j, none⟩ = false := fun j => (hbel.out.frozen (p := ⟨w.heap.size, j, none⟩) (by simp)).trans (hfroz0.out j)
     have q0 : wr.cell? ⟨w.heap.size, 0, none⟩ = some (.int .i64 0) := r0 0
     have q1 : wr.cell? ⟨w.heap.size, 1, none⟩ = some (.int .i64 0) := r0 1
     have q2 : wr.cell? ⟨w.heap.size, 2, none⟩ = some (.int .i64 0) := r0 2
     have q3 : wr.cell? ⟨w.heap.size, 3, none⟩ = some (.int .i64 0) := r0 3
     have q4 : wr.cell? ⟨w.heap.size, 4, none⟩ = some (.int .i64 0) := r0 4
     clear r0
     have hB := hfirst.out.trans (hbel.out.mono (B' := w.heap.size) (by omega))
     have HNO := Lib.hid hno
     have HB := Lib.hid hB
     clear hno hB
     go_wp2
     exact bodyPost_ret (v := .tuple #[.agg #[.int .i64 0, .int .i64 0, .int .i64 0, .int .i64 0, .int .i64 0], .bool false]) (by simp [results, Tryz.results130, go_sem, q0, q1, q2, q3, q4]) rfl ⟨ret_clk (cvOr_no HNO.out) HNO.out, ((((HB.out.setCell (by simp) _).setCell (by simp) _).setCell (by simp) _).setCell (by simp) _).setCell (by simp) _⟩
   ·have hno := okB_bad xs k (by rw [HN.out]; omega) (.inl (by rw [HX.out]; omega))
    have r0 : ∀ j, wr.cell? ⟨w.heap.size, j, none⟩ = ((pad 0 []).map (Value.int .i64))[j]? := fun j => (hbel.out.cell (p := ⟨w.heap.size, j, none⟩) (by simp)).trans (hcell0.out j)
    have rf : ∀ j, wr.frozen? ⟨w.heap.size, j, none⟩ = false := fun j => (hbel.out.frozen (p := ⟨w.heap.size, j, none⟩) (by simp)).trans (hfroz0.out j)
    have q0 : wr.cell? ⟨w.heap.size, 0, none⟩ = some (.int .i64 0) := r0 0
    have q1 : wr.cell? ⟨w.heap.size, 1, none⟩ = some (.int .i64 0) := r0 1
    have q2 : wr.cell? ⟨w.heap.size, 2, none⟩ = some (.int .i64 0) := r0 2
    have q3 : wr.cell? ⟨w.heap.size, 3, none⟩ = some (.int .i64 0) := r0 3
    have q4 : wr.cell? ⟨w.heap.size, 4, none⟩ = some (.int .i64 0) := r0 4
    clear r0
    have hB := hfirst.out.trans (hbel.out.mono (B' := w.heap.size) (by omega))
    have HNO := Lib.hid hno
    have HB := Lib.hid hB
    clear hno hB
    go_wp2
    exact bodyPost_ret (v := .tuple #[.agg #[.int .i64 0, .int .i64 0, .int .i64 0, .int .i64 0, .int .i64 0], .bool false]) (by simp [results, Tryz.results130, go_sem, q0, q1, q2, q3, q4]) rfl ⟨ret_clk (cvOr_no HNO.out) HNO.out, ((((HB.out.setCell (by simp) _).setCell (by simp) _).setCell (by simp) _).setCell (by simp) _).setCell (by simp) _⟩
  ·have hkn : k = n := by omega
   have hyes := okB_all xs k (by rw [HN.out]; omega) (by omega) (by omega) hg.out
   subst hkn
   have ht : xs.take k = xs := by rw [List.take_of_length_le (by rw [HN.out]; omega)]
   have c0 : ∀ j, wr.cell? ⟨w.heap.size + 1, j, none⟩ = ((pad k (xs.take k)).map (Value.int .i64))[j]? ∨ 5 ≤ j := fun j => by
    by_cases hj : j < 5
    ·exact .inl (ho.out.cellAt j (by omega))
    ·exact .inr (by omega)
   rw [ht] at c0
   have p0 : wr.cell? ⟨w.heap.size + 1, 0, none⟩ = some (.int .i64 k) := (c0 0).resolve_right (by omega)
   have p1 : wr.cell? ⟨w.heap.size + 1, 1, none⟩ = some (.int .i64 (xs.getD 0 0)) := (c0 1).resolve_right (by omega)
   have p2 : wr.cell? ⟨w.heap.size + 1, 2, none⟩ = some (.int .i64 (xs.getD 1 0)) := (c0 2).resolve_right (by omega)
   have p3 : wr.cell? ⟨w.heap.size + 1, 3, none⟩ = some (.int .i64 (xs.getD 2 0)) := (c0 3).resolve_right (by omega)
   have p4 : wr.cell? ⟨w.heap.size + 1, 4, none⟩ = some (.int .i64 (xs.getD 3 0)) := (c0 4).resolve_right (by omega)
   have r0 : ∀ j, wr.cell? ⟨w.heap.size, j, none⟩ = ((pad 0 []).map (Value.int .i64))[j]? := fun j => (hbel.out.cell (p := ⟨w.heap.size, j, none⟩) (by simp)).trans (hcell0.out j)
   have rf : ∀ j, wr.frozen? ⟨w.heap.size, j, none⟩ = false := fun j => (hbel.out.frozen (p := ⟨w.heap.size, j, none⟩) (by simp)).trans (hfroz0.out j)
   have q0 : wr.cell? ⟨w.heap.size, 0, none⟩ = some (.int .i64 0) := r0 0
   have q1 : wr.cell? ⟨w.heap.size, 1, none⟩ = some (.int .i64 0) := r0 1
   have q2 : wr.cell? ⟨w.heap.size, 2, none⟩ = some (.int .i64 0) := r0 2
   have q3 : wr.cell? ⟨w.heap.size, 3, none⟩ = some (.int .i64 0) := r0 3
   have q4 : wr.cell? ⟨w.heap.size, 4, none⟩ = some (.int .i64 0) := r0 4
   clear r0 c0
   have hB := hfirst.out.trans (hbel.out.mono (B' := w.heap.size) (by omega))
   have hcv : cvOr xs = .agg #[.int .i64 k, .int .i64 (xs.getD 0 0), .int .i64 (xs.getD 1 0), .int .i64 (xs.getD 2 0), .int .i64 (xs.getD 3 0)] := by rw [cvOr_yes hyes, cv, HN.out]
   have HC := Lib.hid hcv
   have HNO := Lib.hid hyes
   have HB := Lib.hid hB
   clear hyes hB hcv ht hc
   generalize xs.getD 0 0 = x0 at *
   generalize xs.getD 1 0 = x1 at *
   generalize xs.getD 2 0 = x2 at *
   generalize xs.getD 3 0 = x3 at *
   go_wp2
   exact bodyPost_ret (v := .tuple #[.agg #[.int .i64 k, .int .i64 x0, .int .i64 x1, .int .i64 x2, .int .i64 x3], .bool true]) (by simp [results, Tryz.results130, go_sem, q0, q1, q2, q3, q4]) rfl ⟨ret_clk HC.out HNO.out, ((((HB.out.setCell (by simp) _).setCell (by simp) _).setCell (by simp) _).setCell (by simp) _).setCell (by simp) _⟩
def cn (xs : List Int) : Int := if okB xs = true then xs.length else 0
def cx (xs : List Int) (i : Nat) : Int := if okB xs = true then xs.getD i 0 else 0
theorem cvOr_eq (xs : List Int) : cvOr xs = .agg #[.int .i64 (cn xs), .int .i64 (cx xs 0), .int .i64 (cx xs 1), .int .i64 (cx xs 2), .int .i64 (cx xs 3)] := by
 unfold cvOr cn cx cv
 by_cases h : okB xs = true <;> simp [h]
theorem readClock_any (v : Value) (xs : List Int) (w : World) (h : Ints w v xs) :
  Calls Tryz.prog 130 #[v] w fun e w' => e = .returned (.tuple #[.agg #[.int .i64 (cn xs), .int .i64 (cx xs 0), .int .i64 (cx xs 1), .int .i64 (cx xs 2), .int .i64 (cx xs 3)], .bool (okB xs)]) ∧ Below w.heap.size w w' := by
 rw [← cvOr_eq]
 rcases h with ⟨a, cap, rfl, rfl⟩ | ⟨b, off, cap, rfl, h1, h2, h3, h4⟩
 ·exact readClock_len _ _ _ w (by omega) (by omega)
 ·by_cases hl : 1 ≤ xs.length ∧ xs.length ≤ 4
  ·exact readClock_in b off cap _ xs w rfl hl.1 hl.2 h1 h4
  ·have hno := okB_len xs (by omega)
   rw [cvOr_no hno, hno]
   exact readClock_len _ _ _ w (by unfold maxLen at h3; omega) (by omega)
end Go.Proofs.YtghgiefciijoeaaGreatDoor
namespace Go.Proofs.YtghgiefciijoeaaGreatDoor
open Go.RowKit
set_option linter.unusedVariables false
def mx (x y : Int) : Int := if x < y then y else x
def mxk (n c0 c1 c2 c3 d0 d1 d2 d3 : Int) (k : Nat) : List Int :=
 [n, if 0 < k then mx c0 d0 else c0, if 1 < k then mx c1 d1 else c1, if 2 < k then mx c2 d2 else c2, if 3 < k then mx c3 d3 else c3]
theorem mxk_step (n c0 c1 c2 c3 d0 d1 d2 d3 m : Int) (k : Nat) (hk : k < 4) : ∃ x y, (vi (mxk n c0 c1 c2 c3 d0 d1 d2 d3 k))[1 + k]? = some (.int .i64 x) ∧ (vi [m, d0, d1, d2, d3])[1 + k]? = some (.int .i64 y) ∧
  (vi (mxk n c0 c1 c2 c3 d0 d1 d2 d3 k)).set (1 + k) (.int .i64 (mx x y)) = vi (mxk n c0 c1 c2 c3 d0 d1 d2 d3 (k + 1)) := by
 match k, hk with
 | 0, _ => exact ⟨c0, d0, rfl, rfl, rfl⟩
 | 1, _ => exact ⟨c1, d1, rfl, rfl, rfl⟩
 | 2, _ => exact ⟨c2, d2, rfl, rfl, rfl⟩
 | 3, _ => exact ⟨c3, d3, rfl, rfl, rfl⟩
 | k + 4, h => omega
set_option maxHeartbeats 400000 in
theorem greater_any (n c0 c1 c2 c3 d0 d1 d2 d3 m : Int) (V : Value) (hV : V = .agg ((vi (mxk n c0 c1 c2 c3 d0 d1 d2 d3 n.toNat)).toArray)) (w : World) (h0 : 0 ≤ n) (h4 : n ≤ 4) :
  Calls Tryz.prog 153 #[.agg #[.int .i64 n, .int .i64 c0, .int .i64 c1, .int .i64 c2, .int .i64 c3], .agg #[.int .i64 m, .int .i64 d0, .int .i64 d1, .int .i64 d2, .int .i64 d3]] w fun e w' =>
   e = .returned V ∧ Below w.heap.size w w' := by
 have b1 : Blk (w.alloc (.cells #[.int .i64 n, .int .i64 c0, .int .i64 c1, .int .i64 c2, .int .i64 c3] 71)) w.heap.size (vi (mxk n c0 c1 c2 c3 d0 d1 d2 d3 0)) := by simpa [vi, mxk] using Blk.new w #[.int .i64 n, .int .i64 c0, .int .i64 c1, .int .i64 c2, .int .i64 c3] 71
 have b2 : Blk ((w.alloc (.cells #[.int .i64 n, .int .i64 c0, .int .i64 c1, .int .i64 c2, .int .i64 c3] 71)).alloc (.cells #[.int .i64 m, .int .i64 d0, .int .i64 d1, .int .i64 d2, .int .i64 d3] 71)) (w.heap.size + 1) (vi [m, d0, d1, d2, d3]) := by simpa [vi] using Blk.new (w.alloc (.cells #[.int .i64 n, .int .i64 c0, .int .i64 c1, .int .i64 c2, .int .i64 c3] 71)) #[.int .i64 m, .int .i64 d0, .int .i64 d1, .int .i64 d2, .int .i64 d3] 71
 have b3 : Blk (((w.alloc (.cells #[.int .i64 n, .int .i64 c0, .int .i64 c1, .int .i64 c2, .int .i64 c3] 71)).alloc (.cells #[.int .i64 m, .int .i64 d0, .int .i64 d1, .int .i64 d2, .int .i64 d3] 71)).alloc (.cells #[.int .i64 0, .int .i64 0, .int .i64 0, .int .i64 0, .int .i64 0] 71)) (w.heap.size + 1 + 1) (vi [0, 0, 0, 0, 0]) := by simpa [vi] using Blk.new ((w.alloc (.cells #[.int .i64 n, .int .i64 c0, .int .i64 c1, .int .i64 c2, .int .i64 c3] 71)).alloc (.cells #[.int .i64 m, .int .i64 d0, .int .i64 d1, .int .i64 d2, .int .i64 d3] 71)) #[.int .i64 0, .int .i64 0, .int .i64 0, .int .i64 0, .int .i64 0] 71
 have B1 := Lib.hid ((b1.alloc (.cells #[.int .i64 m, .int .i64 d0, .int .i64 d1, .int .i64 d2, .int .i64 d3] 71)).alloc (.cells #[.int .i64 0, .int .i64 0, .int .i64 0, .int .i64 0, .int .i64 0] 71))
 have B2 := Lib.hid (b2.alloc (.cells #[.int .i64 0, .int .i64 0, .int .i64 0, .int .i64 0, .int .i64 0] 71))
 have B3 := Lib.hid b3
 have bb := Lib.hid ((((Below.refl w.heap.size w).alloc (Nat.le_refl _) (.cells #[.int .i64 n, .int .i64 c0, .int .i64 c1, .int .i64 c2, .int .i64 c3] 71)).alloc (by simp) (.cells #[.int .i64 m, .int .i64 d0, .int .i64 d1, .int .i64 d2, .int .i64 d3] 71)).alloc (by simp; omega) (.cells #[.int .i64 0, .int .i64 0, .int .i64 0, .int .i64 0, .int .i64 0] 71))
 have HV0 := Lib.hid hV
 clear b1 b2 b3 hV
 go_enter Tryz.func153, Tryz.ntmps153
 go_wp2
 go_loopw [8] (fun i wr => ∃ k : Nat, (k : Int) ≤ n ∧ i = .int .i64 k ∧ Hid (Blk wr w.heap.size (vi (mxk n c0 c1 c2 c3 d0 d1 d2 d3 k))) ∧ Hid (Blk wr (w.heap.size + 1) (vi [m, d0, d1, d2, d3])) ∧ Hid (Blk wr (w.heap.size + 1 + 1) (vi [0, 0, 0, 0, 0])) ∧ Hid (Below w.heap.size w wr)) (fun i _ => n.toNat - (intOf i).toNat)
 case atStart => exact ⟨0, h0, rfl, B1, B2, B3, bb⟩
 case round =>
  obtain ⟨k, hk, rfl, g1, g2, g3, gb⟩ := hrel
  clear B1 B2 B3 bb
  by_cases hlt : (k : Int) < n
  ·obtain ⟨x, y, hx, hy, hst⟩ := mxk_step n c0 c1 c2 c3 d0 d1 d2 d3 m k (by omega)
   have q1 := (g1.out.cell (1 + k)).trans hx
   have q2 := (g2.out.cell (1 + k)).trans hy
   have q3 := g1.out.free (1 + k)
   have G1 : Blk (wr.setCell ⟨w.heap.size, 1 + k, none⟩ (.int .i64 (if x < y then y else x))) w.heap.size (vi (mxk n c0 c1 c2 c3 d0 d1 d2 d3 (k + 1))) := by
    have := g1.out.set (j := 1 + k) (by simp [vi, mxk]; omega) (.int .i64 (mx x y))
    rw [hst] at this
    exact this
   have H1 := Lib.hid G1
   clear hx hy hst G1
   have k0 : (0 : Int) ≤ k := by omega
   have k4 : (k : Int) < 4 := by omega
   go_wp2
   go_region
   all_goals go_wp2
   all_goals go_roundw
   case rel => exact ⟨k + 1, by omega, by go_num, H1.out.drew, (g2.out.other (p := ⟨w.heap.size, 1 + k, none⟩) (by simp) _).drew, (g3.out.other (p := ⟨w.heap.size, 1 + k, none⟩) (by simp; omega) _).drew, (gb.out.setCell (p := ⟨w.heap.size, 1 + k, none⟩) (Nat.le_refl _) _).drew⟩
   case measure => simp [intOf]; omega
  ·have hkn : n = k := by omega
   subst hkn
   have q0 := g1.out.cell 0
   have q1 := g1.out.cell 1
   have q2 := g1.out.cell 2
   have q3 := g1.out.cell 3
   have q4 := g1.out.cell 4
   have r0 := g3.out.cell 0
   have r1 := g3.out.cell 1
   have r2 := g3.out.cell 2
   have r3 := g3.out.cell 3
   have r4 := g3.out.cell 4
   have rf := g3.out.free
   have ek : ((k : Int)).toNat = k := by simp
   have EK := Lib.hid ek
   clear ek
   simp only [vi, mxk, List.map_cons, List.map_nil, List.getElem?_cons_zero, List.getElem?_cons_succ] at q0 q1 q2 q3 q4 r0 r1 r2 r3 r4
   have hv : Hid (.agg ((vi (mxk k c0 c1 c2 c3 d0 d1 d2 d3 k)).toArray) = Value.agg #[.int .i64 k, .int .i64 (if 0 < k then mx c0 d0 else c0), .int .i64 (if 1 < k then mx c1 d1 else c1), .int .i64 (if 2 < k then mx c2 d2 else c2), .int .i64 (if 3 < k then mx c3 d3 else c3)]) := rfl
   have HV : Hid (V = Value.agg #[.int .i64 k, .int .i64 (if 0 < k then mx c0 d0 else c0), .int .i64 (if 1 < k then mx c1 d1 else c1), .int .i64 (if 2 < k then mx c2 d2 else c2), .int .i64 (if 3 < k then mx c3 d3 else c3)]) := by
    show V = _
    rw [HV0.out, EK.out]
    exact hv.out
   clear hv HV0
   generalize (if 0 < k then mx c0 d0 else c0) = x0 at *
   generalize (if 1 < k then mx c1 d1 else c1) = x1 at *
   generalize (if 2 < k then mx c2 d2 else c2) = x2 at *
   generalize (if 3 < k then mx c3 d3 else c3) = x3 at *
   go_wp2
   exact bodyPost_ret (v := .agg #[.int .i64 k, .int .i64 x0, .int .i64 x1, .int .i64 x2, .int .i64 x3]) (by simp [results, Tryz.results153, go_sem, r0, r1, r2, r3, r4]) rfl ⟨by rw [HV.out], ((((gb.out.setCell (by simp; omega) _).setCell (by simp; omega) _).setCell (by simp; omega) _).setCell (by simp; omega) _).setCell (by simp; omega) _⟩
end Go.Proofs.YtghgiefciijoeaaGreatDoor
namespace Go.Proofs.YtghgiefciijoeaaGreatDoor
open Go.RowKit
set_option linter.unusedVariables false
theorem part40 (a b c d : Int) (w : World) : (part 3 #[.int .i64 a, .int .i64 b, .int .i64 c, .int .i64 d] 0).run Tryz.prog w = .ok (.int .i64 a) w := by kernel_rfl
theorem part41 (a b c d : Int) (w : World) : (part 3 #[.int .i64 a, .int .i64 b, .int .i64 c, .int .i64 d] 1).run Tryz.prog w = .ok (.int .i64 b) w := by kernel_rfl
theorem part42 (a b c d : Int) (w : World) : (part 3 #[.int .i64 a, .int .i64 b, .int .i64 c, .int .i64 d] 2).run Tryz.prog w = .ok (.int .i64 c) w := by kernel_rfl
theorem part43 (a b c d : Int) (w : World) : (part 3 #[.int .i64 a, .int .i64 b, .int .i64 c, .int .i64 d] 3).run Tryz.prog w = .ok (.int .i64 d) w := by kernel_rfl
theorem run_eqarr (d : Nat) (a0 a1 a2 a3 b0 b1 b2 b3 : Int) (w : World) : (Op.equalIn (d + 2) 69 (.agg #[.int .i64 a0, .int .i64 a1, .int .i64 a2, .int .i64 a3]) (.agg #[.int .i64 b0, .int .i64 b1, .int .i64 b2, .int .i64 b3])).run Tryz.prog w = .ok (eqB [a0, a1, a2, a3] [b0, b1, b2, b3]) w := by
 have e (x y : Int) : (Op.equalIn (d + 1) 3 (.int .i64 x) (.int .i64 y)).run Tryz.prog w = .ok (x == y) w := run_equalIn_int w d 3 .i64 .i64 x y Tryz.underlying3
 rw [Op.equalIn]
 simp [run_underlying Tryz.underlying69, List.range', part40, part41, part42, part43, e, eqB]
 by_cases h0 : a0 = b0 <;> by_cases h1 : a1 = b1 <;> by_cases h2 : a2 = b2 <;> by_cases h3 : a3 = b3 <;> simp [h0, h1, h2, h3]
theorem run_counts (n a b c d : Int) (w : World) : (Instr.field 71 (.agg #[.int .i64 n, .int .i64 a, .int .i64 b, .int .i64 c, .int .i64 d]) 1).run Tryz.prog w = .ok (.agg #[.int .i64 a, .int .i64 b, .int .i64 c, .int .i64 d]) w := by kernel_rfl
set_option maxHeartbeats 400000 in
theorem leq_any (n c0 c1 c2 c3 d0 d1 d2 d3 m : Int) (w : World) (h0 : 0 ≤ n) (h4 : n ≤ 4) :
  Calls Tryz.prog 131 #[.agg #[.int .i64 n, .int .i64 c0, .int .i64 c1, .int .i64 c2, .int .i64 c3], .agg #[.int .i64 m, .int .i64 d0, .int .i64 d1, .int .i64 d2, .int .i64 d3]] w fun e w' =>
   e = .returned (.bool (eqB ((mxk n c0 c1 c2 c3 d0 d1 d2 d3 n.toNat).drop 1) [d0, d1, d2, d3])) ∧ Below w.heap.size w w' := by
 obtain ⟨x0, x1, x2, x3, hm⟩ : ∃ x0 x1 x2 x3, mxk n c0 c1 c2 c3 d0 d1 d2 d3 n.toNat = [n, x0, x1, x2, x3] := ⟨_, _, _, _, rfl⟩
 have hg : ∀ w, Calls Tryz.prog 153 #[.agg #[.int .i64 n, .int .i64 c0, .int .i64 c1, .int .i64 c2, .int .i64 c3], .agg #[.int .i64 m, .int .i64 d0, .int .i64 d1, .int .i64 d2, .int .i64 d3]] w fun e w' =>
   e = .returned (.agg #[.int .i64 n, .int .i64 x0, .int .i64 x1, .int .i64 x2, .int .i64 x3]) ∧ Below w.heap.size w w' := fun w => greater_any n c0 c1 c2 c3 d0 d1 d2 d3 m _ (by rw [hm]; rfl) w h0 h4
 rw [hm]
 have HG := Lib.hid hg
 clear hg hm
 have rc := run_counts n x0 x1 x2 x3
 have rq := run_eqarr 9998 x0 x1 x2 x3 d0 d1 d2 d3
 have hr : Hid (eqB (List.drop 1 [n, x0, x1, x2, x3]) [d0, d1, d2, d3] = eqB [x0, x1, x2, x3] [d0, d1, d2, d3]) := rfl
 have bb := Lib.hid (((Below.refl w.heap.size w).alloc (Nat.le_refl _) (.cells #[.int .i64 n, .int .i64 c0, .int .i64 c1, .int .i64 c2, .int .i64 c3] 71)).alloc (by simp) (.cells #[.int .i64 m, .int .i64 d0, .int .i64 d1, .int .i64 d2, .int .i64 d3] 71))
 go_enter Tryz.func131, Tryz.ntmps131
 go_wp2_with fail
 go_region_with (go_at_call 153; refine (HG.out _).mono ?_; rintro e w' ⟨rfl, hb⟩; obtain ⟨hc, hf⟩ := bcell hb; have HB := Lib.hid (bb.out.drew.trans (hb.mono (by simp; omega))); clear hb)
 all_goals go_wp2
 all_goals go_ret
 all_goals (refine ⟨ret_bool hr.out.symm, ?_⟩)
 all_goals exact HB.out
end Go.Proofs.YtghgiefciijoeaaGreatDoor
namespace Go.Proofs.YtghgiefciijoeaaGreatDoor
open Go.RowKit
set_option linter.unusedVariables false
abbrev zeroClk : Value := .agg #[.int .i64 0, .int .i64 0, .int .i64 0, .int .i64 0, .int .i64 0]
def ClkIs (xs : List Int) (n c0 c1 c2 c3 : Int) : Prop := n = cn xs ∧ c0 = cx xs 0 ∧ c1 = cx xs 1 ∧ c2 = cx xs 2 ∧ c3 = cx xs 3
theorem Blk.five {w : World} {B : Nat} {a b c d e : Int} (h : Blk w B (vi [a, b, c, d, e])) : w.cell? ⟨B, 0, none⟩ = some (.int .i64 a) ∧ w.cell? ⟨B, 1, none⟩ = some (.int .i64 b) ∧ w.cell? ⟨B, 2, none⟩ = some (.int .i64 c) ∧ w.cell? ⟨B, 3, none⟩ = some (.int .i64 d) ∧ w.cell? ⟨B, 4, none⟩ = some (.int .i64 e) ∧ (∀ j, w.frozen? ⟨B, j, none⟩ = false) ∧ B < w.heap.size :=
 ⟨h.cell 0, h.cell 1, h.cell 2, h.cell 3, h.cell 4, h.free, h.lt⟩
theorem Blk.clk (w : World) (a b c d e : Int) : Blk (w.alloc (.cells #[.int .i64 a, .int .i64 b, .int .i64 c, .int .i64 d, .int .i64 e] 71)) w.heap.size (vi [a, b, c, d, e]) := by
 simpa [vi] using Blk.new w #[.int .i64 a, .int .i64 b, .int .i64 c, .int .i64 d, .int .i64 e] 71
set_option maxHeartbeats 800000 in
theorem readPair_any (v v' : Value) (xs ys : List Int) (w : World) (h : Ints w v xs) (h' : Ints w v' ys) (n c0 c1 c2 c3 m d0 d1 d2 d3 : Int) (hc : ClkIs xs n c0 c1 c2 c3) (hd : ClkIs ys m d0 d1 d2 d3) (hb : bothB xs ys = true) :
  Calls Tryz.prog 156 #[v, v'] w fun e w' => e = .returned (.tuple #[.agg #[.int .i64 n, .int .i64 c0, .int .i64 c1, .int .i64 c2, .int .i64 c3], .agg #[.int .i64 m, .int .i64 d0, .int .i64 d1, .int .i64 d2, .int .i64 d3], .bool true]) ∧ Below w.heap.size w w' := by
 simp only [bothB, Bool.and_eq_true, decide_eq_true_eq] at hb
 obtain ⟨⟨o1, o2⟩, ol⟩ := hb
 have r1 := fun w1 h => readClock_any v xs w1 h
 have r2 := fun w1 h => readClock_any v' ys w1 h
 obtain ⟨rfl, rfl, rfl, rfl, rfl⟩ := hc
 obtain ⟨rfl, rfl, rfl, rfl, rfl⟩ := hd
 simp only [o1] at r1
 simp only [o2] at r2
 have R1 := Lib.hid r1
 have R2 := Lib.hid r2
 have HI := Lib.hid h
 have HI' := Lib.hid h'
 have en : cn xs = cn ys := by simp [cn, o1, o2, ol]
 clear r1 r2 h h' o1 o2 ol
 have e1 : (cn xs == cn ys) = true := by simp [en]
 have e2 : (cn xs != cn ys) = false := by simp [en]
 clear en
 generalize cn xs = n at *
 generalize cx xs 0 = c0 at *
 generalize cx xs 1 = c1 at *
 generalize cx xs 2 = c2 at *
 generalize cx xs 3 = c3 at *
 generalize cn ys = m at *
 generalize cx ys 0 = d0 at *
 generalize cx ys 1 = d1 at *
 generalize cx ys 2 = d2 at *
 generalize cx ys 3 = d3 at *
 have B0 := Lib.hid (((Below.refl w.heap.size w).alloc (Nat.le_refl _) (.cells #[.int .i64 0, .int .i64 0, .int .i64 0, .int .i64 0, .int .i64 0] 71)).alloc (by simp) (.cells #[.int .i64 0, .int .i64 0, .int .i64 0, .int .i64 0, .int .i64 0] 71))
 have Z0 : Hid (Blk ((w.alloc (.cells #[.int .i64 0, .int .i64 0, .int .i64 0, .int .i64 0, .int .i64 0] 71)).alloc (.cells #[.int .i64 0, .int .i64 0, .int .i64 0, .int .i64 0, .int .i64 0] 71)) w.heap.size (vi [0, 0, 0, 0, 0])) := (Blk.clk w 0 0 0 0 0).alloc _
 have Z1 : Hid (Blk ((w.alloc (.cells #[.int .i64 0, .int .i64 0, .int .i64 0, .int .i64 0, .int .i64 0] 71)).alloc (.cells #[.int .i64 0, .int .i64 0, .int .i64 0, .int .i64 0, .int .i64 0] 71)) (w.heap.size + 1) (vi [0, 0, 0, 0, 0])) := by
  have := Blk.clk (w.alloc (.cells #[.int .i64 0, .int .i64 0, .int .i64 0, .int .i64 0, .int .i64 0] 71)) 0 0 0 0 0
  simpa [Hid] using this
 go_enter Tryz.func156, Tryz.ntmps156
 go_wp2_with fail
 refine (R1.out _ (HI.out.below (B := 0) B0.out)).mono ?_
 rintro e w1 ⟨rfl, hb1⟩
 have Y0 := Lib.hid ((Z0.out.below hb1 (by simp; omega)).alloc (.cells #[.int .i64 n, .int .i64 c0, .int .i64 c1, .int .i64 c2, .int .i64 c3] 71))
 have Y1 := Lib.hid ((Z1.out.below hb1 (by simp)).alloc (.cells #[.int .i64 n, .int .i64 c0, .int .i64 c1, .int .i64 c2, .int .i64 c3] 71))
 have K1 := Lib.hid (Blk.clk w1 n c0 c1 c2 c3)
 have B1 := Lib.hid (B0.out.trans (hb1.mono B0.out.size))
 clear hb1
 go_wp2_with fail
 refine (R2.out _ (HI'.out.below (B := 0) (B1.out.alloc B1.out.size _))).mono ?_
 rintro e w2 ⟨rfl, hb2⟩
 obtain ⟨y00, y01, y02, y03, y04, y0f, y0l⟩ := (Y0.out.below hb2 Y0.out.lt).five
 obtain ⟨y10, y11, y12, y13, y14, y1f, y1l⟩ := (Y1.out.below hb2 Y1.out.lt).five
 obtain ⟨k10, k11, k12, k13, k14, k1f, k1l⟩ := (K1.out.below hb2 K1.out.lt).five
 have B2 := Lib.hid ((B1.out.alloc B1.out.size _).trans (hb2.mono (B1.out.alloc B1.out.size (.cells #[.int .i64 n, .int .i64 c0, .int .i64 c1, .int .i64 c2, .int .i64 c3] 71)).size))
 clear hb2 Y0 Y1 Z0 Z1 K1 R1 R2 HI HI' B0
 go_wp2
 go_region
 all_goals go_wp2
 have hB : Below w.heap.size w w2 := B2.out
 have hS := hB.size
 refine bodyPost_ret (v := .tuple #[.agg #[.int .i64 n, .int .i64 c0, .int .i64 c1, .int .i64 c2, .int .i64 c3], .agg #[.int .i64 m, .int .i64 d0, .int .i64 d1, .int .i64 d2, .int .i64 d3], .bool true])
  (by simp [results, Tryz.results156, go_sem, y00, y01, y02, y03, y04, y10, y11, y12, y13, y14, y0l, y1l]) rfl
  ⟨rfl, ?_⟩
 with_reducible refine Below.drew ?_
 with_reducible refine Below.alloc ?_ ?_ _
 ·repeat (first | (with_reducible exact hB) | (with_reducible refine Below.setCell ?_ ?_ _))
  all_goals simp
 ·simpa using hS
set_option maxHeartbeats 800000 in
theorem readPair_no (v v' : Value) (xs ys : List Int) (w : World) (h : Ints w v xs) (h' : Ints w v' ys) (n c0 c1 c2 c3 m d0 d1 d2 d3 : Int) (hc : ClkIs xs n c0 c1 c2 c3) (hd : ClkIs ys m d0 d1 d2 d3) (hb : bothB xs ys = false) :
  Calls Tryz.prog 156 #[v, v'] w fun e w' => e = .returned (.tuple #[.agg #[.int .i64 0, .int .i64 0, .int .i64 0, .int .i64 0, .int .i64 0], .agg #[.int .i64 0, .int .i64 0, .int .i64 0, .int .i64 0, .int .i64 0], .bool false]) ∧ Below w.heap.size w w' := by
 have r1 := fun w1 h => readClock_any v xs w1 h
 have r2 := fun w1 h => readClock_any v' ys w1 h
 obtain ⟨rfl, rfl, rfl, rfl, rfl⟩ := hc
 obtain ⟨rfl, rfl, rfl, rfl, rfl⟩ := hd
 have hcase : okB xs = false ∨ (okB xs = true ∧ okB ys = false) ∨ (okB xs = true ∧ okB ys = true ∧ ¬ cn xs = cn ys) := by
  cases o1 : okB xs
  ·exact .inl rfl
  ·cases o2 : okB ys
   ·exact .inr (.inl ⟨rfl, rfl⟩)
   ·refine .inr (.inr ⟨rfl, rfl, ?_⟩)
    simp only [bothB, o1, o2, Bool.and_self, Bool.true_and, decide_eq_false_iff_not] at hb
    simp [cn, o1, o2]
    omega
 have R1 := Lib.hid r1
 have R2 := Lib.hid r2
 have HI := Lib.hid h
 have HI' := Lib.hid h'
 clear r1 r2 h h' hb
 generalize cn xs = n at *
 generalize cx xs 0 = c0 at *
 generalize cx xs 1 = c1 at *
 generalize cx xs 2 = c2 at *
 generalize cx xs 3 = c3 at *
 generalize cn ys = m at *
 generalize cx ys 0 = d0 at *
 generalize cx ys 1 = d1 at *
 generalize cx ys 2 = d2 at *
 generalize cx ys 3 = d3 at *
 obtain ⟨o1, ho1⟩ : ∃ o, okB xs = o := ⟨_, rfl⟩
 obtain ⟨o2, ho2⟩ : ∃ o, okB ys = o := ⟨_, rfl⟩
 rw [ho1] at R1 hcase
 rw [ho2] at R2 hcase
 clear ho1 ho2
 have hq : (o1 = false) ∨ (o1 = true ∧ o2 = false) ∨ (o1 = true ∧ o2 = true ∧ (n == m) = false ∧ (n != m) = true) := by
  rcases hcase with h | h | h
  ·exact .inl h
  ·exact .inr (.inl h)
  ·exact .inr (.inr ⟨h.1, h.2.1, by simpa using h.2.2, by simpa using h.2.2⟩)
 clear hcase
 have B0 := Lib.hid (((Below.refl w.heap.size w).alloc (Nat.le_refl _) (.cells #[.int .i64 0, .int .i64 0, .int .i64 0, .int .i64 0, .int .i64 0] 71)).alloc (by simp) (.cells #[.int .i64 0, .int .i64 0, .int .i64 0, .int .i64 0, .int .i64 0] 71))
 have Z0 : Hid (Blk ((w.alloc (.cells #[.int .i64 0, .int .i64 0, .int .i64 0, .int .i64 0, .int .i64 0] 71)).alloc (.cells #[.int .i64 0, .int .i64 0, .int .i64 0, .int .i64 0, .int .i64 0] 71)) w.heap.size (vi [0, 0, 0, 0, 0])) := (Blk.clk w 0 0 0 0 0).alloc _
 have Z1 : Hid (Blk ((w.alloc (.cells #[.int .i64 0, .int .i64 0, .int .i64 0, .int .i64 0, .int .i64 0] 71)).alloc (.cells #[.int .i64 0, .int .i64 0, .int .i64 0, .int .i64 0, .int .i64 0] 71)) (w.heap.size + 1) (vi [0, 0, 0, 0, 0])) := by
  have := Blk.clk (w.alloc (.cells #[.int .i64 0, .int .i64 0, .int .i64 0, .int .i64 0, .int .i64 0] 71)) 0 0 0 0 0
  simpa [Hid] using this
 rcases hq with rfl | ⟨rfl, rfl⟩ | ⟨rfl, rfl, e1, e2⟩
 all_goals
  go_enter Tryz.func156, Tryz.ntmps156
  go_wp2_with fail
  refine (R1.out _ (HI.out.below (B := 0) B0.out)).mono ?_
  rintro e w1 ⟨rfl, hb1⟩
  have Y0 := Lib.hid ((Z0.out.below hb1 (by simp; omega)).alloc (.cells #[.int .i64 n, .int .i64 c0, .int .i64 c1, .int .i64 c2, .int .i64 c3] 71))
  have Y1 := Lib.hid ((Z1.out.below hb1 (by simp)).alloc (.cells #[.int .i64 n, .int .i64 c0, .int .i64 c1, .int .i64 c2, .int .i64 c3] 71))
  have K1 := Lib.hid (Blk.clk w1 n c0 c1 c2 c3)
  have B1 := Lib.hid (B0.out.trans (hb1.mono B0.out.size))
  clear hb1
  go_wp2_with fail
  refine (R2.out _ (HI'.out.below (B := 0) (B1.out.alloc B1.out.size _))).mono ?_
  rintro e w2 ⟨rfl, hb2⟩
  obtain ⟨y00, y01, y02, y03, y04, y0f, y0l⟩ := (Y0.out.below hb2 Y0.out.lt).five
  obtain ⟨y10, y11, y12, y13, y14, y1f, y1l⟩ := (Y1.out.below hb2 Y1.out.lt).five
  obtain ⟨k10, k11, k12, k13, k14, k1f, k1l⟩ := (K1.out.below hb2 K1.out.lt).five
  have B2 := Lib.hid ((B1.out.alloc B1.out.size _).trans (hb2.mono (B1.out.alloc B1.out.size (.cells #[.int .i64 n, .int .i64 c0, .int .i64 c1, .int .i64 c2, .int .i64 c3] 71)).size))
  clear hb2 Y0 Y1 Z0 Z1 K1 R1 R2 HI HI' B0
  go_wp2
  have hB : Below w.heap.size w w2 := B2.out
  have hS := hB.size
  refine bodyPost_ret (v := .tuple #[.agg #[.int .i64 0, .int .i64 0, .int .i64 0, .int .i64 0, .int .i64 0], .agg #[.int .i64 0, .int .i64 0, .int .i64 0, .int .i64 0, .int .i64 0], .bool false])
   (by simp [results, Tryz.results156, go_sem, y00, y01, y02, y03, y04, y10, y11, y12, y13, y14, y0l, y1l]) rfl
   ⟨rfl, ?_⟩
  with_reducible refine Below.alloc ?_ ?_ _
  ·repeat (first | (with_reducible exact hB) | (with_reducible refine Below.setCell ?_ ?_ _))
   all_goals simp
  ·simpa using hS
end Go.Proofs.YtghgiefciijoeaaGreatDoor
namespace Go.Proofs.YtghgiefciijoeaaGreatDoor
open Go.RowKit
set_option linter.unusedVariables false
theorem getD_out (xs : List Int) (i : Nat) (h : xs.length ≤ i) : xs.getD i 0 = 0 := by
 simp [List.getD, List.getElem?_eq_none h]
theorem mx_eq (x y : Int) : mx x y = y ↔ x ≤ y := by
 unfold mx; split <;> omega
theorem leq_math (xs ys : List Int) (hb : bothB xs ys = true) :
  eqB ((mxk (cn xs) (cx xs 0) (cx xs 1) (cx xs 2) (cx xs 3) (cx ys 0) (cx ys 1) (cx ys 2) (cx ys 3) (cn xs).toNat).drop 1) [cx ys 0, cx ys 1, cx ys 2, cx ys 3] = leqB xs ys := by
 simp only [bothB, Bool.and_eq_true, decide_eq_true_eq] at hb
 obtain ⟨⟨o1, o2⟩, ol⟩ := hb
 have k1 := (okB_iff xs).1 o1
 simp only [cn, cx, o1, o2, if_true, Int.toNat_natCast]
 rw [Bool.eq_iff_iff, leqB_iff]
 simp only [eqB, mxk, decide_eq_true_eq, List.drop_succ_cons, List.drop_zero, List.cons.injEq, and_true]
 have key : ∀ i, (if i < xs.length then mx (xs.getD i 0) (ys.getD i 0) else xs.getD i 0) = ys.getD i 0 ↔ (i < xs.length → xs.getD i 0 ≤ ys.getD i 0) := by
  intro i
  by_cases hi : i < xs.length
  ·rw [if_pos hi, mx_eq]; exact ⟨fun h _ => h, fun h => h hi⟩
  ·rw [if_neg hi, getD_out xs i (by omega), getD_out ys i (by omega)]; exact ⟨fun _ h => absurd h hi, fun _ => rfl⟩
 rw [key 0, key 1, key 2, key 3]
 constructor
 ·rintro ⟨h0, h1, h2, h3⟩ i hi
  match i with
  | 0 => exact h0 hi
  | 1 => exact h1 hi
  | 2 => exact h2 hi
  | 3 => exact h3 hi
  | i + 4 => omega
 ·intro h
  exact ⟨h 0, h 1, h 2, h 3⟩
theorem cn_range (xs : List Int) : 0 ≤ cn xs ∧ cn xs ≤ 4 := by
 unfold cn
 split
 ·rename_i h
  have := (okB_iff xs).1 h
  omega
 ·omega
set_option maxHeartbeats 800000 in
theorem ClockLeq_any (v v' : Value) (xs ys : List Int) (w : World) (h : Ints w v xs) (h' : Ints w v' ys) :
  Calls Tryz.prog 133 #[v, v'] w fun e w' => e = .returned (.bool (spLeq xs ys)) ∧ Below w.heap.size w w' := by
 cases hb : bothB xs ys with
 | false =>
  have HP := Lib.hid (readPair_no v v' xs ys w h h' _ _ _ _ _ _ _ _ _ _ ⟨rfl, rfl, rfl, rfl, rfl⟩ ⟨rfl, rfl, rfl, rfl, rfl⟩ hb)
  have HR := Lib.hid (show spLeq xs ys = false by simp [spLeq, hb])
  clear h h' hb
  go_enter Tryz.func133, Tryz.ntmps133
  go_wp2_with fail
  refine HP.out.mono ?_
  rintro e w1 ⟨rfl, hb1⟩
  have B1 := Lib.hid hb1
  clear hb1
  go_wp2
  go_ret
  refine ⟨ret_bool HR.out.symm, ?_⟩
  exact (B1.out.alloc B1.out.size _).alloc (by have := B1.out.size; simp; omega) _
 | true =>
  have HP := Lib.hid (readPair_any v v' xs ys w h h' _ _ _ _ _ _ _ _ _ _ ⟨rfl, rfl, rfl, rfl, rfl⟩ ⟨rfl, rfl, rfl, rfl, rfl⟩ hb)
  have HR := Lib.hid (show spLeq xs ys = leqB xs ys by simp [spLeq, hb])
  have hl := fun w => leq_any (cn xs) (cx xs 0) (cx xs 1) (cx xs 2) (cx xs 3) (cx ys 0) (cx ys 1) (cx ys 2) (cx ys 3) (cn ys) w (cn_range xs).1 (cn_range xs).2
  simp only [leq_math xs ys hb] at hl
  have HL := Lib.hid hl
  clear h h' hb hl
  generalize leqB xs ys = r at *
  generalize cn xs = n at *
  generalize cx xs 0 = c0 at *
  generalize cx xs 1 = c1 at *
  generalize cx xs 2 = c2 at *
  generalize cx xs 3 = c3 at *
  generalize cn ys = m at *
  generalize cx ys 0 = d0 at *
  generalize cx ys 1 = d1 at *
  generalize cx ys 2 = d2 at *
  generalize cx ys 3 = d3 at *
  go_enter Tryz.func133, Tryz.ntmps133
  go_wp2_with fail
  refine HP.out.mono ?_
  rintro e w1 ⟨rfl, hb1⟩
  have B1 := Lib.hid ((hb1.alloc hb1.size (.cells #[.int .i64 n, .int .i64 c0, .int .i64 c1, .int .i64 c2, .int .i64 c3] 71)).alloc (by have := hb1.size; simp; omega) (.cells #[.int .i64 m, .int .i64 d0, .int .i64 d1, .int .i64 d2, .int .i64 d3] 71))
  clear hb1
  go_wp2_with fail
  refine (HL.out _).mono ?_
  rintro e w2 ⟨rfl, hb2⟩
  have B2 := Lib.hid (B1.out.trans (hb2.mono B1.out.size))
  clear hb2
  go_wp2
  go_ret
  exact ⟨ret_bool HR.out.symm, B2.out⟩
end Go.Proofs.YtghgiefciijoeaaGreatDoor
