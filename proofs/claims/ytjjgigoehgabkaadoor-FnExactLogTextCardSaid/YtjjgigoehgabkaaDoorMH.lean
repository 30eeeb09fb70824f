/- readClock. Blocks known whole; the methods greater, lesser, leq, sum of a clock. leq, sum, list. readPair. ClockLeq, Beside. -/
import Derived.Test.YtjjgigoehgabkaaDoorMA
import Derived.BigRegion
import Derived.Deep.RegionWith
import Derived.Deep.RegionHeld3




namespace Go.Proofs.YtjjgigoehgabkaaDoor
open Go.RowKit
set_option linter.unusedVariables false

/-- a clock as a value -/
def cv (xs : List Int) : Value := .agg #[.int .i64 xs.length, .int .i64 (xs.getD 0 0), .int .i64 (xs.getD 1 0), .int .i64 (xs.getD 2 0), .int .i64 (xs.getD 3 0)]
def cvOr (xs : List Int) : Value := if okB xs = true then cv xs else .agg #[.int .i64 0, .int .i64 0, .int .i64 0, .int .i64 0, .int .i64 0]
theorem cvOr_yes {xs : List Int} (h : okB xs = true) : cvOr xs = cv xs := if_pos h
theorem cvOr_no {xs : List Int} (h : okB xs = false) : cvOr xs = .agg #[.int .i64 0, .int .i64 0, .int .i64 0, .int .i64 0, .int .i64 0] := if_neg (by simp [h])
theorem ret_clk {xs : List Int} {v : Value} {b : Bool} (hv : cvOr xs = v) (hb : okB xs = b) : Ending.returned (.tuple #[v, .bool b]) = .returned (.tuple #[cvOr xs, .bool (okB xs)]) := by rw [hv, hb]
def pad (n : Nat) (ys : List Int) : List Int := [(n : Int), ys.getD 0 0, ys.getD 1 0, ys.getD 2 0, ys.getD 3 0]

theorem pad_set (xs : List Int) (n k : Nat) (hk : k < xs.length) (h4 : xs.length ≤ 4) : ((pad n (xs.take k)).map (Value.int .i64)).set (1 + k) (.int .i64 (xs.getD k 0)) = (pad n (xs.take (k + 1))).map (Value.int .i64) := by
  match xs, k, hk, h4 with
  | [a], 0, _, _ => rfl
  | [a, b], 0, _, _ => rfl
  | [a, b], 1, _, _ => rfl
  | [a, b, c], 0, _, _ => rfl
  | [a, b, c], 1, _, _ => rfl
  | [a, b, c], 2, _, _ => rfl
  | [a, b, c, d], 0, _, _ => rfl
  | [a, b, c, d], 1, _, _ => rfl
  | [a, b, c, d], 2, _, _ => rfl
  | [a, b, c, d], 3, _, _ => rfl
  | a :: b :: c :: d :: e :: r, k, _, h => simp at h
  | [], k, h, _ => simp at h
  | [a], k + 1, h, _ => simp at h
  | [a, b], k + 2, h, _ => simp at h; omega
  | [a, b, c], k + 3, h, _ => simp at h; omega
  | [a, b, c, d], k + 4, h, _ => simp at h; omega

/-- the parts of the clock that readClock gives: those of xs, or zeros -/
def cn (xs : List Int) : Int := if okB xs = true then xs.length else 0
def cx (xs : List Int) (i : Nat) : Int := if okB xs = true then xs.getD i 0 else 0
theorem cvOr_eq (xs : List Int) : cvOr xs = .agg #[.int .i64 (cn xs), .int .i64 (cx xs 0), .int .i64 (cx xs 1), .int .i64 (cx xs 2), .int .i64 (cx xs 3)] := by
  unfold cvOr cn cx cv
  by_cases h : okB xs = true <;> simp [h]

end Go.Proofs.YtjjgigoehgabkaaDoor
namespace Go.Proofs.YtjjgigoehgabkaaDoor
open Go.RowKit
set_option linter.unusedVariables false
def mx (x y : Int) : Int := if x < y then y else x
/-- the cells of the greater clock behind k rounds -/
def mxk (n c0 c1 c2 c3 d0 d1 d2 d3 : Int) (k : Nat) : List Int :=
  [n, if 0 < k then mx c0 d0 else c0, if 1 < k then mx c1 d1 else c1, if 2 < k then mx c2 d2 else c2, if 3 < k then mx c3 d3 else c3]

theorem mxk_step (n c0 c1 c2 c3 d0 d1 d2 d3 m : Int) (k : Nat) (hk : k < 4) : ∃ x y, (vi (mxk n c0 c1 c2 c3 d0 d1 d2 d3 k))[1 + k]? = some (.int .i64 x) ∧ (vi [m, d0, d1, d2, d3])[1 + k]? = some (.int .i64 y) ∧
    (vi (mxk n c0 c1 c2 c3 d0 d1 d2 d3 k)).set (1 + k) (.int .i64 (mx x y)) = vi (mxk n c0 c1 c2 c3 d0 d1 d2 d3 (k + 1)) := by
  match k, hk with
  | 0, _ => exact ⟨c0, d0, rfl, rfl, rfl⟩
  | 1, _ => exact ⟨c1, d1, rfl, rfl, rfl⟩
  | 2, _ => exact ⟨c2, d2, rfl, rfl, rfl⟩
  | 3, _ => exact ⟨c3, d3, rfl, rfl, rfl⟩
  | k + 4, h => omega

end Go.Proofs.YtjjgigoehgabkaaDoor
namespace Go.Proofs.YtjjgigoehgabkaaDoor
open Go.RowKit
set_option linter.unusedVariables false
theorem part40 (a b c d : Int) (w : World) : (part 3 #[.int .i64 a, .int .i64 b, .int .i64 c, .int .i64 d] 0).run Tryd.prog w = .ok (.int .i64 a) w := by kernel_rfl
theorem part41 (a b c d : Int) (w : World) : (part 3 #[.int .i64 a, .int .i64 b, .int .i64 c, .int .i64 d] 1).run Tryd.prog w = .ok (.int .i64 b) w := by kernel_rfl
theorem part42 (a b c d : Int) (w : World) : (part 3 #[.int .i64 a, .int .i64 b, .int .i64 c, .int .i64 d] 2).run Tryd.prog w = .ok (.int .i64 c) w := by kernel_rfl
theorem part43 (a b c d : Int) (w : World) : (part 3 #[.int .i64 a, .int .i64 b, .int .i64 c, .int .i64 d] 3).run Tryd.prog w = .ok (.int .i64 d) w := by kernel_rfl
end Go.Proofs.YtjjgigoehgabkaaDoor
namespace Go.Proofs.YtjjgigoehgabkaaDoor
open Go.RowKit
set_option linter.unusedVariables false

/-- the value that readClock gives as a clock -/
abbrev zeroClk : Value := .agg #[.int .i64 0, .int .i64 0, .int .i64 0, .int .i64 0, .int .i64 0]
def ClkIs (xs : List Int) (n c0 c1 c2 c3 : Int) : Prop := n = cn xs ∧ c0 = cx xs 0 ∧ c1 = cx xs 1 ∧ c2 = cx xs 2 ∧ c3 = cx xs 3

theorem Blk.five {w : World} {B : Nat} {a b c d e : Int} (h : Blk w B (vi [a, b, c, d, e])) : w.cell? ⟨B, 0, none⟩ = some (.int .i64 a) ∧ w.cell? ⟨B, 1, none⟩ = some (.int .i64 b) ∧ w.cell? ⟨B, 2, none⟩ = some (.int .i64 c) ∧ w.cell? ⟨B, 3, none⟩ = some (.int .i64 d) ∧ w.cell? ⟨B, 4, none⟩ = some (.int .i64 e) ∧ (∀ j, w.frozen? ⟨B, j, none⟩ = false) ∧ B < w.heap.size :=
  ⟨h.cell 0, h.cell 1, h.cell 2, h.cell 3, h.cell 4, h.free, h.lt⟩
end Go.Proofs.YtjjgigoehgabkaaDoor
namespace Go.Proofs.YtjjgigoehgabkaaDoor
open Go.RowKit
set_option linter.unusedVariables false

theorem getD_out (xs : List Int) (i : Nat) (h : xs.length ≤ i) : xs.getD i 0 = 0 := by
  simp [List.getD, List.getElem?_eq_none h]
theorem mx_eq (x y : Int) : mx x y = y ↔ x ≤ y := by
  unfold mx; split <;> omega
theorem leq_math (xs ys : List Int) (hb : bothB xs ys = true) :
    eqB ((mxk (cn xs) (cx xs 0) (cx xs 1) (cx xs 2) (cx xs 3) (cx ys 0) (cx ys 1) (cx ys 2) (cx ys 3) (cn xs).toNat).drop 1) [cx ys 0, cx ys 1, cx ys 2, cx ys 3] = leqB xs ys := by
  simp only [bothB, Bool.and_eq_true, decide_eq_true_eq] at hb
  obtain ⟨⟨o1, o2⟩, ol⟩ := hb
  have k1 := (okB_iff xs).1 o1
  simp only [cn, cx, o1, o2, if_true, Int.toNat_natCast]
  rw [Bool.eq_iff_iff, leqB_iff]
  simp only [eqB, mxk, decide_eq_true_eq, List.drop_succ_cons, List.drop_zero, List.cons.injEq, and_true]
  have key : ∀ i, (if i < xs.length then mx (xs.getD i 0) (ys.getD i 0) else xs.getD i 0) = ys.getD i 0 ↔ (i < xs.length → xs.getD i 0 ≤ ys.getD i 0) := by
    intro i
    by_cases hi : i < xs.length
    · rw [if_pos hi, mx_eq]; exact ⟨fun h _ => h, fun h => h hi⟩
    · rw [if_neg hi, getD_out xs i (by omega), getD_out ys i (by omega)]; exact ⟨fun _ h => absurd h hi, fun _ => rfl⟩
  rw [key 0, key 1, key 2, key 3]
  constructor
  · rintro ⟨h0, h1, h2, h3⟩ i hi
    match i with
    | 0 => exact h0 hi
    | 1 => exact h1 hi
    | 2 => exact h2 hi
    | 3 => exact h3 hi
    | i + 4 => omega
  · intro h
    exact ⟨h 0, h 1, h 2, h 3⟩
theorem cn_range (xs : List Int) : 0 ≤ cn xs ∧ cn xs ≤ 4 := by
  unfold cn
  split
  · rename_i h
    have := (okB_iff xs).1 h
    omega
  · omega

end Go.Proofs.YtjjgigoehgabkaaDoor
