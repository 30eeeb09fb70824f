/- ClockSum of both sides; the law FnExactClockSum. -/
import Derived.Test.YtghgiefciijoeaaGreatDoorH
import Derived.Test.YtghgiefciijoeaaGreatDoorL

namespace Go.Proofs.YtghgiefciijoeaaGreatDoor
open Go.RowKit
set_option linter.unusedVariables false
def sumTo (xs : List Int) (k : Nat) : Int := (xs.take k).sum
def spSum (xs : List Int) : Int := if okB xs = true then xs.sum else -1
theorem sumTo_step (xs : List Int) (k : Nat) (hk : k < xs.length) : sumTo xs (k + 1) = sumTo xs k + xs.getD k 0 := by
 unfold sumTo
 rw [List.take_succ_eq_append_getElem hk, List.sum_append]
 simp [List.getD, hk]
theorem getD_good (xs : List Int) (k : Nat) (h : okB xs = true) (hk : k < xs.length) : 0 ≤ xs.getD k 0 ∧ xs.getD k 0 ≤ 100000 := by
 have := ((okB_iff xs).1 h).2.2 xs[k] (List.getElem_mem _)
 simpa [List.getD, hk] using this
theorem cx_range (xs : List Int) (i : Nat) : 0 ≤ cx xs i ∧ cx xs i ≤ 100000 := by
 unfold cx
 split
 ·rename_i h
  by_cases hi : i < xs.length
  ·exact getD_good xs i h hi
  ·rw [getD_out xs i (by omega)]; omega
 ·omega
theorem sum_math (xs : List Int) (h : okB xs = true) : smk (cx xs 0) (cx xs 1) (cx xs 2) (cx xs 3) (cn xs).toNat = spSum xs := by
 have k1 := (okB_iff xs).1 h
 simp only [spSum, cn, cx, h, if_true, Int.toNat_natCast]
 match xs, k1 with
 | [], k => simp at k
 | [a], _ => simp [smk]
 | [a, b], _ => simp [smk]
 | [a, b, c], _ => simp [smk]; omega
 | [a, b, c, d], _ => simp [smk]; omega
 | a :: b :: c :: d :: e :: r, k => simp at k
end Go.Proofs.YtghgiefciijoeaaGreatDoor
