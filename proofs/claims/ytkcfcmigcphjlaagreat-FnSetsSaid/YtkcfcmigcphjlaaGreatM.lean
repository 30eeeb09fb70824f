/- ClockSum of both sides; the law FnExactClockSum. -/
import Derived.Test.YtkcfcmigcphjlaaGreatH
import Derived.Test.YtkcfcmigcphjlaaGreatGC


namespace Go.Proofs.YtkcfcmigcphjlaaGreat
open Go.RowKit
set_option linter.unusedVariables false

def sumTo (xs : List Int) (k : Nat) : Int := (xs.take k).sum
def spSum (xs : List Int) : Int := if okB xs = true then xs.sum else -1
theorem sumTo_step (xs : List Int) (k : Nat) (hk : k < xs.length) : sumTo xs (k + 1) = sumTo xs k + xs.getD k 0 := by
  unfold sumTo
  rw [List.take_succ_eq_append_getElem hk, List.sum_append]
  simp [List.getD, hk]
theorem getD_good (xs : List Int) (k : Nat) (h : okB xs = true) (hk : k < xs.length) : 0 ≤ xs.getD k 0 ∧ xs.getD k 0 ≤ 100000 := by
  have := ((okB_iff xs).1 h).2.2 xs[k] (List.getElem_mem _)
  simpa [List.getD, hk] using this

theorem cx_range (xs : List Int) (i : Nat) : 0 ≤ cx xs i ∧ cx xs i ≤ 100000 := by
  unfold cx
  split
  · rename_i h
    by_cases hi : i < xs.length
    · exact getD_good xs i h hi
    · rw [getD_out xs i (by omega)]; omega
  · omega
theorem sum_math (xs : List Int) (h : okB xs = true) : smk (cx xs 0) (cx xs 1) (cx xs 2) (cx xs 3) (cn xs).toNat = spSum xs := by
  have k1 := (okB_iff xs).1 h
  simp only [spSum, cn, cx, h, if_true, Int.toNat_natCast]
  match xs, k1 with
  | [], k => simp at k
  | [a], _ => simp [smk]
  | [a, b], _ => simp [smk]
  | [a, b, c], _ => simp [smk]; omega
  | [a, b, c, d], _ => simp [smk]; omega
  | a :: b :: c :: d :: e :: r, k => simp at k

set_option maxHeartbeats 400000 in
theorem ClockSum_any (v : Value) (xs : List Int) (w : World) (h : Ints w v xs) :
    Calls Tryz.prog 15 #[v] w fun e w' => e = .returned (.int .i64 (spSum xs)) ∧ Below w.heap.size w w' := by
  have hc := readClock_any v xs w h
  cases ho : okB xs with
  | false =>
    rw [ho] at hc
    have HR := Lib.hid (show spSum xs = -1 by rw [spSum, if_neg (by simp [ho])])
    have HC := Lib.hid hc
    clear h hc ho
    go_enter Tryz.func15, Tryz.ntmps15
    go_wp2_with fail
    refine HC.out.mono ?_
    rintro e w' ⟨rfl, hb⟩
    have HB := Lib.hid hb
    clear hb
    go_wp2
    go_ret
    exact ⟨ret_int HR.out.symm, HB.out.alloc HB.out.size _⟩
  | true =>
    rw [ho] at hc
    have hs := fun w => sum_any (cn xs) (cx xs 0) (cx xs 1) (cx xs 2) (cx xs 3) w (cn_range xs).1 (cn_range xs).2 (cx_range xs 0) (cx_range xs 1) (cx_range xs 2) (cx_range xs 3)
    rw [sum_math xs ho] at hs
    have HC := Lib.hid hc
    have HS := Lib.hid hs
    clear h hc ho hs
    generalize spSum xs = r at *
    generalize cn xs = n at *
    generalize cx xs 0 = c0 at *
    generalize cx xs 1 = c1 at *
    generalize cx xs 2 = c2 at *
    generalize cx xs 3 = c3 at *
    go_enter Tryz.func15, Tryz.ntmps15
    go_wp2_with fail
    refine HC.out.mono ?_
    rintro e w1 ⟨rfl, hb⟩
    have B1 := Lib.hid (hb.alloc hb.size (.cells #[.int .i64 n, .int .i64 c0, .int .i64 c1, .int .i64 c2, .int .i64 c3] 55))
    clear hb
    go_wp2_with fail
    refine (HS.out _).mono ?_
    rintro e w2 ⟨rfl, hb2⟩
    have B2 := Lib.hid (B1.out.trans (hb2.mono B1.out.size))
    clear hb2
    go_wp2
    go_ret
    exact ⟨rfl, B2.out⟩

end Go.Proofs.YtkcfcmigcphjlaaGreat
