/- The reference's l1both (where it is in the cut). -/
import Derived.Test.YtjjgigoehgabkaaMA
namespace Go.Proofs.Ytjjgigoehgabkaa
open Go.RowKit
set_option linter.unusedVariables false

set_option maxHeartbeats 400000 in
theorem both_any (v v' : Value) (xs ys : List Int) (w : World) (h : Ints w v xs) (h' : Ints w v' ys) :
    Calls Try.prog 195 #[v, v'] w fun e w' => e = .returned (.bool (bothB xs ys)) ∧ w' = w := by
  have HI := Lib.hid h
  have HI' := Lib.hid h'
  have m1 := ints_max h
  have m2 := ints_max h'
  obtain ⟨a, cap, rfl⟩ := ints_len h
  obtain ⟨a', cap', rfl⟩ := ints_len h'
  clear h h'
  cases b1 : okB xs with
  | false =>
    have hr : bothB xs ys = false := by simp [bothB, b1]
    have HR := Lib.hid hr
    have hb := specOk_any _ xs w HI.out
    rw [b1] at hb
    have HB := Lib.hid hb
    clear hr hb b1
    go_enter Try.func195, Try.ntmps195
    go_wp2_with fail
    refine HB.out.mono ?_
    rintro e w' ⟨rfl, rfl⟩
    go_wp2
    go_ret
    exact ⟨ret_bool HR.out.symm, rfl⟩
  | true =>
    have hb := specOk_any _ xs w HI.out
    rw [b1] at hb
    have HB := Lib.hid hb
    cases b2 : okB ys with
    | false =>
      have hr : bothB xs ys = false := by simp [bothB, b2]
      have HR := Lib.hid hr
      have hb' := specOk_any _ ys w HI'.out
      rw [b2] at hb'
      have HB' := Lib.hid hb'
      clear hr hb hb' b1 b2
      go_enter Try.func195, Try.ntmps195
      go_wp2_with fail
      refine HB.out.mono ?_
      rintro e w' ⟨rfl, rfl⟩
      go_wp2_with fail
      refine HB'.out.mono ?_
      rintro e w' ⟨rfl, rfl⟩
      go_wp2
      go_ret
      exact ⟨ret_bool HR.out.symm, rfl⟩
    | true =>
      have hr : bothB xs ys = decide (xs.length = ys.length) := by simp [bothB, b1, b2]
      have HR := Lib.hid hr
      have hb' := specOk_any _ ys w HI'.out
      rw [b2] at hb'
      have HB' := Lib.hid hb'
      clear hr hb hb' b1 b2
      have ed : ((xs.length : Int) == (ys.length : Int)) = decide (xs.length = ys.length) := by
        rw [Bool.eq_iff_iff]; simp; omega
      have ED := Lib.hid ed
      clear ed
      generalize xs.length = n at *
      generalize ys.length = m at *
      go_enter Try.func195, Try.ntmps195
      go_wp2_with fail
      refine HB.out.mono ?_
      rintro e w' ⟨rfl, rfl⟩
      go_wp2_with fail
      refine HB'.out.mono ?_
      rintro e w' ⟨rfl, rfl⟩
      go_wp2
      go_ret
      exact ⟨ret_bool (by rw [HR.out]; first | exact ED.out | rfl), rfl⟩
end Go.Proofs.Ytjjgigoehgabkaa
