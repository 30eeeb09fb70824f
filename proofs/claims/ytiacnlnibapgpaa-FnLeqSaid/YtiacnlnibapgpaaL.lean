/- The laws FnExactClockLeq and FnExactBeside. -/
import Derived.Test.YtiacnlnibapgpaaK
namespace Go.Proofs.Ytiacnlnibapgpaa
open Go.RowKit
set_option linter.unusedVariables false

theorem toInts (v : Value) (xs : List Int) (w : World) (h : Ints w v xs) (hl : xs.length ≤ 1048576) :
    Calls Try.prog 25 #[v] w fun e w' => e = .returned (.slice (some ⟨w.heap.size, 0, none⟩) xs.length xs.length) ∧ Ints w' (.slice (some ⟨w.heap.size, 0, none⟩) xs.length xs.length) xs ∧ Below w.heap.size w w' :=
  (toIntS_any v xs w h hl).mono fun e w' ⟨h1, h2, h3⟩ => ⟨h1, ints_own rfl h2, h3⟩

set_option maxHeartbeats 800000 in
theorem law_leq (v v' : Value) (a a' : Option Addr) (len cap len' cap' : Nat) (xs ys : List Int) (w : World) (hv : v = .slice a len cap) (hl : xs.length = len) (hm : len ≤ 9223372036854775807) (h : Ints w v xs)
    (hv' : v' = .slice a' len' cap') (hl' : ys.length = len') (hm' : len' ≤ 9223372036854775807) (h' : Ints w v' ys) :
    Calls Try.prog 6 #[v, v'] w fun e w' => e = .returned (.bool true) ∧ Below w.heap.size w w' := by
  by_cases hn : len ≤ 1048576
  · by_cases hn' : len' ≤ 1048576
    · have HI := Lib.hid h
      have HI' := Lib.hid h'
      have HS := Lib.hid (show xs.length ≤ 1048576 by omega)
      have HS' := Lib.hid (show ys.length ≤ 1048576 by omega)
      have e1 : (spLeq xs ys != spLeq xs ys) = false := by simp
      have e2 : (spLeq xs ys == spLeq xs ys) = true := by simp
      clear h h' hl hl'
      subst hv hv'
      go_enter Try.func6, Try.ntmps6
      go_wp2_with fail
      refine (toInts _ xs _ HI.out HS.out).mono ?_
      rintro e w1 ⟨rfl, i1, b1⟩
      have I1 := Lib.hid i1
      have B1 := Lib.hid b1
      clear i1 b1
      go_wp2_with fail
      refine (toInts _ ys _ (HI'.out.below (B := 0) B1.out) HS'.out).mono ?_
      rintro e w2 ⟨rfl, i2, b2⟩
      have I2 := Lib.hid i2
      have J1 := Lib.hid (I1.out.below (B := 0) b2)
      have B2 := Lib.hid (B1.out.trans (b2.mono B1.out.size))
      clear i2 b2
      go_wp2_with fail
      refine (specLeq_any _ _ xs ys _ J1.out I2.out).mono ?_
      rintro e w3 ⟨rfl, q, rfl⟩
      have B3 := Lib.hid (below_drewN B2.out q)
      go_wp2_with fail
      refine (toInts _ xs _ (HI.out.below (B := 0) B3.out) HS.out).mono ?_
      rintro e w4 ⟨rfl, i4, b4⟩
      have I4 := Lib.hid i4
      have B4 := Lib.hid (B3.out.trans (b4.mono B3.out.size))
      clear i4 b4
      go_wp2_with fail
      refine (toInts _ ys _ (HI'.out.below (B := 0) B4.out) HS'.out).mono ?_
      rintro e w5 ⟨rfl, i5, b5⟩
      have I5 := Lib.hid i5
      have J4 := Lib.hid (I4.out.below (B := 0) b5)
      have B5 := Lib.hid (B4.out.trans (b5.mono B4.out.size))
      clear i5 b5
      go_wp2_with fail
      refine (ClockLeq_any _ _ xs ys _ J4.out I5.out).mono ?_
      rintro e w6 ⟨rfl, b6⟩
      have J4' := Lib.hid (J4.out.below (B := 0) b6)
      have I5' := Lib.hid (I5.out.below (B := 0) b6)
      have B6 := Lib.hid (B5.out.trans (b6.mono B5.out.size))
      clear b6
      go_wp2_with fail
      refine (toInts _ xs _ (HI.out.below (B := 0) B6.out) HS.out).mono ?_
      rintro e w7 ⟨rfl, i7, b7⟩
      have I7 := Lib.hid i7
      have J7 := Lib.hid (J4'.out.below (B := 0) b7)
      have I57 := Lib.hid (I5'.out.below (B := 0) b7)
      have B7 := Lib.hid (B6.out.trans (b7.mono B6.out.size))
      clear i7 b7
      go_wp2_with fail
      refine (eqIntS_any _ _ xs xs _ J7.out I7.out).mono ?_
      rintro e w8 ⟨rfl, q8, rfl⟩
      have B8 := Lib.hid (below_drewN B7.out q8)
      have ee : eqB xs xs = true := by simp [eqB]
      go_wp2_with fail
      refine (toInts _ ys _ (HI'.out.below (B := 0) B8.out) HS'.out).mono ?_
      rintro e w9 ⟨rfl, i9, b9⟩
      have I9 := Lib.hid i9
      have J9 := Lib.hid ((ints_drewN I57.out q8).below (B := 0) b9)
      have B9 := Lib.hid (B8.out.trans (b9.mono B8.out.size))
      clear i9 b9
      go_wp2_with fail
      refine (eqIntS_any _ _ ys ys _ J9.out I9.out).mono ?_
      rintro e w10 ⟨rfl, q10, rfl⟩
      have ee' : eqB ys ys = true := by simp [eqB]
      go_wp2
      go_ret
      exact ⟨rfl, below_drewN B9.out q10⟩
    · subst hv hv'
      clear h h' hl hl'
      go_enter Try.func6, Try.ntmps6
      go_wp2
      go_ret
      exact ⟨rfl, Below.refl _ _⟩
  · subst hv hv'
    clear h h' hl hl'
    go_enter Try.func6, Try.ntmps6
    go_wp2
    go_ret
    exact ⟨rfl, Below.refl _ _⟩
set_option maxHeartbeats 800000 in
theorem law_beside (v v' : Value) (a a' : Option Addr) (len cap len' cap' : Nat) (xs ys : List Int) (w : World) (hv : v = .slice a len cap) (hl : xs.length = len) (hm : len ≤ 9223372036854775807) (h : Ints w v xs)
    (hv' : v' = .slice a' len' cap') (hl' : ys.length = len') (hm' : len' ≤ 9223372036854775807) (h' : Ints w v' ys) :
    Calls Try.prog 10 #[v, v'] w fun e w' => e = .returned (.bool true) ∧ Below w.heap.size w w' := by
  by_cases hn : len ≤ 1048576
  · by_cases hn' : len' ≤ 1048576
    · have HI := Lib.hid h
      have HI' := Lib.hid h'
      have HS := Lib.hid (show xs.length ≤ 1048576 by omega)
      have HS' := Lib.hid (show ys.length ≤ 1048576 by omega)
      have e1 : (spBeside xs ys != spBeside xs ys) = false := by simp
      have e2 : (spBeside xs ys == spBeside xs ys) = true := by simp
      clear h h' hl hl'
      subst hv hv'
      go_enter Try.func10, Try.ntmps10
      go_wp2_with fail
      refine (toInts _ xs _ HI.out HS.out).mono ?_
      rintro e w1 ⟨rfl, i1, b1⟩
      have I1 := Lib.hid i1
      have B1 := Lib.hid b1
      clear i1 b1
      go_wp2_with fail
      refine (toInts _ ys _ (HI'.out.below (B := 0) B1.out) HS'.out).mono ?_
      rintro e w2 ⟨rfl, i2, b2⟩
      have I2 := Lib.hid i2
      have J1 := Lib.hid (I1.out.below (B := 0) b2)
      have B2 := Lib.hid (B1.out.trans (b2.mono B1.out.size))
      clear i2 b2
      go_wp2_with fail
      refine (specBeside_any _ _ xs ys _ J1.out I2.out).mono ?_
      rintro e w3 ⟨rfl, q, rfl⟩
      have B3 := Lib.hid (below_drewN B2.out q)
      go_wp2_with fail
      refine (toInts _ xs _ (HI.out.below (B := 0) B3.out) HS.out).mono ?_
      rintro e w4 ⟨rfl, i4, b4⟩
      have I4 := Lib.hid i4
      have B4 := Lib.hid (B3.out.trans (b4.mono B3.out.size))
      clear i4 b4
      go_wp2_with fail
      refine (toInts _ ys _ (HI'.out.below (B := 0) B4.out) HS'.out).mono ?_
      rintro e w5 ⟨rfl, i5, b5⟩
      have I5 := Lib.hid i5
      have J4 := Lib.hid (I4.out.below (B := 0) b5)
      have B5 := Lib.hid (B4.out.trans (b5.mono B4.out.size))
      clear i5 b5
      go_wp2_with fail
      refine (Beside_any _ _ xs ys _ J4.out I5.out).mono ?_
      rintro e w6 ⟨rfl, b6⟩
      have J4' := Lib.hid (J4.out.below (B := 0) b6)
      have I5' := Lib.hid (I5.out.below (B := 0) b6)
      have B6 := Lib.hid (B5.out.trans (b6.mono B5.out.size))
      clear b6
      go_wp2_with fail
      refine (toInts _ xs _ (HI.out.below (B := 0) B6.out) HS.out).mono ?_
      rintro e w7 ⟨rfl, i7, b7⟩
      have I7 := Lib.hid i7
      have J7 := Lib.hid (J4'.out.below (B := 0) b7)
      have I57 := Lib.hid (I5'.out.below (B := 0) b7)
      have B7 := Lib.hid (B6.out.trans (b7.mono B6.out.size))
      clear i7 b7
      go_wp2_with fail
      refine (eqIntS_any _ _ xs xs _ J7.out I7.out).mono ?_
      rintro e w8 ⟨rfl, q8, rfl⟩
      have B8 := Lib.hid (below_drewN B7.out q8)
      have ee : eqB xs xs = true := by simp [eqB]
      go_wp2_with fail
      refine (toInts _ ys _ (HI'.out.below (B := 0) B8.out) HS'.out).mono ?_
      rintro e w9 ⟨rfl, i9, b9⟩
      have I9 := Lib.hid i9
      have J9 := Lib.hid ((ints_drewN I57.out q8).below (B := 0) b9)
      have B9 := Lib.hid (B8.out.trans (b9.mono B8.out.size))
      clear i9 b9
      go_wp2_with fail
      refine (eqIntS_any _ _ ys ys _ J9.out I9.out).mono ?_
      rintro e w10 ⟨rfl, q10, rfl⟩
      have ee' : eqB ys ys = true := by simp [eqB]
      go_wp2
      go_ret
      exact ⟨rfl, below_drewN B9.out q10⟩
    · subst hv hv'
      clear h h' hl hl'
      go_enter Try.func10, Try.ntmps10
      go_wp2
      go_ret
      exact ⟨rfl, Below.refl _ _⟩
  · subst hv hv'
    clear h h' hl hl'
    go_enter Try.func10, Try.ntmps10
    go_wp2
    go_ret
    exact ⟨rfl, Below.refl _ _⟩
end Go.Proofs.Ytiacnlnibapgpaa
