/- ClockOk, the law FnExactClockOk. -/
import Derived.Test.YtiacnlnibapgpaaC
namespace Go.Proofs.Ytiacnlnibapgpaa
open Go.RowKit
set_option linter.unusedVariables false

set_option maxHeartbeats 400000 in
theorem ClockOk_any (v : Value) (xs : List Int) (w : World) (h : Ints w v xs) :
    Calls Try.prog 23 #[v] w fun e w' => e = .returned (.bool (okB xs)) ∧ Below w.heap.size w w' := by
  have HC := Lib.hid (readClock_any v xs w h)
  clear h
  go_enter Try.func23, Try.ntmps23
  go_wp2_with fail
  refine HC.out.mono ?_
  rintro e w' ⟨rfl, hb⟩
  have HB := Lib.hid hb
  clear hb
  go_wp2
  go_ret
  exact ⟨rfl, HB.out.alloc HB.out.size _⟩

set_option maxHeartbeats 400000 in
theorem law_ok (v : Value) (a : Option Addr) (len cap : Nat) (xs : List Int) (w : World) (hv : v = .slice a len cap) (hl : xs.length = len) (hm : len ≤ 9223372036854775807) (h : Ints w v xs) :
    Calls Try.prog 5 #[v] w fun e w' => e = .returned (.bool true) ∧ Below w.heap.size w w' := by
  by_cases hn : len ≤ 1048576
  · have HI := Lib.hid h
    have HL := Lib.hid hl
    have hsz : xs.length ≤ 1048576 := by omega
    have HS := Lib.hid hsz
    clear h hl hsz
    subst hv
    go_enter Try.func5, Try.ntmps5
    go_wp2_with fail
    refine (toIntS_any _ xs _ HI.out HS.out).mono ?_
    rintro e w1 ⟨rfl, ho1, hb1⟩
    have I1 := Lib.hid (ints_own rfl ho1)
    have B1 := Lib.hid hb1
    clear ho1 hb1
    go_wp2_with fail
    refine (specOk_any _ xs _ I1.out).mono ?_
    rintro e w2 ⟨rfl, rfl⟩
    go_wp2_with fail
    refine (toIntS_any _ xs _ (HI.out.below (B := 0) B1.out) HS.out).mono ?_
    rintro e w3 ⟨rfl, ho3, hb3⟩
    have I3 := Lib.hid (ints_own rfl ho3)
    have B3 := Lib.hid (B1.out.trans (hb3.mono B1.out.size))
    clear ho3 hb3
    go_wp2_with fail
    refine (ClockOk_any _ xs _ I3.out).mono ?_
    rintro e w4 ⟨rfl, hb4⟩
    have I4 := Lib.hid (I3.out.below (B := 0) hb4)
    have B4 := Lib.hid (B3.out.trans (hb4.mono B3.out.size))
    clear hb4
    have e1 : (okB xs != okB xs) = false := by simp
    have e2 : (okB xs == okB xs) = true := by simp
    go_wp2_with fail
    refine (toIntS_any _ xs _ ((HI.out.below (B := 0) B4.out)) HS.out).mono ?_
    rintro e w5 ⟨rfl, ho5, hb5⟩
    have I5 := Lib.hid (ints_own rfl ho5)
    have J5 := Lib.hid (I4.out.below (B := 0) hb5)
    have B5 := Lib.hid (B4.out.trans (hb5.mono B4.out.size))
    clear ho5 hb5
    go_wp2_with fail
    refine (eqIntS_any _ _ xs xs _ J5.out I5.out).mono ?_
    rintro e w6 ⟨rfl, q, rfl⟩
    have ee : eqB xs xs = true := by simp [eqB]
    go_wp2
    go_ret
    exact ⟨rfl, below_drewN B5.out q⟩
  · subst hv
    clear h hl
    go_enter Try.func5, Try.ntmps5
    go_wp2
    go_ret
    exact ⟨rfl, Below.refl _ _⟩
end Go.Proofs.Ytiacnlnibapgpaa
