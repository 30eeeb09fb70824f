/- The laws FnExactClockLeq and FnExactBeside. -/
import Derived.Test.YtghgiefciijoeaaGreatDoorMH

namespace Go.Proofs.YtghgiefciijoeaaGreatDoor
open Go.RowKit
set_option linter.unusedVariables false
theorem toInts (v : Value) (xs : List Int) (w : World) (h : Ints w v xs) (hl : xs.length ≤ 1048576) :
  Calls Tryz.prog 66 #[v] w fun e w' => e = .returned (.slice (some ⟨w.heap.size, 0, none⟩) xs.length xs.length) ∧ Ints w' (.slice (some ⟨w.heap.size, 0, none⟩) xs.length xs.length) xs ∧ Below w.heap.size w w' :=
 (toIntS_any v xs w h hl).mono fun e w' ⟨h1, h2, h3⟩ => ⟨h1, ints_own rfl h2, h3⟩
end Go.Proofs.YtghgiefciijoeaaGreatDoor
