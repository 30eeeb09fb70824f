/- The method list of a clock. -/
import Derived.Test.YtghgiefciijoeaaGreatDoorMH
import Derived.Laws.CopyOwn

namespace Go.Proofs.YtghgiefciijoeaaGreatDoor
open Go.RowKit
set_option linter.unusedVariables false
theorem splice_all (l cs : List Value) (h : cs.length = l.length) : splice l 0 cs = cs := by
 simp [splice, h]
def IsBlk (w : World) (g : Nat) (xs : List Int) : Prop := w.heap[g]? = some (.cells (vi xs).toArray 3 (0, 0))
end Go.Proofs.YtghgiefciijoeaaGreatDoor
