/- The program's readCut. -/
import Derived.Test.YtghgiefciijoeaaGreatDoorHE
import Derived.Test.YtghgiefciijoeaaGreatDoorNE
import Derived.Test.YtghgiefciijoeaaGreatDoorCI
import Derived.Test.YtghgiefciijoeaaGreatDoorND
import Derived.Deep.DeepCutAuto

namespace Go.Proofs.YtghgiefciijoeaaGreatDoor
open Go.RowKit
set_option linter.unusedVariables false
def CutRead (w : World) (v : Value) (l : List ActM) (n : Int) (xs : List Int) (e : Ending) (w' : World) : Prop := Below w.heap.size w w' ∧
 ((cutB l n xs = true ∧ ∃ mb, e = .returned (.tuple #[setVal v mb n l, .agg #[.int .i64 (cn xs), .int .i64 (cx xs 0), .int .i64 (cx xs 1), .int .i64 (cx xs 2), .int .i64 (cx xs 3)], .bool true])) ∨
   (cutB l n xs = false ∧ e = .returned (.tuple #[noSet, .agg #[.int .i64 0, .int .i64 0, .int .i64 0, .int .i64 0, .int .i64 0], .bool false])))
end Go.Proofs.YtghgiefciijoeaaGreatDoor
