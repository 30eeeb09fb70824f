/- What is to be shown of Needs. -/
import Derived.Test.YtghgiefciijoeaaGreatDoorMB

namespace Go.Proofs.YtghgiefciijoeaaGreatDoor
open Go.RowKit
set_option linter.unusedVariables false
def ImplNeeds : Prop := ∀ (v : Value) (a : ActM) (n : Int) (w : World), ActIs w v a → (-9223372036854775808 ≤ n ∧ n ≤ 9223372036854775807) →
 Calls Tryz.prog 106 #[v, .int .i64 n] w fun e w' => e = .returned (.int .i64 (needsM a n)) ∧ Below w.heap.size w w'
def SpecNeeds : Prop := ∀ (v : Value) (a : ActM) (n : Int) (w : World), ActIs w v a → (-9223372036854775808 ≤ n ∧ n ≤ 9223372036854775807) →
 Calls Tryz.prog 83 #[v, .int .i64 n] w fun e w' => e = .returned (.int .i64 (needsM a n)) ∧ Below w.heap.size w w'
end Go.Proofs.YtghgiefciijoeaaGreatDoor
