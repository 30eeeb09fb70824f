/- The program's Knows. -/
import Derived.Test.YtjjgigoehgabkaaDoorMI
import Derived.Test.YtjjgigoehgabkaaDoorMB
import Derived.BigQuiet
import Derived.Deep.QuietTactic
import Derived.Deep.RegionWith





namespace Go.Proofs.YtjjgigoehgabkaaDoor
open Go.RowKit
set_option linter.unusedVariables false

theorem knows_eq (a b : ActM) : knowsM a b = (inB b.r 0 ((a.dep.length : Int) - 1) && inB b.n 1 (a.dep.getD b.r.toNat 0)) := by
  have e : decide (b.r < (a.dep.length : Int)) = decide (b.r ≤ (a.dep.length : Int) - 1) := decide_eq_decide.2 (by omega)
  simp only [knowsM, inB, e, Bool.and_assoc]

end Go.Proofs.YtjjgigoehgabkaaDoor
