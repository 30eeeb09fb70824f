/- The reference's SameAct. -/
import Derived.Test.YtjjgigoehgabkaaDoorAK
import Derived.BigQuiet
import Derived.Deep.QuietTactic



namespace Go.Proofs.YtjjgigoehgabkaaDoor
open Go.RowKit
set_option linter.unusedVariables false


theorem sameM_no {a b : ActM} (h : a ≠ b) : sameM a b = false := by simp [sameM, h]

end Go.Proofs.YtjjgigoehgabkaaDoor
