/- The reference's SameAct where all ints are alike and there are as many ups. -/
import Derived.Test.YtjjgigoehgabkaaDoorMB
import Derived.BigQuiet
import Derived.Deep.QuietTactic



namespace Go.Proofs.YtjjgigoehgabkaaDoor
open Go.RowKit
set_option linter.unusedVariables false

theorem ups_take_step (us vs : List UpM) (k : Nat) (hu : k < us.length) (hv : k < vs.length) (h : us.take k = vs.take k) (e : us.getD k up0 = vs.getD k up0) : us.take (k + 1) = vs.take (k + 1) := by
  rw [List.take_succ_eq_append_getElem hu, List.take_succ_eq_append_getElem hv, h]
  simp only [List.getD, List.getElem?_eq_getElem hu, List.getElem?_eq_getElem hv, Option.getD_some] at e
  rw [e]

end Go.Proofs.YtjjgigoehgabkaaDoor
