/- The reference's SetOk: the walk. -/
import Derived.Test.YtjjgigoehgabkaaDoorMO

namespace Go.Proofs.YtjjgigoehgabkaaDoor
open Go.RowKit
set_option linter.unusedVariables false

theorem prev_succ (l : List ActM) (p : Nat) : prevM l (p + 1) = some (l.getD p act0) := by simp [prevM]
theorem getD_set_bound {v : List Int} {j k : Nat} {y : Int} (hv : ∀ i, 0 ≤ v.getD i 0 ∧ v.getD i 0 ≤ k) (hy : 0 ≤ y ∧ y ≤ k) : ∀ i, 0 ≤ (v.set j (y + 1)).getD i 0 ∧ (v.set j (y + 1)).getD i 0 ≤ ((k + 1 : Nat) : Int) := by
  intro i
  have h0 := hv i
  simp only [List.getD, List.getElem?_set] at h0 ⊢
  grind

end Go.Proofs.YtjjgigoehgabkaaDoor
