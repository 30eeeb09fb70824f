/- heldActS at lists of acts that bear their marks. -/
import Derived.Test.YtjjgigoehgabkaaDoorHC

namespace Go.Proofs.YtjjgigoehgabkaaDoor
open Go.RowKit
set_option linter.unusedVariables false

theorem mkL_getD : ∀ (k : Int) (l : List ActM) (i : Nat), i < l.length → (mkL k l).getD i act0 = mkA (k + szL (l.take i)) (l.getD i act0)
  | k, [], i, h => by simp at h
  | k, a :: l, 0, _ => by simp [mkL, szL]
  | k, a :: l, i + 1, h => by
    rw [mkL, List.getD_cons_succ, mkL_getD (k + szA a) l i (by simpa using h), List.getD_cons_succ, List.take_succ_cons, szL]
    congr 1
    omega
theorem szL_take (l : List ActM) (i : Nat) (h : i < l.length) : szL (l.take (i + 1)) = szL (l.take i) + szA (l.getD i act0) := by
  rw [List.take_succ_eq_append_getElem h, szL_app]
  simp [szL, List.getD, h]
theorem szL_le (l : List ActM) (i : Nat) : szL (l.take i) ≤ szL l := by
  have : szL l = szL (l.take i) + szL (l.drop i) := by rw [← szL_app, List.take_append_drop]
  omega

end Go.Proofs.YtjjgigoehgabkaaDoor
