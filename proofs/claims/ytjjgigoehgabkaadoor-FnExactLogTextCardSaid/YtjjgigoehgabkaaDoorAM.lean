/- The reference's l2mask, l2ups. -/
import Derived.Test.YtjjgigoehgabkaaDoorMB
import Derived.BigQuiet
import Derived.Deep.QuietTactic



namespace Go.Proofs.YtjjgigoehgabkaaDoor
open Go.RowKit
set_option linter.unusedVariables false

theorem okUp_iff (u : UpM) : okUp u = true ↔ 1 ≤ u.kind ∧ u.kind ≤ 4 ∧ 0 ≤ u.bucket ∧ u.bucket < 3 ∧ 0 ≤ u.key ∧ u.key < 4 := by
  simp [okUp, and_assoc]
theorem okUps_bad (l : List UpM) (k : Nat) (hk : k < l.length) (h : okUp (l.getD k up0) = false) : okUps l = false := by
  simp only [List.getD, List.getElem?_eq_getElem hk, Option.getD_some] at h
  simp only [okUps, Bool.and_eq_false_iff]
  refine .inr ?_
  rw [List.all_eq_false]
  exact ⟨l[k], List.getElem_mem _, by simp [h]⟩
theorem okUps_step (l : List UpM) (k : Nat) (hk : k < l.length) (h : (l.take k).all okUp = true) (h' : okUp (l.getD k up0) = true) : (l.take (k + 1)).all okUp = true := by
  simp only [List.getD, List.getElem?_eq_getElem hk, Option.getD_some] at h'
  rw [List.take_succ_eq_append_getElem hk, List.all_append, h]
  simp [h']

end Go.Proofs.YtjjgigoehgabkaaDoor
