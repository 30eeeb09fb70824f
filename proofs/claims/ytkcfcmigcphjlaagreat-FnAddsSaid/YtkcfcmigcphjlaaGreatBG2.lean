/- The program's Needs. -/
import Derived.Test.YtkcfcmigcphjlaaGreatGD
import Derived.Test.YtkcfcmigcphjlaaGreatAL


namespace Go.Proofs.YtkcfcmigcphjlaaGreat
open Go.RowKit
set_option linter.unusedVariables false

theorem rightM_or (t k : Int) (ht : t = 0 ∨ t = 2 ∨ t = 4 ∨ t = 6) : bits .or .i64 t (rightM k) = (if k = 2 then bits .or .i64 t 4 else if k = 1 ∨ k = 3 ∨ k = 4 then bits .or .i64 t 2 else t) := by
  unfold rightM
  by_cases h1 : k = 1
  · subst h1; simp
  · by_cases h3 : k = 3
    · subst h3; simp
    · by_cases h4 : k = 4
      · subst h4; simp
      · by_cases h2 : k = 2
        · subst h2; simp
        · simp only [h1, h2, h3, h4, if_false, or_self]
          rcases ht with rfl | rfl | rfl | rfl <;> decide

end Go.Proofs.YtkcfcmigcphjlaaGreat
