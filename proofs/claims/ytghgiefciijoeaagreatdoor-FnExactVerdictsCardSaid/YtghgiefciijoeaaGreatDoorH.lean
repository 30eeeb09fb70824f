/- The method sum of a clock; the method list. -/
import Derived.Test.YtghgiefciijoeaaGreatDoorMH

namespace Go.Proofs.YtghgiefciijoeaaGreatDoor
open Go.RowKit
set_option linter.unusedVariables false
def smk (c0 c1 c2 c3 : Int) (k : Nat) : Int := (if 0 < k then c0 else 0) + (if 1 < k then c1 else 0) + (if 2 < k then c2 else 0) + (if 3 < k then c3 else 0)
theorem smk_step (n c0 c1 c2 c3 : Int) (k : Nat) (hk : k < 4) : ∃ x, (vi [n, c0, c1, c2, c3])[1 + k]? = some (.int .i64 x) ∧ smk c0 c1 c2 c3 (k + 1) = smk c0 c1 c2 c3 k + x ∧ (x = c0 ∨ x = c1 ∨ x = c2 ∨ x = c3) := by
 match k, hk with
 | 0, _ => exact ⟨c0, rfl, by simp [smk], .inl rfl⟩
 | 1, _ => exact ⟨c1, rfl, by simp [smk], .inr (.inl rfl)⟩
 | 2, _ => exact ⟨c2, rfl, by simp [smk], .inr (.inr (.inl rfl))⟩
 | 3, _ => exact ⟨c3, rfl, by simp [smk], .inr (.inr (.inr rfl))⟩
 | k + 4, h => omega
end Go.Proofs.YtghgiefciijoeaaGreatDoor
