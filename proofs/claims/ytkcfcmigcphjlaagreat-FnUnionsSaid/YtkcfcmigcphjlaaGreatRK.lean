/- The clock of a union. -/
import Derived.Test.YtkcfcmigcphjlaaGreatRI
import Derived.Test.YtkcfcmigcphjlaaGreatRF
import Derived.Test.YtkcfcmigcphjlaaGreatOM



namespace Go.Proofs.YtkcfcmigcphjlaaGreat
open Go.RowKit
set_option linter.unusedVariables false

theorem clockM_lenK (l : List ActM) (n : Nat) : (clockM l n).length = n := by unfold clockM; rw [clockFrom_length]; simp
theorem clockM_at {l : List ActM} {n : Nat} (h : setOkM l n = true) (p : Nat) (hp : p < (clockM l n).length) : (clockM l n)[p] = (cntM l p : Int) := by
  have := clock_getD (setOk_all h).2.2.2 p (by rw [clockM_lenK] at hp; exact hp)
  rw [← this]
  simp [List.getD, hp]
theorem union_clock {l m x : List ActM} {n : Nat} (h : unionM l m n = some x) : spMax (clockM l n) (clockM m n) = clockM x n := by
  obtain ⟨hl, hm, hx, _⟩ := union_some h
  have hb : bothB (clockM l n) (clockM m n) = true := by simp [bothB, set_clock_ok hl, set_clock_ok hm, clockM_lenK]
  rw [spMax, if_pos hb]
  apply List.ext_getElem
  · simp [clockM_lenK]
  · intro p h1 h2
    have hp : p < n := by rw [clockM_lenK] at h2; exact h2
    rw [List.getElem_zipWith, clockM_at hl, clockM_at hm, clockM_at hx, union_cnt h]
    unfold mx
    split <;> omega
end Go.Proofs.YtkcfcmigcphjlaaGreat
