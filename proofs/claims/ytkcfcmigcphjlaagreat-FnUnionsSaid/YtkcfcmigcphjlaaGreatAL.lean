/- The reference's Needs. -/
import Derived.Test.YtkcfcmigcphjlaaGreatGA


namespace Go.Proofs.YtkcfcmigcphjlaaGreat
open Go.RowKit
set_option linter.unusedVariables false

def nd (l : List UpM) (b : Int) : Int :=
  (if l.any (fun u => u.bucket = b && u.kind = 2) = true then 4 else 0) + (if l.any (fun u => u.bucket = b && (u.kind = 1 || u.kind = 3 || u.kind = 4)) = true then 2 else 0)
theorem nd_values (l : List UpM) (b : Int) : nd l b = 0 ∨ nd l b = 2 ∨ nd l b = 4 ∨ nd l b = 6 := by
  unfold nd; split <;> split <;> simp
/-- what one up adds -/
def ndStep (u : UpM) (b t : Int) : Int :=
  if u.bucket = b then (if u.kind = 2 then bits .or .i64 t 4 else if u.kind = 1 ∨ u.kind = 3 ∨ u.kind = 4 then bits .or .i64 t 2 else t) else t
theorem nd_step (l : List UpM) (b : Int) (k : Nat) (hk : k < l.length) : nd (l.take (k + 1)) b = ndStep (l.getD k up0) b (nd (l.take k) b) := by
  rw [List.take_succ_eq_append_getElem hk]
  simp only [List.getD, List.getElem?_eq_getElem hk, Option.getD_some]
  generalize l[k] = u
  generalize l.take k = m
  unfold nd ndStep
  simp only [List.any_append, List.any_cons, List.any_nil, Bool.or_false]
  by_cases hb : u.bucket = b
  · by_cases h2 : u.kind = 2
    · rw [if_pos hb, if_pos h2]
      simp only [hb, h2, decide_true, Bool.and_self, Bool.or_true, if_true]
      cases m.any _ <;> cases m.any _ <;> decide
    · rw [if_pos hb, if_neg h2]
      by_cases h3 : u.kind = 1 ∨ u.kind = 3 ∨ u.kind = 4
      · rw [if_pos h3]
        have e : (decide (u.kind = 1) || decide (u.kind = 3) || decide (u.kind = 4)) = true := by rcases h3 with h | h | h <;> simp [h]
        simp only [hb, h2, e, decide_true, decide_false, Bool.and_self, Bool.and_false, Bool.or_true, Bool.or_false, if_true]
        cases m.any _ <;> cases m.any _ <;> decide
      · rw [if_neg h3]
        have e : (decide (u.kind = 1) || decide (u.kind = 3) || decide (u.kind = 4)) = false := by
          simp only [Bool.or_eq_false_iff, decide_eq_false_iff_not]; omega
        simp only [hb, h2, e, decide_true, decide_false, Bool.and_false, Bool.or_false]
  · rw [if_neg hb]
    simp only [hb, decide_false, Bool.false_and, Bool.or_false]

end Go.Proofs.YtkcfcmigcphjlaaGreat
