/- The reference's Union: the model. -/
import Derived.Test.YtcgncaiehdcooaaCJ
import Derived.Test.YtcgncaiehdcooaaAJ
namespace Go.Proofs.Ytcgncaiehdcooaa
open Go.RowKit
set_option linter.unusedVariables false

def unionFrom (out : List ActM) : List ActM → Option (List ActM)
  | [] => some out
  | a :: rest =>
    if 0 ≤ findM out a.r a.n then (if sameM (out.getD (findM out a.r a.n).toNat act0) a = true then unionFrom out rest else none) else unionFrom (putM out a) rest
/-- the model of Union -/
def unionM (l m : List ActM) (n : Int) : Option (List ActM) :=
  if setOkM l n = true ∧ setOkM m n = true then (match unionFrom l m with | some out => if setOkM out n = true then some out else none | none => none) else none
theorem putJ_le (l : List ActM) (a : ActM) (j : Nat) : putJ l a j ≤ j := by
  induction j with
  | zero => simp [putJ]
  | succ j ih => rw [putJ]; split <;> omega
theorem putM_length (l : List ActM) (a : ActM) : (putM l a).length = l.length + 1 := by
  have := putJ_le l a l.length
  simp only [putM, List.length_append, List.length_take, List.length_cons, List.length_drop]
  omega
theorem findFrom_range (r n : Int) (l : List ActM) (i : Nat) (h : 0 ≤ findFrom r n l i) : i ≤ (findFrom r n l i).toNat ∧ (findFrom r n l i).toNat < i + l.length := by
  induction l generalizing i with
  | nil => simp [findFrom] at h
  | cons a l ih =>
    rw [findFrom] at h ⊢
    split at h
    · rename_i hx; rw [if_pos hx]; simp
    · rename_i hx; rw [if_neg hx]
      have := ih (i + 1) h
      simp only [List.length_cons]
      omega
theorem find_range (l : List ActM) (r n : Int) (h : 0 ≤ findM l r n) : (findM l r n).toNat < l.length := by
  have := findFrom_range r n l 0 h
  unfold findM
  omega
end Go.Proofs.Ytcgncaiehdcooaa
