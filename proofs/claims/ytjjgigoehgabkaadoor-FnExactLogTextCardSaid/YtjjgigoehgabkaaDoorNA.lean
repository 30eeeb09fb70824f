/- The program's hasAllFor: a range over an iterator. -/
import Derived.Test.YtjjgigoehgabkaaDoorMG
import Derived.Test.YtjjgigoehgabkaaDoorMH
import Derived.Test.YtjjgigoehgabkaaDoorMJ
import Derived.Test.YtjjgigoehgabkaaDoorMO
import Derived.RangeFuncNested
import Derived.Deep.DeepCutAuto






namespace Go.Proofs.YtjjgigoehgabkaaDoor
open Go.RowKit Go.Shelf
set_option linter.unusedVariables false
attribute [local go_sem] Oper.semAt_some

/-- what an act knows: its numbers are no more than the act's -/
def clIn (ts : List ActT) (dep : List Int) : Bool := (ts.filter (knowsT [cx dep 0, cx dep 1, cx dep 2, cx dep 3])).all fun b => leqB b.a.dep dep
def clFrom (ts : List ActT) (ys : List Int) : List ActT → Bool
  | [] => true
  | t :: r => leqB t.a.dep ys && clIn ts t.a.dep && clFrom ts ys r
theorem clFrom_step (ts : List ActT) (ys : List Int) (l : List ActT) (k : Nat) (h : k < l.length) : clFrom ts ys (l.drop k) = (leqB (l.getD k t0).a.dep ys && clIn ts (l.getD k t0).a.dep && clFrom ts ys (l.drop (k + 1))) := by
  rw [List.drop_eq_getElem_cons h, clFrom]
  simp [List.getD, h]
/-- of an act: it reads in w, and it is a good one -/
def GoodT (w : World) (n : Nat) (t : ActT) : Prop := t.Reads w ∧ actOkM t.a n = true

end Go.Proofs.YtjjgigoehgabkaaDoor
