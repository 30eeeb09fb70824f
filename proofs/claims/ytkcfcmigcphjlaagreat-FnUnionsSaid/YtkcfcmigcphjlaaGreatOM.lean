/- (Max alone.) The reference's ClockMax and ClockMin. -/
import Derived.Test.YtkcfcmigcphjlaaGreatGA
import Derived.Test.YtkcfcmigcphjlaaGreatGC




namespace Go.Proofs.YtkcfcmigcphjlaaGreat
open Go.RowKit
set_option linter.unusedVariables false

/-- a call that gives a slice that reads as xs in cells of its own and writes nothing that was there -/
def Made (w : World) (xs : List Int) (e : Ending) (w' : World) : Prop := ∃ g v, e = .returned v ∧ w.heap.size ≤ g ∧ Own w' g v xs ∧ Below w.heap.size w w'

def spMax (xs ys : List Int) : List Int := if bothB xs ys = true then List.zipWith mx xs ys else []
/-- behind k rounds -/
def mxTo (xs ys : List Int) (k : Nat) : List Int := List.zipWith mx (xs.take k) (ys.take k) ++ xs.drop k
theorem mxTo_length (xs ys : List Int) (k : Nat) (h : xs.length = ys.length) : (mxTo xs ys k).length = xs.length := by
  simp [mxTo]; omega
theorem mxTo_at (xs ys : List Int) (k : Nat) (h : xs.length = ys.length) (hk : k < xs.length) : (vi (mxTo xs ys k))[k]? = some (.int .i64 (xs.getD k 0)) := by
  unfold vi mxTo
  rw [List.getElem?_map, List.getElem?_append_right (by simp; omega)]
  have : k - (List.zipWith mx (xs.take k) (ys.take k)).length = 0 := by simp; omega
  rw [this]
  simp [List.getElem?_drop, hk, List.getD]
theorem mxTo_step (xs ys : List Int) (k : Nat) (h : xs.length = ys.length) (hk : k < xs.length) : mxTo xs ys (k + 1) = (mxTo xs ys k).set k (mx (xs.getD k 0) (ys.getD k 0)) := by
  have hl : (List.zipWith mx (xs.take k) (ys.take k)).length = k := by simp; omega
  unfold mxTo
  rw [List.set_append_right _ _ (by omega), hl, Nat.sub_self, List.drop_eq_getElem_cons hk, List.set_cons_zero, List.take_succ_eq_append_getElem hk, List.take_succ_eq_append_getElem (by omega : k < ys.length),
    List.zipWith_append (by simp; omega)]
  simp [List.getD, hk, show k < ys.length by omega]
theorem mxTo_all (xs ys : List Int) (k : Nat) (h : xs.length = ys.length) (hk : k = xs.length) : mxTo xs ys k = List.zipWith mx xs ys := by
  subst hk
  simp only [mxTo, List.take_length, List.drop_length, List.append_nil]
  rw [h, List.take_length]
theorem mxTo_same (xs ys : List Int) (k : Nat) (h : xs.length = ys.length) (hk : k < xs.length) (hm : mx (xs.getD k 0) (ys.getD k 0) = xs.getD k 0) : mxTo xs ys (k + 1) = mxTo xs ys k := by
  rw [mxTo_step xs ys k h hk, hm]
  apply List.ext_getElem?
  intro i
  by_cases e : i = k
  · subst e
    have := mxTo_at xs ys i h hk
    unfold vi at this
    rw [List.getElem?_map] at this
    rw [List.getElem?_set_self (by rw [mxTo_length xs ys i h]; exact hk)]
    cases hh : (mxTo xs ys i)[i]? with
    | none => rw [hh] at this; simp at this
    | some z => rw [hh] at this; simp at this; rw [this]; simp [List.getD]
  · rw [List.getElem?_set_ne (by omega)]

end Go.Proofs.YtkcfcmigcphjlaaGreat
