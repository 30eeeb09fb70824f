/- The program's isClosed: each act asked by hasAllFor. -/
import Derived.Test.YtjjgigoehgabkaaDoorNA

namespace Go.Proofs.YtjjgigoehgabkaaDoor
open Go.RowKit
set_option linter.unusedVariables false

theorem cx_ok {xs : List Int} (h : okB xs = true) (i : Nat) : cx xs i = xs.getD i 0 := if_pos h
theorem four_getD (xs : List Int) (h : xs.length ≤ 4) (i : Nat) : [xs.getD 0 0, xs.getD 1 0, xs.getD 2 0, xs.getD 3 0].getD i 0 = xs.getD i 0 := by
  match i with
  | 0 => rfl
  | 1 => rfl
  | 2 => rfl
  | 3 => rfl
  | i + 4 => simp [List.getD, List.getElem?_eq_none (show xs.length ≤ i + 4 by omega)]
/-- isClosed as the model has it -/
theorem clFrom_closed (ts : List ActT) (n : Nat) (hok : ∀ t ∈ ts, actOkM t.a n = true) : clFrom ts (clockM (ts.map ActT.a) n) ts = closedM (ts.map ActT.a) n := by
  have key : ∀ r : List ActT, (∀ t ∈ r, actOkM t.a n = true) → clFrom ts (clockM (ts.map ActT.a) n) r = (r.map ActT.a).all fun a => leqB a.dep (clockM (ts.map ActT.a) n) && (ts.map ActT.a).all fun b => !decide (b.n ≤ a.dep.getD b.r.toNat 0) || leqB b.dep a.dep := by
    intro r
    induction r with
    | nil => intro _; rfl
    | cons t r ih =>
      intro h
      rw [clFrom, ih (fun x hx => h x (List.mem_cons_of_mem _ hx)), List.map_cons, List.all_cons]
      congr 1
      congr 1
      have hd := ok_dep (h t (by simp))
      have hl := (okB_iff _).1 hd.1
      rw [clIn, List.all_filter, List.all_map]
      congr 1
      funext b
      simp only [Function.comp, knowsT, cx_ok hd.1]
      rw [four_getD t.a.dep hl.2.1]
  exact key ts hok

end Go.Proofs.YtjjgigoehgabkaaDoor
