/- markUpS, heldUpS; lists of ups and acts as they are marked. -/
import Derived.Test.YtjjgigoehgabkaaDoorN
import Derived.Test.YtjjgigoehgabkaaDoorMC


namespace Go.Proofs.YtjjgigoehgabkaaDoor
open Go.RowKit
set_option linter.unusedVariables false

/-- ups as they are marked from k on: four numbers each -/
def mkU (k : Int) : List UpM → List UpM
  | [] => []
  | _ :: us => ⟨k, k + 1, k + 1 + 1, k + 1 + 1 + 1⟩ :: mkU (k + 4) us
theorem mkU_length : ∀ (k : Int) (us : List UpM), (mkU k us).length = us.length
  | _, [] => rfl
  | k, u :: us => by simp [mkU, mkU_length (k + 4) us]
theorem mkU_getD : ∀ (k : Int) (us : List UpM) (i : Nat), i < us.length → (mkU k us).getD i up0 = ⟨k + 4 * i, k + 4 * i + 1, k + 4 * i + 1 + 1, k + 4 * i + 1 + 1 + 1⟩
  | k, [], i, h => by simp at h
  | k, u :: us, 0, _ => by simp [mkU]
  | k, u :: us, i + 1, h => by
    rw [mkU, List.getD_cons_succ, mkU_getD (k + 4) us i (by simpa using h)]
    have e : k + 4 + 4 * (i : Int) = k + 4 * ((i + 1 : Nat) : Int) := by omega
    rw [e]
theorem mkU_step (k : Int) (us : List UpM) (j : Nat) (h : j < us.length) : ((mkU k us).take j ++ us.drop j).set j ⟨k + 4 * j, k + 4 * j + 1, k + 4 * j + 1 + 1, k + 4 * j + 1 + 1 + 1⟩ = (mkU k us).take (j + 1) ++ us.drop (j + 1) := by
  have hl := mkU_length k us
  have hg := mkU_getD k us j h
  rw [List.set_append_right _ _ (by simp; omega), List.length_take, Nat.min_eq_left (by omega), Nat.sub_self, List.drop_eq_getElem_cons h, List.set_cons_zero, List.take_succ_eq_append_getElem (by omega), List.append_assoc]
  congr 1
  simp only [List.getD, List.getElem?_eq_getElem (show j < (mkU k us).length by omega), Option.getD_some] at hg
  rw [hg]
  rfl

end Go.Proofs.YtjjgigoehgabkaaDoor
