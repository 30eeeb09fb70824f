/- The program's ActOk. -/
import Derived.Test.YtjjgigoehgabkaaDoorBF
import Derived.Deep.RegionWith


namespace Go.Proofs.YtjjgigoehgabkaaDoor
open Go.RowKit
set_option linter.unusedVariables false

/-- the act that each kind gives back -/
def backM (a : ActM) : ActM :=
  if a.kind = 1 then ⟨a.r, a.n, a.dep, a.actor, 1, a.to, a.bucket, a.mask, 0, 0, []⟩
  else if a.kind = 2 then ⟨a.r, a.n, a.dep, a.actor, 2, 0, 0, 0, a.gr, a.gn, []⟩
  else if a.kind = 3 then ⟨a.r, a.n, a.dep, a.actor, 3, 0, a.bucket, a.mask, 0, 0, []⟩
  else ⟨a.r, a.n, a.dep, a.actor, 4, 0, 0, 0, 0, 0, a.ups⟩
def fitsM (a : ActM) : Bool :=
  if a.kind = 1 then inB a.to 0 5 && (inB a.bucket 0 2 && inB a.mask 0 15)
  else if a.kind = 2 then inB a.gr 0 ((a.dep.length : Int) - 1) && inB a.gn 1 (a.dep.getD a.gr.toNat 0)
  else if a.kind = 3 then inB a.bucket 0 2 && inB a.mask 0 15
  else okUps a.ups
theorem actOk_eq (a : ActM) (m : Int) (hk : 1 ≤ a.kind ∧ a.kind ≤ 4) : actOkM a m = (standsM a.r a.n a.actor a.dep m && fitsM a && sameM (backM a) a) := by
  obtain ⟨r, n, dep, actor, kind, dst, bucket, mask, gr, gn, ups⟩ := a
  have hl := @okB_len4 dep
  rw [Bool.eq_iff_iff]
  have hcase : kind = 1 ∨ kind = 2 ∨ kind = 3 ∨ kind = 4 := by simp only at hk; omega
  rcases hcase with rfl | rfl | rfl | rfl
  all_goals
    simp only [actOkM, standsM, fitsM, backM, sameM, fieldsM, maskM, inB, Bool.and_eq_true, decide_eq_true_eq, ActM.mk.injEq, List.length_eq_zero_iff, if_true, true_and]
    simp [-List.getD_eq_getElem?_getD]
    clear hk
  · grind
  · grind
  · grind
  · grind
theorem actOk_kind (a : ActM) (m : Int) (hk : ¬ (1 ≤ a.kind ∧ a.kind ≤ 4)) : actOkM a m = false := by
  have : fieldsM a m = false := by
    unfold fieldsM
    rw [if_neg (by omega), if_neg (by omega), if_neg (by omega), if_neg (by omega)]
  simp [actOkM, this]

end Go.Proofs.YtjjgigoehgabkaaDoor
