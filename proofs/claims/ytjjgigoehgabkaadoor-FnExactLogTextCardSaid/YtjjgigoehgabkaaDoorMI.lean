/- The program's isIn, right, fits, maskFits, upsFit. The program's upsFit, total, commonOf, actOf, knows. The program's kinds of acts: their act and fits; knows. The program's stands. The program's deedOf. The program's Ahead. -/
import Derived.Test.YtjjgigoehgabkaaDoorMB
import Derived.Test.YtjjgigoehgabkaaDoorAM
import Derived.Test.YtjjgigoehgabkaaDoorMH
import Derived.Deep.QuietTactic
import Derived.BigRegion
import Derived.Deep.DeepCutAuto
import Derived.StillTailTactics







namespace Go.Proofs.YtjjgigoehgabkaaDoor
open Go.RowKit
set_option linter.unusedVariables false

def inB (n lo hi : Int) : Bool := decide (lo ≤ n) && decide (n ≤ hi)
theorem inB_yes {n lo hi : Int} (h1 : lo ≤ n) (h2 : n ≤ hi) : inB n lo hi = true := by simp [inB, h1, h2]
theorem inB_low {n lo hi : Int} (h1 : ¬ lo ≤ n) : inB n lo hi = false := by simp [inB, h1]
theorem inB_high {n lo hi : Int} (h1 : ¬ n ≤ hi) : inB n lo hi = false := by simp [inB, h1]
theorem inB_no {n lo hi : Int} (h : ¬ (lo ≤ n ∧ n ≤ hi)) : inB n lo hi = false := by
  by_cases h1 : lo ≤ n
  · exact inB_high fun h2 => h ⟨h1, h2⟩
  · exact inB_low h1

/-- the right that an up of a kind wants -/
def rightM (k : Int) : Int := if k = 1 then 2 else if k = 3 then 2 else if k = 4 then 2 else if k = 2 then 4 else 0

theorem right_zero (k : Int) : (rightM k != 0) = (decide (1 ≤ k) && decide (k ≤ 4)) := by
  unfold rightM
  by_cases h1 : k = 1
  · subst h1; rfl
  · by_cases h3 : k = 3
    · subst h3; rfl
    · by_cases h4 : k = 4
      · subst h4; rfl
      · by_cases h2 : k = 2
        · subst h2; rfl
        · simp only [h1, h2, h3, h4, if_false]
          have : ¬ (1 ≤ k ∧ k ≤ 4) := by omega
          simp only [bne_self_eq_false]
          by_cases g : 1 ≤ k
          · have g2 : ¬ k ≤ 4 := fun g2 => this ⟨g, g2⟩
            simp [g2]
          · simp [g]
theorem okUp_eq (u : UpM) : okUp u = ((rightM u.kind != 0) && inB u.bucket 0 2 && inB u.key 0 3) := by
  rw [right_zero]
  have e1 : decide (u.bucket < 3) = decide (u.bucket ≤ 2) := decide_eq_decide.2 (by omega)
  have e2 : decide (u.key < 4) = decide (u.key ≤ 3) := decide_eq_decide.2 (by omega)
  simp only [okUp, inB, e1, e2, Bool.and_assoc]

end Go.Proofs.YtjjgigoehgabkaaDoor
namespace Go.Proofs.YtjjgigoehgabkaaDoor
open Go.RowKit
set_option linter.unusedVariables false

/-- the cells of an act -/
def actV (r n : Int) (vd : Value) (actor kind dst bucket mask gr gn : Int) (vs : Value) : Value := .agg #[.int .i64 r, .int .i64 n, vd, .int .i64 actor, .int .i64 kind, .int .i64 dst, .int .i64 bucket, .int .i64 mask, .int .i64 gr, .int .i64 gn, vs]
end Go.Proofs.YtjjgigoehgabkaaDoor
namespace Go.Proofs.YtjjgigoehgabkaaDoor
open Go.RowKit
set_option linter.unusedVariables false

end Go.Proofs.YtjjgigoehgabkaaDoor
namespace Go.Proofs.YtjjgigoehgabkaaDoor
open Go.RowKit
set_option linter.unusedVariables false

theorem cn_yes {xs : List Int} (h : okB xs = true) : cn xs = xs.length := if_pos h
theorem cx_yes {xs : List Int} (h : okB xs = true) (i : Nat) : cx xs i = xs.getD i 0 := if_pos h
theorem okB_len4 {xs : List Int} (h : okB xs = true) : 1 ≤ xs.length ∧ xs.length ≤ 4 := by
  by_cases hl : 1 ≤ xs.length ∧ xs.length ≤ 4
  · exact hl
  · rw [okB_len xs (by omega)] at h; cases h
def standsM (r n actor : Int) (dep : List Int) (m : Int) : Bool :=
  okB dep && decide ((dep.length : Int) = m) && inB r 0 (m - 1) && inB n 1 100000 && decide (dep.getD r.toNat 0 = n - 1) && inB actor 0 5

end Go.Proofs.YtjjgigoehgabkaaDoor
namespace Go.Proofs.YtjjgigoehgabkaaDoor
open Go.RowKit
set_option linter.unusedVariables false

end Go.Proofs.YtjjgigoehgabkaaDoor
namespace Go.Proofs.YtjjgigoehgabkaaDoor
open Go.RowKit
set_option linter.unusedVariables false

def cmpM (a b : Int) : Int := if a < b then -1 else if b < a then 1 else 0
/-- the first one that is not 0 -/
def orM : List Int → Int
  | [] => 0
  | x :: xs => if x = 0 then orM xs else x
theorem orM_hit (xs : List Int) (k : Nat) (hk : k < xs.length) (h : ∀ j, j < k → xs.getD j 0 = 0) (hx : xs.getD k 0 ≠ 0) : orM xs = xs.getD k 0 := by
  induction k generalizing xs with
  | zero =>
    match xs, hk with
    | x :: xs, _ => simp at hx; simp [orM, hx]
  | succ k ih =>
    match xs, hk with
    | x :: xs, hk =>
      have h0 : x = 0 := by simpa using h 0 (by omega)
      rw [orM, if_pos h0]
      simp only [List.getD_cons_succ] at hx ⊢
      exact ih xs (by simpa using hk) (fun j hj => by simpa using h (j + 1) (by omega)) hx
theorem orM_zero (xs : List Int) (h : ∀ j, j < xs.length → xs.getD j 0 = 0) : orM xs = 0 := by
  induction xs with
  | nil => rfl
  | cons x xs ih =>
    have h0 : x = 0 := by simpa using h 0 (by simp)
    rw [orM, if_pos h0]
    exact ih fun j hj => by simpa using h (j + 1) (by simpa using hj)
theorem zero_step {xs : List Int} {k : Nat} (h : ∀ j, j < k → xs.getD j 0 = 0) (hx : xs.getD k 0 = 0) : ∀ j, j < k + 1 → xs.getD j 0 = 0 := by
  intro j hj
  by_cases e : j = k
  · rw [e]; exact hx
  · exact h j (by omega)

theorem ahead_eq (a b : ActM) : aheadM a b = decide (orM [cmpM (sumW a.dep) (sumW b.dep), cmpM a.r b.r, cmpM a.n b.n] < 0) := by
  unfold aheadM
  by_cases h : sumW a.dep = sumW b.dep
  · rw [if_pos h]
    have e : cmpM (sumW a.dep) (sumW b.dep) = 0 := by simp [cmpM, h]
    rw [e]
    simp only [orM, if_true]
    by_cases h1 : a.r < b.r
    · have e1 : cmpM a.r b.r = -1 := if_pos h1
      rw [e1]; simp [h1]
    · by_cases h2 : b.r < a.r
      · have e1 : cmpM a.r b.r = 1 := by rw [cmpM, if_neg h1, if_pos h2]
        have h3 : ¬ a.r = b.r := by omega
        rw [e1]; simp [h1, h3]
      · have e1 : cmpM a.r b.r = 0 := by rw [cmpM, if_neg h1, if_neg h2]
        have h3 : a.r = b.r := by omega
        rw [e1]
        simp only [h3, if_true, decide_true, Bool.true_and]
        by_cases g1 : a.n < b.n
        · have e2 : cmpM a.n b.n = -1 := if_pos g1
          rw [e2]; simp [g1]
        · by_cases g2 : b.n < a.n
          · have e2 : cmpM a.n b.n = 1 := by rw [cmpM, if_neg g1, if_pos g2]
            rw [e2]; simp [g1]
          · have e2 : cmpM a.n b.n = 0 := by rw [cmpM, if_neg g1, if_neg g2]
            rw [e2]; simp [g1]
  · rw [if_neg h]
    by_cases h1 : sumW a.dep < sumW b.dep
    · have e : cmpM (sumW a.dep) (sumW b.dep) = -1 := if_pos h1
      rw [e]; simp [orM, h1]
    · have e : cmpM (sumW a.dep) (sumW b.dep) = 1 := by rw [cmpM, if_neg h1, if_pos (by omega)]
      rw [e]; simp [orM, h1]

end Go.Proofs.YtjjgigoehgabkaaDoor
