/- What the reference and the program are to answer on acts; the law FnExactActOk from it. -/
import Derived.Test.YtcgncaiehdcooaaAD
import Derived.Test.YtcgncaiehdcooaaAF
namespace Go.Proofs.Ytcgncaiehdcooaa
open Go.RowKit
set_option linter.unusedVariables false

theorem szM_ok {d u : Nat} {left : Int} (h : ¬ szM d u left < 0) : (d : Int) ≤ left ∧ (u : Int) ≤ left ∧ szM d u left = left - d - u := by
  unfold szM at h ⊢
  split at h
  · omega
  · split at h
    · omega
    · rename_i h1 h2
      rw [if_neg h1, if_neg h2]
      omega
theorem szM_range (d u : Nat) (left : Int) (h : left ≤ 1048576) : -1 ≤ szM d u left ∧ szM d u left ≤ 1048576 := by
  unfold szM
  split
  · omega
  · split <;> omega

/-- the model of ActOk -/
def okUp (u : UpM) : Bool := decide (1 ≤ u.kind) && decide (u.kind ≤ 4) && decide (0 ≤ u.bucket) && decide (u.bucket < 3) && decide (0 ≤ u.key) && decide (u.key < 4)
def okUps (l : List UpM) : Bool := decide (l.length ≤ 5) && l.all okUp
def maskM (a : ActM) : Bool := decide (0 ≤ a.bucket) && decide (a.bucket < 3) && decide (0 ≤ a.mask) && decide (a.mask ≤ 15)
def fieldsM (a : ActM) (n : Int) : Bool :=
  if a.kind = 1 then decide (0 ≤ a.to) && decide (a.to < 6) && maskM a && decide (a.gr = 0) && decide (a.gn = 0) && decide (a.ups.length = 0)
  else if a.kind = 2 then decide (0 ≤ a.gr) && decide (a.gr < n) && decide (1 ≤ a.gn) && decide (a.gn ≤ a.dep.getD a.gr.toNat 0) && decide (a.to = 0) && decide (a.bucket = 0) && decide (a.mask = 0) && decide (a.ups.length = 0)
  else if a.kind = 3 then maskM a && decide (a.to = 0) && decide (a.gr = 0) && decide (a.gn = 0) && decide (a.ups.length = 0)
  else if a.kind = 4 then okUps a.ups && decide (a.to = 0) && decide (a.bucket = 0) && decide (a.mask = 0) && decide (a.gr = 0) && decide (a.gn = 0)
  else false
def actOkM (a : ActM) (n : Int) : Bool :=
  decide (1 ≤ n) && decide (n ≤ 4) && decide (0 ≤ a.r) && decide (a.r < n) && decide (1 ≤ a.n) && decide (a.n ≤ 100000) && okB a.dep && decide ((a.dep.length : Int) = n) && decide (a.dep.getD a.r.toNat 0 = a.n - 1) && decide (0 ≤ a.actor) && decide (a.actor < 6) && fieldsM a n
/-- the model of Needs -/
def needsM (a : ActM) (b : Int) : Int :=
  (if a.ups.any (fun u => u.bucket = b && u.kind = 2) = true then 4 else 0) + (if a.ups.any (fun u => u.bucket = b && (u.kind = 1 || u.kind = 3 || u.kind = 4)) = true then 2 else 0)
def sameM (a b : ActM) : Bool := decide (a = b)

def ImplKnows : Prop := ∀ (v v' : Value) (a b : ActM) (w : World), ActIs w v a → ActIs w v' b →
  Calls Try.prog 14 #[v, v'] w fun e w' => e = .returned (.bool (knowsM a b)) ∧ Below w.heap.size w w'
def SpecKnows : Prop := ∀ (v v' : Value) (a b : ActM) (w : World), ActIs w v a → ActIs w v' b →
  Calls Try.prog 15 #[v, v'] w fun e w' => e = .returned (.bool (knowsM a b)) ∧ Below w.heap.size w w'
def ImplAhead : Prop := ∀ (v v' : Value) (a b : ActM) (w : World), ActIs w v a → ActIs w v' b →
  Calls Try.prog 20 #[v, v'] w fun e w' => e = .returned (.bool (aheadM a b)) ∧ Below w.heap.size w w'
def SpecAhead : Prop := ∀ (v v' : Value) (a b : ActM) (w : World), ActIs w v a → ActIs w v' b →
  Calls Try.prog 21 #[v, v'] w fun e w' => e = .returned (.bool (aheadM a b)) ∧ Below w.heap.size w w'
def ImplActOk : Prop := ∀ (v : Value) (a : ActM) (n : Int) (w : World), ActIs w v a → (-9223372036854775808 ≤ n ∧ n ≤ 9223372036854775807) →
  Calls Try.prog 61 #[v, .int .i64 n] w fun e w' => e = .returned (.bool (actOkM a n)) ∧ Below w.heap.size w w'
def ImplNeeds : Prop := ∀ (v : Value) (a : ActM) (n : Int) (w : World), ActIs w v a → (-9223372036854775808 ≤ n ∧ n ≤ 9223372036854775807) →
  Calls Try.prog 23 #[v, .int .i64 n] w fun e w' => e = .returned (.int .i64 (needsM a n)) ∧ Below w.heap.size w w'
def ImplSameAct : Prop := ∀ (v v' : Value) (a b : ActM) (w : World), ActIs w v a → ActIs w v' b →
  Calls Try.prog 17 #[v, v'] w fun e w' => e = .returned (.bool (sameM a b)) ∧ Below w.heap.size w w'
def SpecActOk : Prop := ∀ (v : Value) (a : ActM) (n : Int) (w : World), ActIs w v a → (-9223372036854775808 ≤ n ∧ n ≤ 9223372036854775807) →
  Calls Try.prog 16 #[v, .int .i64 n] w fun e w' => e = .returned (.bool (actOkM a n)) ∧ Below w.heap.size w w'
def SpecNeeds : Prop := ∀ (v : Value) (a : ActM) (n : Int) (w : World), ActIs w v a → (-9223372036854775808 ≤ n ∧ n ≤ 9223372036854775807) →
  Calls Try.prog 24 #[v, .int .i64 n] w fun e w' => e = .returned (.int .i64 (needsM a n)) ∧ Below w.heap.size w w'
def SpecSameAct : Prop := ∀ (v v' : Value) (a b : ActM) (w : World), ActIs w v a → ActIs w v' b →
  Calls Try.prog 90 #[v, v'] w fun e w' => e = .returned (.bool (sameM a b)) ∧ Below w.heap.size w w'

end Go.Proofs.Ytcgncaiehdcooaa
