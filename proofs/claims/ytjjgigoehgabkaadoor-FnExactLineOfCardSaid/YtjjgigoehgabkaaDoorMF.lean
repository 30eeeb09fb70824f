/- The reference's Union: the model. The reference's Union: the walk. The reference's Union, at all lists. -/
import Derived.Test.YtjjgigoehgabkaaDoorMN
import Derived.Test.YtjjgigoehgabkaaDoorAJ


namespace Go.Proofs.YtjjgigoehgabkaaDoor
open Go.RowKit
set_option linter.unusedVariables false

def unionFrom (out : List ActM) : List ActM → Option (List ActM)
  | [] => some out
  | a :: rest =>
    if 0 ≤ findM out a.r a.n then (if sameM (out.getD (findM out a.r a.n).toNat act0) a = true then unionFrom out rest else none) else unionFrom (putM out a) rest
/-- the model of Union -/
def unionM (l m : List ActM) (n : Int) : Option (List ActM) :=
  if setOkM l n = true ∧ setOkM m n = true then (match unionFrom l m with | some out => if setOkM out n = true then some out else none | none => none) else none
theorem putJ_le (l : List ActM) (a : ActM) (j : Nat) : putJ l a j ≤ j := by
  induction j with
  | zero => simp [putJ]
  | succ j ih => rw [putJ]; split <;> omega
theorem putM_length (l : List ActM) (a : ActM) : (putM l a).length = l.length + 1 := by
  have := putJ_le l a l.length
  simp only [putM, List.length_append, List.length_take, List.length_cons, List.length_drop]
  omega
theorem findFrom_range (r n : Int) (l : List ActM) (i : Nat) (h : 0 ≤ findFrom r n l i) : i ≤ (findFrom r n l i).toNat ∧ (findFrom r n l i).toNat < i + l.length := by
  induction l generalizing i with
  | nil => simp [findFrom] at h
  | cons a l ih =>
    rw [findFrom] at h ⊢
    split at h
    · rename_i hx; rw [if_pos hx]; simp
    · rename_i hx; rw [if_neg hx]
      have := ih (i + 1) h
      simp only [List.length_cons]
      omega
theorem find_range (l : List ActM) (r n : Int) (h : 0 ≤ findM l r n) : (findM l r n).toNat < l.length := by
  have := findFrom_range r n l 0 h
  unfold findM
  omega
end Go.Proofs.YtjjgigoehgabkaaDoor
namespace Go.Proofs.YtjjgigoehgabkaaDoor
open Go.RowKit
set_option linter.unusedVariables false

/-- the acts of a slice, where there are any -/
theorem actsT_at {w : World} {a : Option Addr} {len cap : Nat} {ts : List ActT} (h : ActsT w (.slice a len cap) ts) (hp : 0 < len) : len = ts.length ∧ ∃ b off, a = some ⟨b, off, none⟩ ∧ b < w.heap.size ∧ ∀ i, i < len → ActAt w b (off + i * 11) (ts.getD i t0) := by
  rcases h.2 with ⟨a', cap', h', rfl⟩ | ⟨b, off, cap', h', h1, h2, h3, h4⟩
  · simp only [Value.slice.injEq] at h'; omega
  · simp only [Value.slice.injEq] at h'
    obtain ⟨rfl, rfl, rfl⟩ := h'
    exact ⟨rfl, b, off, rfl, h1, h4⟩

def doneM (n : Int) (o : Option (List ActM)) : Option (List ActM) := match o with | some out => if setOkM out n = true then some out else none | none => none
theorem union_eq {l m : List ActM} {n : Int} (h1 : setOkM l n = true) (h2 : setOkM m n = true) : unionM l m n = doneM n (unionFrom l m) := by rw [unionM, if_pos ⟨h1, h2⟩]; rfl

end Go.Proofs.YtjjgigoehgabkaaDoor
namespace Go.Proofs.YtjjgigoehgabkaaDoor
open Go.RowKit
set_option linter.unusedVariables false

end Go.Proofs.YtjjgigoehgabkaaDoor
