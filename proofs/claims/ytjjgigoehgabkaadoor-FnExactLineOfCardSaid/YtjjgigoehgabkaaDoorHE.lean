/- The reference's l3clock at every list; the reference's ClockOf. -/
import Derived.Test.YtjjgigoehgabkaaDoorMN
import Derived.Test.YtjjgigoehgabkaaDoorMF


namespace Go.Proofs.YtjjgigoehgabkaaDoor
open Go.RowKit
set_option linter.unusedVariables false

def ClockMade (w : World) (l : List ActM) (n : Nat) (e : Ending) (w' : World) : Prop :=
  e = .returned (.slice (some ⟨w.heap.size, 0, none⟩) n n) ∧ w'.ownsRow w.heap.size 3 1 (.slice (some ⟨w.heap.size, 0, none⟩) n n) n (vi (clockM l n)) ∧ Below w.heap.size w w'
theorem clockM_length (l : List ActM) (n : Nat) : (clockM l n).length = n := by rw [clockM, clockFrom_length]; simp

def clockOfM (l : List ActM) (n : Int) : List Int := if setOkM l n = true then clockM l n.toNat else []
def MadeI (w : World) (xs : List Int) (e : Ending) (w' : World) : Prop := ∃ g v, e = .returned v ∧ w.heap.size ≤ g ∧ Own w' g v xs ∧ Below w.heap.size w w'
theorem setOk_bounds {l : List ActM} {n : Int} (h : setOkM l n = true) : ∃ m : Nat, n = m ∧ 1 ≤ m ∧ m ≤ 4 ∧ l.length ≤ 60 ∧ ∀ a ∈ l, 0 ≤ a.r ∧ a.r < m := by
  obtain ⟨h1, h2, h3, h4⟩ := setOk_all h
  obtain ⟨m, rfl⟩ : ∃ m : Nat, n = m := ⟨n.toNat, by omega⟩
  exact ⟨m, rfl, by omega, by omega, h3, fun a ha => by have := ok_parts (h4 a ha); omega⟩
theorem own_made {w : World} {g n : Nat} {xs : List Int} (hl : xs.length = n) (h1 : 1 ≤ n) (h : w.ownsRow g 3 1 (.slice (some ⟨g, 0, none⟩) n n) n (vi xs)) : Own w g (.slice (some ⟨g, 0, none⟩) n n) xs := by
  subst hl
  exact .inr ⟨by omega, _, rfl, h⟩

end Go.Proofs.YtjjgigoehgabkaaDoor
