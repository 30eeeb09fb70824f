/- Slices that the call owns; markIntS, heldIntS. -/
import Derived.Test.YtjjgigoehgabkaaDoorMA

namespace Go.Proofs.YtjjgigoehgabkaaDoor
open Go.RowKit
set_option linter.unusedVariables false
theorem toOwn (v : Value) (xs : List Int) (w : World) (h : Ints w v xs) (hl : xs.length ≤ 1048576) :
    Calls Tryd.prog 21 #[v] w fun e w' => e = .returned (.slice (some ⟨w.heap.size, 0, none⟩) xs.length xs.length) ∧ Own w' w.heap.size (.slice (some ⟨w.heap.size, 0, none⟩) xs.length xs.length) xs ∧ Below w.heap.size w w' :=
  (toIntS_any v xs w h hl).mono fun e w' ⟨h1, h2, h3⟩ => ⟨h1, by
    by_cases hp : 0 < xs.length
    · exact .inr ⟨hp, _, rfl, (own_at h2).1⟩
    · have : xs = [] := List.eq_nil_of_length_eq_zero (by omega)
      subst this
      exact .inl ⟨_, _, rfl, rfl⟩, h3⟩
end Go.Proofs.YtjjgigoehgabkaaDoor
