/- Rights, plain: what the laws of holding and of ceilings ask. -/
import Derived.Test.YtcjoecjijmkbaaaGreatQW

namespace Go.Proofs.YtcjoecjijmkbaaaGreat
open Go.RowKit
set_option linter.unusedVariables false
/-- does act i let g's giver hand on what g gives? in the law's order -/
def stepH (l : List ActM) (n er en : Int) (xs : List Int) (g : ActM) (i : Nat) : Bool :=
  holdsM l n i er en xs && decide ((l.getD i act0).to = g.actor) && decide ((l.getD i act0).bucket = g.bucket) && (bits .and .i64 (l.getD i act0).mask g.mask == g.mask) && (bits .and .i64 (l.getD i act0).mask 8 != 0) && knowsM g (l.getD i act0)
def isH (l : List ActM) (n er en : Int) (xs : List Int) (g : ActM) : Nat → Bool
  | 0 => false
  | i + 1 => isH l n er en xs g i || stepH l n er en xs g i
theorem isH_yes {l : List ActM} {n er en : Int} {xs : List Int} {g : ActM} {i : Nat} (h : stepH l n er en xs g i = true) : ∀ k, i < k → isH l n er en xs g k = true
  | 0, hk => by omega
  | k + 1, hk => by
    rw [isH]
    by_cases e : i = k
    · subst e; rw [h, Bool.or_true]
    · rw [isH_yes h k (by omega), Bool.true_or]
theorem holds_parts {l : List ActM} {n k er en : Int} {xs : List Int} (h : holdsM l n k er en xs = true) : ∃ j : Nat, k = j ∧ j < l.length ∧ goodM l n er xs = true ∧ holdK l er en xs j = true := by
  simp only [holdsM, inB, Bool.and_eq_true, decide_eq_true_eq] at h
  obtain ⟨⟨h1, h2, h3⟩, h4⟩ := h
  obtain ⟨j, rfl⟩ := Int.eq_ofNat_of_zero_le h2
  rw [Int.toNat_natCast] at h4
  exact ⟨j, rfl, by omega, h1, h4⟩
theorem holds_mk {l : List ActM} {n er en : Int} {xs : List Int} {j : Nat} (hj : j < l.length) (h1 : goodM l n er xs = true) (h2 : holdK l er en xs j = true) : holdsM l n j er en xs = true := by
  simp only [holdsM, inB, Bool.and_eq_true, decide_eq_true_eq, Int.toNat_natCast]
  exact ⟨⟨h1, by omega, by omega⟩, h2⟩
/-- a grant that holds: the keeper gave it, or somebody who may hand it on -/
theorem holds_law {l : List ActM} {n er en : Int} {xs : List Int} {k : Nat} (h : holdsM l n k er en xs = true) : (l.getD k act0).kind = 1 ∧ ((l.getD k act0).actor = 0 ∨ isH l n er en xs (l.getD k act0) k = true) := by
  obtain ⟨j, hj, hl, hg, hk⟩ := holds_parts h
  obtain rfl : k = j := by omega
  refine ⟨holdK_kind hk, ?_⟩
  rw [holdK_eq] at hk
  simp only [Bool.and_eq_true, Bool.or_eq_true, decide_eq_true_eq, List.any_eq_true, List.mem_range] at hk
  rcases hk.2 with h0 | ⟨i, hi, h1, h2⟩
  · exact .inl h0
  · refine .inr (isH_yes (i := i) ?_ k hi)
    simp only [linkM, handS, Bool.and_eq_true, decide_eq_true_eq] at h2
    simp only [stepH, Bool.and_eq_true, decide_eq_true_eq]
    exact ⟨⟨⟨⟨⟨holds_mk (by omega) hg h1, h2.1.1.2⟩, h2.1.2⟩, h2.2.2⟩, h2.2.1⟩, h2.1.1.1⟩
theorem holds_lt {l : List ActM} {n er en : Int} {xs : List Int} {k : Int} (h : holdsM l n k er en xs = true) : 0 ≤ k ∧ k < l.length := by
  obtain ⟨j, hj, hl, _⟩ := holds_parts h
  omega
end Go.Proofs.YtcjoecjijmkbaaaGreat
