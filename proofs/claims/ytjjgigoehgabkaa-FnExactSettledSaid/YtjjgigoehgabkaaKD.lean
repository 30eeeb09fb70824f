/- What a clock knows of a list of acts, and what it lacks: plain. -/
import Derived.Test.YtjjgigoehgabkaaHE
import Derived.Test.YtjjgigoehgabkaaHC
namespace Go.Proofs.Ytjjgigoehgabkaa
set_option linter.unusedVariables false

theorem ok_ups5 {a : ActM} {n : Int} (h : actOkM a n = true) : a.ups.length ≤ 5 := by
  simp only [actOkM, Bool.and_eq_true, fieldsM, okUps, decide_eq_true_eq] at h
  have h := h.2
  split at h
  · simp only [Bool.and_eq_true, decide_eq_true_eq] at h; omega
  · split at h
    · simp only [Bool.and_eq_true, decide_eq_true_eq] at h; omega
    · split at h
      · simp only [Bool.and_eq_true, decide_eq_true_eq] at h; omega
      · split at h
        · simp only [Bool.and_eq_true, decide_eq_true_eq] at h; omega
        · cases h
theorem szL_ok : ∀ (l : List ActM) (n : Int), n ≤ 4 → (∀ a ∈ l, actOkM a n = true) → szL l ≤ 33 * l.length
  | [], _, _, _ => by simp [szL]
  | a :: l, n, hn, h => by
    have h1 := szL_ok l n hn fun b hb => h b (List.mem_cons_of_mem _ hb)
    have h2 := ok_ups5 (h a (by simp))
    have h3 : (a.dep.length : Int) = n := by
      have := h a (by simp)
      simp only [actOkM, Bool.and_eq_true, decide_eq_true_eq] at this
      omega
    simp only [szL, szA, List.length_cons]
    omega
def partM (l : List ActM) (xs : List Int) (b : Bool) : List ActM := l.filter fun a => decide (a.n ≤ xs.getD a.r.toNat 0) == b
theorem partM_len (l : List ActM) (xs : List Int) (b : Bool) : (partM l xs b).length ≤ l.length := List.length_filter_le _ _
theorem partM_snoc (l : List ActM) (a : ActM) (xs : List Int) (b : Bool) : partM (l ++ [a]) xs b = partM l xs b ++ (if (decide (a.n ≤ xs.getD a.r.toNat 0) == b) = true then [a] else []) := by
  unfold partM
  rw [List.filter_append]
  simp only [List.filter_cons, List.filter_nil]
theorem partM_mem {l : List ActM} {xs : List Int} {b : Bool} {a : ActM} (h : a ∈ partM l xs b) : a ∈ l := (List.mem_filter.1 h).1
def cutB (l : List ActM) (n : Int) (xs : List Int) : Bool := setOkM l n && okB xs && decide ((xs.length : Int) = n)
theorem cutB_iff (l : List ActM) (n : Int) (xs : List Int) : cutB l n xs = true ↔ setOkM l n = true ∧ okB xs = true ∧ (xs.length : Int) = n := by simp [cutB, and_assoc]
def partOfM (l : List ActM) (n : Int) (xs : List Int) : List ActM := if cutB l n xs = true then (if setOkM (partM l xs true) n = true then partM l xs true else []) else []
def lacksM (l : List ActM) (n : Int) (xs : List Int) : List ActM := if cutB l n xs = true then partM l xs false else []
theorem szL_setOk {l : List ActM} {n : Int} (h : setOkM l n = true) : szL l ≤ 1980 := by
  obtain ⟨h1, h2, h3, h4⟩ := setOk_all h
  have := szL_ok l n h2 h4
  omega
theorem szL_part {l : List ActM} {n : Int} (h : setOkM l n = true) (xs : List Int) (b : Bool) : szL (partM l xs b) ≤ 1980 := by
  obtain ⟨h1, h2, h3, h4⟩ := setOk_all h
  have := szL_ok (partM l xs b) n h2 fun a ha => h4 a (partM_mem ha)
  have := partM_len l xs b
  omega
theorem szL_partOf (l : List ActM) (n : Int) (xs : List Int) : szL (partOfM l n xs) ≤ 1980 := by
  unfold partOfM
  split
  · split
    · rename_i h _
      exact szL_part ((cutB_iff l n xs).1 h).1 xs true
    · simp [szL]
  · simp [szL]
theorem szL_lacks (l : List ActM) (n : Int) (xs : List Int) : szL (lacksM l n xs) ≤ 1980 := by
  unfold lacksM
  split
  · rename_i h
    exact szL_part ((cutB_iff l n xs).1 h).1 xs false
  · simp [szL]
theorem smallL_ok {l : List ActM} {n : Int} (h : setOkM l n = true) : SmallL l := by
  obtain ⟨h1, h2, h3, h4⟩ := setOk_all h
  refine ⟨by omega, fun a ha => ⟨?_, ?_⟩⟩
  · have := h4 a ha
    simp only [actOkM, Bool.and_eq_true, decide_eq_true_eq] at this
    omega
  · have := ok_ups5 (h4 a ha); omega
theorem smallL_part {l : List ActM} (h : SmallL l) (xs : List Int) (b : Bool) : SmallL (partM l xs b) :=
  ⟨Nat.le_trans (partM_len l xs b) h.1, fun a ha => h.2 a (partM_mem ha)⟩
end Go.Proofs.Ytjjgigoehgabkaa
