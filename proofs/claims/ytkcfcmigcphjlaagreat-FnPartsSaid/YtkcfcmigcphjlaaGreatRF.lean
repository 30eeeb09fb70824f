/- FnSets: plain facts of a set, its clock and its order. -/
import Derived.Test.YtkcfcmigcphjlaaGreatQI
import Derived.Test.YtkcfcmigcphjlaaGreatMJ
import Derived.Test.YtkcfcmigcphjlaaGreatHE
import Derived.Test.YtkcfcmigcphjlaaGreatM




namespace Go.Proofs.YtkcfcmigcphjlaaGreat
open Go.RowKit
set_option linter.unusedVariables false

theorem set_closed {l : List ActM} {n : Nat} (h : setOkM l n = true) : (∀ a ∈ l, actOkM a n = true) ∧ closedM l n = true := by
  have h4 := (setOk_all h).2.2.2
  unfold setOkM at h
  simp only [Bool.and_eq_true] at h
  have h2 := h.2
  have hp : progM l n = true := by
    rw [prog_ref]
    rw [Int.toNat_natCast] at h2
    exact h2
  simp only [progM, Bool.and_eq_true] at hp
  exact ⟨h4, hp.2⟩
theorem clockFrom_in (l : List ActM) (v : List Int) (c : Int) (hc : 0 ≤ c) (h : ∀ x ∈ v, 0 ≤ x ∧ x ≤ c) : ∀ x ∈ clockFrom l v, 0 ≤ x ∧ x ≤ c + l.length := by
  induction l generalizing v c with
  | nil => intro x hx; have := h x hx; simp; omega
  | cons a l ih =>
    intro x hx
    have hg : 0 ≤ v.getD a.r.toNat 0 ∧ v.getD a.r.toNat 0 ≤ c := by
      by_cases hi : a.r.toNat < v.length
      · rw [List.getD, List.getElem?_eq_getElem hi]; exact h _ (List.getElem_mem hi)
      · rw [List.getD, List.getElem?_eq_none (by omega)]; exact ⟨Int.le_refl _, hc⟩
    have := ih (v.set a.r.toNat (v.getD a.r.toNat 0 + 1)) (c + 1) (by omega) (fun y hy => by
      rcases List.mem_or_eq_of_mem_set hy with hy | rfl
      · have := h y hy; omega
      · omega) x hx
    simp only [List.length_cons]
    omega
theorem sum_bump (v : List Int) (i : Nat) (hi : i < v.length) : (v.set i (v.getD i 0 + 1)).sum = v.sum + 1 := by
  induction v generalizing i with
  | nil => simp at hi
  | cons x v ih =>
    cases i with
    | zero => simp; omega
    | succ i =>
      have := ih i (by simpa using hi)
      simp only [List.set_cons_succ, List.getD_cons_succ, List.sum_cons] at this ⊢
      omega
theorem clockFrom_sum (l : List ActM) (v : List Int) (h : ∀ a ∈ l, a.r.toNat < v.length) : (clockFrom l v).sum = v.sum + l.length := by
  induction l generalizing v with
  | nil => simp [clockFrom]
  | cons a l ih =>
    rw [clockFrom, ih _ (fun x hx => by rw [List.length_set]; exact h x (List.mem_cons_of_mem _ hx)), sum_bump _ _ (h a (List.mem_cons_self ..))]
    simp only [List.length_cons]
    omega
theorem set_clock_ok {l : List ActM} {n : Nat} (h : setOkM l n = true) : okB (clockM l n) = true := by
  obtain ⟨h1, h2, h3, h4⟩ := setOk_all h
  rw [okB_iff]
  have e : (clockM l n).length = n := by unfold clockM; rw [clockFrom_length]; simp
  refine ⟨by omega, by omega, fun x hx => ?_⟩
  have := clockFrom_in l (List.replicate n 0) 0 (by omega) (fun y hy => by rw [List.eq_of_mem_replicate hy]; omega) x hx
  omega
theorem set_sum {l : List ActM} {n : Nat} (h : setOkM l n = true) : spSum (clockM l n) = l.length := by
  unfold spSum
  rw [if_pos (set_clock_ok h)]
  unfold clockM
  rw [clockFrom_sum]
  · simp
  · intro a ha
    have := ok_parts ((setOk_all h).2.2.2 a ha)
    rw [List.length_replicate]
    omega
theorem set_leq {l : List ActM} {n : Nat} (h : setOkM l n = true) {a : ActM} (ha : a ∈ l) : spLeq a.dep (clockM l n) = true := by
  obtain ⟨h4, hc⟩ := set_closed h
  have hd := (ok_dep (h4 a ha)).1
  have hl := (ok_parts (h4 a ha)).2.2
  have e : (clockM l n).length = n := by unfold clockM; rw [clockFrom_length]; simp
  simp only [closedM, List.all_eq_true, Bool.and_eq_true] at hc
  simp [spLeq, bothB, hd, set_clock_ok h, hl, e, (hc a ha).1]
theorem set_knows {l : List ActM} {n : Nat} (h : setOkM l n = true) {a b : ActM} (ha : a ∈ l) (hb : b ∈ l) (hk : knowsM a b = true) : aheadM b a = true :=
  knows_ahead (set_closed h).1 (set_closed h).2 ha hb hk
end Go.Proofs.YtkcfcmigcphjlaaGreat
