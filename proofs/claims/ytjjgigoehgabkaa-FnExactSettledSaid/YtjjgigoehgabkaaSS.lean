/- Settled, plain: the last act of a place. -/
import Derived.Test.YtjjgigoehgabkaaQA
import Derived.Test.YtjjgigoehgabkaaLA
import Derived.Test.YtjjgigoehgabkaaF2
namespace Go.Proofs.Ytjjgigoehgabkaa
open Go.RowKit
set_option linter.unusedVariables false

/-- the last act of a place -/
def lastActM (l : List ActM) (p : Nat) : Option ActM := (l.filter fun a => decide (a.r = (p : Int))).getLast?
theorem lastAct_nil {l : List ActM} {p : Nat} (h : lastActM l p = none) : cntM l p = 0 := by
  have := List.getLast?_eq_none_iff.1 h
  rw [cntM, this]
  rfl
theorem lastAct_some {l : List ActM} {n : Int} (hs : setOkM l n = true) {p : Nat} {a : ActM} (h : lastActM l p = some a) : a ∈ l ∧ a.r = (p : Int) ∧ a.n = (cntM l p : Int) := by
  obtain ⟨m, rfl, _, _, _, ho, hcu, hc⟩ := setOk_parts hs
  obtain ⟨ys, hys⟩ := List.getLast?_eq_some_iff.1 h
  obtain ⟨m1, m2, rfl, h1, h2⟩ := List.filter_eq_append_iff.1 hys
  obtain ⟨l1, l2, rfl, h3, h4, h5⟩ := List.filter_eq_cons_iff.1 h2
  have hr : a.r = (p : Int) := by simpa using h4
  have hl1 : l1.filter (fun a => decide (a.r = (p : Int))) = [] := List.filter_eq_nil_iff.2 h3
  have hn := number_of (pre := m1 ++ l1) (post := l2) (a := a) ho hcu hc (by simp)
  have hp : a.r.toNat = p := by rw [hr]; simp
  rw [hp] at hn
  refine ⟨by simp, hr, ?_⟩
  have e1 : cntM (m1 ++ l1) p = ys.length := by rw [cntM, List.filter_append, hl1, List.append_nil, h1]
  have e2 : cntM (m1 ++ (l1 ++ a :: l2)) p = ys.length + 1 := by rw [cntM, hys]; simp
  rw [hn, e1, e2]
  simp
/-- what a place is known to know -/
def knownM (l : List ActM) (n p : Nat) : List Int := match lastActM l p with
  | none => List.replicate n 0
  | some a => a.dep.set p a.n
/-- the number under which the program looks the last act up -/
theorem last_named {l : List ActM} {n : Int} (hs : setOkM l n = true) {p : Nat} : (lastActM l p = none ∧ cntM l p = 0 ∧ hasM l p (cntM l p) = false) ∨ ∃ a, lastActM l p = some a ∧ a ∈ l ∧ a.r = (p : Int) ∧ a.n = (cntM l p : Int) := by
  cases h : lastActM l p with
  | none =>
    have h0 := lastAct_nil h
    refine .inl ⟨rfl, h0, ?_⟩
    cases hh : hasM l p (cntM l p)
    · rfl
    · obtain ⟨b, hb, e1, e2⟩ := (has_iff _ _ _).1 hh
      have hf : b ∈ l.filter (fun a => decide (a.r = (p : Int))) := List.mem_filter.2 ⟨hb, by simpa using e1⟩
      rw [cntM] at h0
      rw [List.eq_nil_of_length_eq_zero h0] at hf
      cases hf
  | some a => exact .inr ⟨a, rfl, lastAct_some hs h⟩
theorem known_parts {l : List ActM} {n : Nat} (hs : setOkM l n = true) {p : Nat} (hp : p < n) : okB (knownM l n p) = true ∧ (knownM l n p).length = n ∧ ∀ i, i < n → 0 ≤ (knownM l n p).getD i 0 ∧ (knownM l n p).getD i 0 ≤ (cntM l i : Int) := by
  obtain ⟨m, hm, h1, h4, h60, ho, hcu, hc⟩ := setOk_parts hs
  have hmn : m = n := by omega
  subst hmn
  unfold knownM
  cases h : lastActM l p with
  | none =>
    have hg : ∀ i, (List.replicate m (0 : Int)).getD i 0 = 0 := fun i => by simp [List.getD]; grind
    refine ⟨?_, by simp, fun i hi => by simp only [hg]; omega⟩
    rw [okB_iff]
    refine ⟨by simpa using h1, by simpa using h4, fun x hx => ?_⟩
    have := List.eq_of_mem_replicate hx
    omega
  | some a =>
    obtain ⟨ha, hr, hn⟩ := lastAct_some hs h
    have hok := (setOk_all hs).2.2.2 a ha
    obtain ⟨o1, o2⟩ := ok_dep hok
    obtain ⟨r0, r1, hl⟩ := ok_parts hok
    have k1 := (okB_iff _).1 o1
    have hp2 : a.r.toNat = p := by rw [hr]; simp
    rw [hp2] at o2
    have hcl := (closed_all l m) ▸ hc
    have hall := (List.all_eq_true.1 hcl) a ha
    have hleq := ((hasAll_iff l m a).1 hall).1
    have hle := (leqB_iff _ _).1 hleq
    obtain ⟨c1, c2, c3⟩ := clock_ok hs
    have hnn : 1 ≤ a.n ∧ a.n ≤ 100000 := by
      simp only [actOkM, Bool.and_eq_true, decide_eq_true_eq] at hok
      omega
    have hget : ∀ i, i < m → (a.dep.set p a.n).getD i 0 = if p = i then a.n else a.dep.getD i 0 := fun i hi => by
      by_cases e : p = i
      · subst e
        simp [List.getD, hl, hi]
      · simp [List.getD, e]
    refine ⟨?_, by simpa using hl, fun i hi => ?_⟩
    · rw [okB_iff]
      refine ⟨by simpa using k1.1, by simpa using k1.2.1, fun x hx => ?_⟩
      rcases List.mem_or_eq_of_mem_set hx with hx | rfl
      · exact k1.2.2 x hx
      · omega
    · simp only [hget i hi]
      by_cases e : p = i
      · subst e
        rw [if_pos rfl, hn]
        omega
      · rw [if_neg e]
        have h5 := hle i (by omega)
        rw [c3 i (by omega)] at h5
        have h6 : a.dep.getD i 0 ∈ a.dep := by
          have : i < a.dep.length := by omega
          simp [List.getD, this]
        have := k1.2.2 _ h6
        omega
/-- what every place is known to know -/
def settledM (l : List ActM) (n : Int) : List Int := if setOkM l n = true then (List.range' 1 (n.toNat - 1)).foldl (fun out j => List.zipWith mn out (knownM l n.toNat j)) (knownM l n.toNat 0) else []
theorem zip_known {l : List ActM} {n : Nat} (hs : setOkM l n = true) {p : Nat} (hp : p < n) : List.zipWith mn (clockM l n) (knownM l n p) = knownM l n p := by
  obtain ⟨c1, c2, c3⟩ := clock_ok hs
  obtain ⟨_, k2, k3⟩ := known_parts hs hp
  have hn4 := (setOk_all hs).2.1
  refine List.ext_getElem (by simp [c2, k2]) fun i h1 h2 => ?_
  have hi : i < n := by omega
  have e1 : (clockM l n)[i]'(by omega) = (cntM l i : Int) := by
    rw [← c3 i (by omega)]
    simp [List.getD, show i < (clockM l n).length by omega]
  have e2 : (knownM l n p)[i] = (knownM l n p).getD i 0 := by simp [List.getD, h2]
  rw [List.getElem_zipWith, e1, e2, mn]
  have := (k3 i hi).2
  split <;> omega
/-- the program starts from the clock of all -/
theorem settled_prog {l : List ActM} {n : Nat} (hs : setOkM l n = true) : (List.range n).foldl (fun c p => List.zipWith mn c (knownM l n p)) (clockM l n) = settledM l n := by
  have h1 := (setOk_all hs).1
  obtain ⟨k, rfl⟩ : ∃ k, n = k + 1 := ⟨n - 1, by omega⟩
  rw [settledM, if_pos hs, Int.toNat_natCast, List.range_eq_range', List.range'_succ, List.foldl_cons, zip_known hs (by omega)]
  rfl
end Go.Proofs.Ytjjgigoehgabkaa
