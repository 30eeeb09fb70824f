/- Rights, plain: past, later, ceilings. -/
import Derived.Test.YtkcfcmigcphjlaaGreatGG
import Derived.Test.YtkcfcmigcphjlaaGreatGE
import Derived.Test.YtkcfcmigcphjlaaGreatGF



namespace Go.Proofs.YtkcfcmigcphjlaaGreat
open Go.RowKit
set_option linter.unusedVariables false

/-- an act later than the eye -/
def laterM (a : ActM) (er en : Int) : Bool := decide (0 ≤ er) && decide (1 ≤ en) && decide (en ≤ a.dep.getD er.toNat 0)
/-- an act that the eye knows -/
def pastM (xs : List Int) (a : ActM) : Bool := decide (a.n ≤ xs.getD a.r.toNat 0)
/-- a good eye for a set -/
def goodM (l : List ActM) (n er : Int) (xs : List Int) : Bool := cutB l n xs && inB er (-1) (n - 1) && leqB xs (clockM l n.toNat)
def ceilIs (bucket : Int) (c : ActM) : Bool := decide (c.kind = 3) && decide (c.actor = 0) && decide (c.bucket = bucket)
def overM (l : List ActM) (bucket : Int) (xs : List Int) (c : ActM) : Bool := l.any fun d => ceilIs bucket d && pastM xs d && knowsM d c
def ceilStep (l : List ActM) (bucket er en : Int) (xs : List Int) (m : Int) (c : ActM) : Int :=
  if (ceilIs bucket c && !laterM c er en && !overM l bucket xs c) = true then bits .and .i64 m c.mask else m
def ceilM (l : List ActM) (bucket er en : Int) (xs : List Int) : Int := l.foldl (ceilStep l bucket er en xs) 15
def ceilingM (l : List ActM) (n bucket er en : Int) (xs : List Int) : Int := if goodM l n er xs = true then ceilM l bucket er en xs else 0

theorem later_knows {a : ActM} {er en : Int} (h : er < a.dep.length) : (inB er 0 ((a.dep.length : Int) - 1) && inB en 1 (a.dep.getD er.toNat 0)) = laterM a er en := by
  unfold inB laterM
  by_cases h0 : 0 ≤ er
  · have h1 : er ≤ (a.dep.length : Int) - 1 := by omega
    simp [h0, h1]
  · simp [h0]
theorem clock_ok {l : List ActM} {n : Nat} (h : setOkM l n = true) : okB (clockM l n) = true ∧ (clockM l n).length = n ∧ (∀ i, i < 4 → (clockM l n).getD i 0 = (cntM l i : Int)) := by
  obtain ⟨m, hm, h1, h4, h60, hr⟩ := setOk_bounds h
  have hmn : m = n := by omega
  subst hmn
  have hl := clockM_length l m
  have hc : ∀ i, i < 4 → (clockM l m).getD i 0 = (cntM l i : Int) := by
    intro i hi
    by_cases h : i < m
    · exact clockM_cnt l hr i h
    · rw [getD_out _ _ (by omega), cnt_out l m i (by omega) (fun a ha => (hr a ha).2)]
      rfl
  refine ⟨?_, hl, hc⟩
  rw [okB_iff]
  refine ⟨by omega, by omega, fun x hx => ?_⟩
  obtain ⟨i, hi, rfl⟩ := List.mem_iff_getElem.1 hx
  have h2 := hc i (by omega)
  have h3 : (clockM l m)[i] = (clockM l m).getD i 0 := by simp [List.getD, hi]
  rw [h3, h2]
  have := cnt_range l i h60
  omega
theorem leq_clock {l : List ActM} {n : Nat} {xs : List Int} (h : setOkM l n = true) (ho : okB xs = true) (hl : xs.length = n) :
    eqB ((mxk (cn xs) (cx xs 0) (cx xs 1) (cx xs 2) (cx xs 3) (cntM l 0) (cntM l 1) (cntM l 2) (cntM l 3) (cn xs).toNat).drop 1) [(cntM l 0 : Int), cntM l 1, cntM l 2, cntM l 3] = leqB xs (clockM l n) := by
  obtain ⟨k1, k2, k3⟩ := clock_ok h
  have := leq_math xs (clockM l n) (by simp [bothB, ho, k1, k2, hl])
  have e : ∀ i, i < 4 → cx (clockM l n) i = (cntM l i : Int) := fun i hi => by rw [cx, if_pos k1, k3 i hi]
  rw [e 0 (by omega), e 1 (by omega), e 2 (by omega), e 3 (by omega)] at this
  exact this
theorem cutB_set {l : List ActM} {n : Int} {xs : List Int} (h : cutB l n xs = true) : setOkM l n = true ∧ okB xs = true ∧ (xs.length : Int) = n ∧ ∃ m : Nat, n = m ∧ 1 ≤ m ∧ m ≤ 4 ∧ xs.length = m := by
  obtain ⟨h1, h2, h3⟩ := (cutB_iff l n xs).1 h
  obtain ⟨m, hm, g1, g4, _, _⟩ := setOk_bounds h1
  exact ⟨h1, h2, h3, m, hm, g1, g4, by omega⟩
theorem good_parts {l : List ActM} {n er : Int} {xs : List Int} (h : goodM l n er xs = true) : cutB l n xs = true ∧ -1 ≤ er ∧ er < n ∧ leqB xs (clockM l n.toNat) = true := by
  simp only [goodM, inB, Bool.and_eq_true, decide_eq_true_eq] at h
  exact ⟨h.1.1, h.1.2.1, by omega, h.2⟩
theorem cx_getD {xs : List Int} (h : okB xs = true) (i : Nat) : cx xs i = xs.getD i 0 := by rw [cx, if_pos h]
theorem four_cx {xs : List Int} (h : okB xs = true) {q : Nat} (hq : q < 4) : [cx xs 0, cx xs 1, cx xs 2, cx xs 3].getD q 0 = xs.getD q 0 := by
  match q, hq with
  | 0, _ => exact cx_getD h 0
  | 1, _ => exact cx_getD h 1
  | 2, _ => exact cx_getD h 2
  | 3, _ => exact cx_getD h 3
theorem fold_step {l : List ActT} {k : Nat} (h : k < l.length) (f : Int → ActM → Int) (m : Int) : ((l.map ActT.a).drop k).foldl f m = ((l.map ActT.a).drop (k + 1)).foldl f (f m (l.getD k t0).a) := by
  rw [drop_ts h, List.foldl_cons]
theorem any_step {l : List ActT} {k : Nat} (h : k < l.length) (f : ActM → Bool) : ((l.map ActT.a).drop k).any f = (f (l.getD k t0).a || ((l.map ActT.a).drop (k + 1)).any f) := by
  rw [drop_ts h, List.any_cons]
end Go.Proofs.YtkcfcmigcphjlaaGreat
