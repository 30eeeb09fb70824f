/- What the program asks of an act that is to be put in, and what the reference asks: the same. -/
import Derived.Test.YtkcfcmigcphjlaaGreatGE
import Derived.Test.YtkcfcmigcphjlaaGreatGC



namespace Go.Proofs.YtkcfcmigcphjlaaGreat
open Go.RowKit
set_option linter.unusedVariables false

/-- is all there that the act knows, and does it know what that knew? -/
def hasAllM (l : List ActM) (n : Nat) (a : ActM) : Bool := leqB a.dep (clockM l n) && l.all fun b => !decide (b.n ≤ a.dep.getD b.r.toNat 0) || leqB b.dep a.dep
def hasM (l : List ActM) (r n : Int) : Bool := l.any fun b => decide (b.r = r) && decide (b.n = n)
def takesM (l : List ActM) (n : Nat) (a : ActM) : Bool := decide (l.length < 60) && actOkM a n && !hasM l a.r a.n && hasAllM l n a
theorem closed_all (l : List ActM) (n : Nat) : closedM l n = l.all (hasAllM l n) := rfl
theorem hasAll_iff (l : List ActM) (n : Nat) (a : ActM) : hasAllM l n a = true ↔ leqB a.dep (clockM l n) = true ∧ ∀ b ∈ l, b.n ≤ a.dep.getD b.r.toNat 0 → leqB b.dep a.dep = true := by
  simp only [hasAllM, Bool.and_eq_true, List.all_eq_true, Bool.or_eq_true, Bool.not_eq_true', decide_eq_false_iff_not]
  constructor
  · rintro ⟨h1, h2⟩
    exact ⟨h1, fun b hb hn => (h2 b hb).resolve_left (fun h => h hn)⟩
  · rintro ⟨h1, h2⟩
    exact ⟨h1, fun b hb => by
      by_cases hn : b.n ≤ a.dep.getD b.r.toNat 0
      · exact .inr (h2 b hb hn)
      · exact .inl hn⟩
theorem has_iff (l : List ActM) (r n : Int) : hasM l r n = true ↔ ∃ b ∈ l, b.r = r ∧ b.n = n := by simp [hasM]
theorem findFrom_has (r n : Int) : ∀ (l : List ActM) (i : Nat), findFrom r n l i < 0 ↔ hasM l r n = false
  | [], i => by simp [findFrom, hasM]
  | a :: l, i => by
    rw [findFrom]
    by_cases h : a.r = r ∧ a.n = n
    · rw [if_pos h]
      simp [hasM, h.1, h.2]
    · rw [if_neg h, findFrom_has r n l (i + 1)]
      have : (decide (a.r = r) && decide (a.n = n)) = false := by
        rw [Bool.and_eq_false_iff]
        by_cases e : a.r = r
        · exact .inr (by simpa using fun e2 => h ⟨e, e2⟩)
        · exact .inl (by simpa using e)
      simp [hasM, this]
theorem find_has (l : List ActM) (r n : Int) : findM l r n < 0 ↔ hasM l r n = false := findFrom_has r n l 0

theorem ahead_total {a b : ActM} (h : ¬ (a.r = b.r ∧ a.n = b.n)) (h' : ¬ aheadM a b = true) : aheadM b a = true := by
  unfold aheadM at *
  by_cases e : sumW a.dep = sumW b.dep
  · rw [if_pos e] at h'
    rw [if_pos e.symm]
    simp only [Bool.or_eq_true, Bool.and_eq_true, decide_eq_true_eq, not_or, not_and] at h' ⊢
    omega
  · rw [if_neg e] at h'
    rw [if_neg (fun h => e h.symm)]
    simp only [decide_eq_true_eq] at h' ⊢
    omega
theorem putJ_in (l : List ActM) (a : ActM) : ∀ (k i : Nat), putJ l a k ≤ i → i < k → aheadM a (l.getD i act0) = true
  | 0, i, _, h => by omega
  | k + 1, i, h1, h2 => by
    rw [putJ] at h1
    split at h1
    · rename_i hc
      by_cases e : i = k
      · rw [e]; exact hc
      · exact putJ_in l a k i h1 (by omega)
    · omega
theorem putJ_out (l : List ActM) (a : ActM) : ∀ (k : Nat), putJ l a k = 0 ∨ ¬ aheadM a (l.getD (putJ l a k - 1) act0) = true
  | 0 => .inl rfl
  | k + 1 => by
    rw [putJ]
    split
    · exact putJ_out l a k
    · rename_i hc
      exact .inr hc
theorem order_iff {n : Int} : ∀ (l : List ActM) (p : Option ActM), orderM n p l = true ↔ (∀ a ∈ l, actOkM a n = true) ∧ l.Pairwise (fun a b => aheadM a b = true) ∧ ∀ q, p = some q → ∀ b ∈ l, aheadM q b = true
  | [], p => by simp [orderM]
  | a :: l, p => by
    constructor
    · intro h
      exact ⟨order_all _ p h, (order_pairwise _ p h).1, (order_pairwise _ p h).2⟩
    · rintro ⟨h1, h2, h3⟩
      obtain ⟨h4, h5⟩ := List.pairwise_cons.1 h2
      simp only [orderM, Bool.and_eq_true]
      refine ⟨⟨h1 a (by simp), ?_⟩, (order_iff l (some a)).2 ⟨fun b hb => h1 b (List.mem_cons_of_mem _ hb), h5, fun q hq b hb => by cases hq; exact h4 b hb⟩⟩
      cases p with
      | none => rfl
      | some q => exact h3 q rfl a (by simp)
theorem putM_perm (l : List ActM) (a : ActM) : (putM l a).Perm (a :: l) := by
  have := (List.perm_middle (a := a) (l₁ := l.take (putJ l a l.length)) (l₂ := l.drop (putJ l a l.length)))
  rw [List.take_append_drop] at this
  exact this
theorem putM_mem (l : List ActM) (a b : ActM) : b ∈ putM l a ↔ b = a ∨ b ∈ l := by
  rw [(putM_perm l a).mem_iff, List.mem_cons]
theorem putM_cnt (l : List ActM) (a : ActM) (p : Nat) : cntM (putM l a) p = cntM l p + (if a.r = (p : Int) then 1 else 0) := by
  have h1 : cntM (putM l a) p = cntM (a :: l) p := by
    unfold cntM
    exact ((putM_perm l a).filter _).length_eq
  rw [h1, show a :: l = [a] ++ l from rfl, cnt_app, cnt_one]
  omega
/-- into a list in order an act of another name is put in order -/
theorem putM_pairwise {l : List ActM} {a : ActM} (hp : l.Pairwise (fun a b => aheadM a b = true)) (hn : hasM l a.r a.n = false) : (putM l a).Pairwise (fun a b => aheadM a b = true) := by
  have hne : ∀ b ∈ l, ¬ (a.r = b.r ∧ a.n = b.n) := fun b hb h => by
    have := (has_iff l a.r a.n).2 ⟨b, hb, h.1.symm, h.2.symm⟩
    rw [hn] at this
    cases this
  have hsplit : (l.take (putJ l a l.length) ++ l.drop (putJ l a l.length)).Pairwise (fun a b => aheadM a b = true) := by rw [List.take_append_drop]; exact hp
  obtain ⟨p1, p2, p3⟩ := List.pairwise_append.1 hsplit
  have hj := putJ_le l a l.length
  have hin := putJ_in l a l.length
  have hout := putJ_out l a l.length
  unfold putM
  generalize putJ l a l.length = j at *
  have hd : ∀ b ∈ l.drop j, aheadM a b = true := fun b hb => by
    obtain ⟨i, hi, e⟩ := List.mem_iff_getElem.1 hb
    rw [List.length_drop] at hi
    have := hin (j + i) (by omega) (by omega)
    rw [List.getElem_drop] at e
    rw [← e]
    simpa [List.getD, List.getElem?_eq_getElem (show j + i < l.length by omega)] using this
  have ht : ∀ b ∈ l.take j, aheadM b a = true := fun b hb => by
    rcases hout with h0 | h0
    · rw [h0] at hb
      simp at hb
    · obtain ⟨i, hi, e⟩ := List.mem_iff_getElem.1 hb
      rw [List.length_take] at hi
      have hjl : j - 1 < l.length := by omega
      have hg : l.getD (j - 1) act0 = l[j - 1] := by simp [List.getD, List.getElem?_eq_getElem hjl]
      rw [hg] at h0
      have hm := ahead_total (hne _ (List.getElem_mem hjl)) h0
      rw [List.getElem_take] at e
      by_cases h : i = j - 1
      · subst h
        rw [← e]
        exact hm
      · have := List.pairwise_iff_getElem.1 hp i (j - 1) (by omega) hjl (by omega)
        rw [← e]
        exact ahead_trans this hm
  refine List.pairwise_append.2 ⟨p1, List.pairwise_cons.2 ⟨hd, p2⟩, fun x hx y hy => ?_⟩
  rcases List.mem_cons.1 hy with rfl | hy
  · exact ht x hx
  · exact p3 x hx y hy
/-- the first one that the act stands ahead of: there it is put -/
theorem putJ_idx {l : List ActM} {a : ActM} (hp : l.Pairwise (fun a b => aheadM a b = true)) : putJ l a l.length = l.findIdx (fun b => aheadM a b) := by
  have hj := putJ_le l a l.length
  have hin := putJ_in l a l.length
  have hout := putJ_out l a l.length
  generalize putJ l a l.length = j at *
  symm
  by_cases hjl : j < l.length
  · rw [List.findIdx_eq hjl]
    refine ⟨by simpa [List.getD, List.getElem?_eq_getElem hjl] using hin j (Nat.le_refl _) hjl, fun i hi => ?_⟩
    rcases hout with h0 | h0
    · omega
    · have hg : l.getD (j - 1) act0 = l[j - 1]'(by omega) := by simp [List.getD, List.getElem?_eq_getElem (show j - 1 < l.length by omega)]
      rw [hg] at h0
      by_cases h : i = j - 1
      · subst h
        simpa using h0
      · have := List.pairwise_iff_getElem.1 hp i (j - 1) (by omega) (by omega) (by omega)
        by_cases hc : aheadM a l[i] = true
        · exact absurd (ahead_trans hc this) h0
        · simpa using hc
  · have hjl : j = l.length := by omega
    rw [hjl, List.findIdx_eq_length]
    intro x hx
    rcases hout with h0 | h0
    · rw [hjl] at h0
      rw [List.length_eq_zero_iff.1 h0] at hx
      cases hx
    · obtain ⟨i, hi, e⟩ := List.mem_iff_getElem.1 hx
      have hg : l.getD (j - 1) act0 = l[j - 1]'(by omega) := by simp [List.getD, List.getElem?_eq_getElem (show j - 1 < l.length by omega)]
      rw [hg] at h0
      by_cases h : i = j - 1
      · subst h
        rw [← e]
        simpa using h0
      · have := List.pairwise_iff_getElem.1 hp i (j - 1) (by omega) (by omega) (by omega)
        by_cases hc : aheadM a l[i] = true
        · exact absurd (ahead_trans hc this) h0
        · rw [← e]
          simpa using hc

theorem setOk_parts {l : List ActM} {n : Int} (h : setOkM l n = true) : ∃ m : Nat, n = m ∧ 1 ≤ m ∧ m ≤ 4 ∧ l.length ≤ 60 ∧ orderM m none l = true ∧ countsUpM l m = true ∧ closedM l m = true := by
  rw [setOk_prog] at h
  simp only [Bool.and_eq_true, decide_eq_true_eq] at h
  obtain ⟨m, rfl⟩ := Int.eq_ofNat_of_zero_le (show 0 ≤ n by omega)
  rw [Int.toNat_natCast] at h
  exact ⟨m, rfl, by omega, by omega, h.1.2, h.2.1.1, h.2.1.2, h.2.2⟩
theorem setOk_mk {l : List ActM} {m : Nat} (h1 : 1 ≤ m) (h4 : m ≤ 4) (hl : l.length ≤ 60) (ho : orderM m none l = true) (hc : countsUpM l m = true) (hcl : closedM l m = true) : setOkM l m = true := by
  rw [setOk_prog]
  simp only [Bool.and_eq_true, decide_eq_true_eq, Int.toNat_natCast]
  exact ⟨⟨⟨by omega, by omega⟩, hl⟩, ⟨ho, hc⟩, hcl⟩
theorem counts_iff (l : List ActM) (n : Nat) : countsUpM l n = true ↔ ∀ p, p < n → ∀ k, k < cntM l p → hasM l p ((k : Int) + 1) = true := by
  simp only [countsUpM, List.all_eq_true, List.mem_range]
  exact Iff.rfl
theorem clock_getD {l : List ActM} {n : Nat} (hok : ∀ a ∈ l, actOkM a n = true) (p : Nat) (hp : p < n) : (clockM l n).getD p 0 = (cntM l p : Int) :=
  clockM_cnt l (fun a ha => ⟨(ok_parts (hok a ha)).1, (ok_parts (hok a ha)).2.1⟩) p hp
theorem ok_num {a : ActM} {n : Int} (h : actOkM a n = true) : 1 ≤ a.n := by
  simp only [actOkM, Bool.and_eq_true, decide_eq_true_eq] at h
  omega
/-- the program's question and the reference's -/
theorem takes_add {l : List ActM} {m : Nat} {a : ActM} (h : setOkM l m = true) : takesM l m a = (decide (findM l a.r a.n < 0) && setOkM (putM l a) m) := by
  obtain ⟨m', hm, h1, h4, hl, ho, hc, hcl⟩ := setOk_parts h
  obtain rfl : m = m' := by omega
  have hok := order_all l none ho
  have hpw := ((order_iff l none).1 ho).2.1
  rw [counts_iff] at hc
  rw [closed_all, List.all_eq_true] at hcl
  rw [Bool.eq_iff_iff]
  constructor
  · intro ht
    simp only [takesM, Bool.and_eq_true, decide_eq_true_eq, Bool.not_eq_true'] at ht
    obtain ⟨⟨⟨t1, t2⟩, t3⟩, t4⟩ := ht
    obtain ⟨t5, t6⟩ := (hasAll_iff l m a).1 t4
    have oa := ok_dep t2
    obtain ⟨r0, r1, la⟩ := ok_parts t2
    obtain ⟨q, hq⟩ := Int.eq_ofNat_of_zero_le r0
    have hqm : q < m := by omega
    have hqt : a.r.toNat = q := by omega
    have hn1 := ok_num t2
    have hnum : a.n = (cntM l q : Int) + 1 := by
      have h2 := (leqB_iff _ _).1 t5 q (by omega)
      rw [clock_getD hok q hqm] at h2
      rw [hqt] at oa
      by_cases hlt : a.n ≤ cntM l q
      · have := hc q hqm (a.n.toNat - 1) (by omega)
        rw [show (((a.n.toNat - 1 : Nat) : Int) + 1) = a.n from by omega, ← hq, t3] at this
        cases this
      · omega
    have hok2 : ∀ x ∈ putM l a, actOkM x m = true := fun x hx => by
      rcases (putM_mem l a x).1 hx with rfl | hx
      · exact t2
      · exact hok x hx
    rw [Bool.and_eq_true, decide_eq_true_eq]
    refine ⟨(find_has l a.r a.n).2 t3, setOk_mk h1 h4 (by rw [putM_length]; omega) ((order_iff _ none).2 ⟨hok2, putM_pairwise hpw t3, fun q hq => by cases hq⟩) ?_ ?_⟩
    · rw [counts_iff]
      intro p hp k hk
      rw [has_iff]
      rw [putM_cnt] at hk
      by_cases hkl : k < cntM l p
      · obtain ⟨b, hb, e⟩ := (has_iff _ _ _).1 (hc p hp k hkl)
        exact ⟨b, (putM_mem l a b).2 (.inr hb), e⟩
      · by_cases e : a.r = (p : Int)
        · have : p = q := by omega
          subst this
          rw [if_pos e] at hk
          exact ⟨a, (putM_mem l a a).2 (.inl rfl), e, by omega⟩
        · rw [if_neg e] at hk
          omega
    · rw [closed_all, List.all_eq_true]
      have hle : ∀ x : ActM, x.dep.length = m → leqB x.dep (clockM l m) = true → leqB x.dep (clockM (putM l a) m) = true := fun x hx h => by
        rw [leqB_iff] at h ⊢
        intro i hi
        have := h i hi
        rw [clock_getD hok i (by omega)] at this
        rw [clock_getD hok2 i (by omega), putM_cnt]
        split <;> omega
      intro x hx
      rw [hasAll_iff]
      rcases (putM_mem l a x).1 hx with rfl | hx
      · refine ⟨hle _ la t5, fun b hb hbn => ?_⟩
        rcases (putM_mem l x b).1 hb with rfl | hb
        · omega
        · exact t6 b hb hbn
      · obtain ⟨x1, x2⟩ := (hasAll_iff l m x).1 (hcl x hx)
        have lx := (ok_parts (hok x hx)).2.2
        refine ⟨hle _ lx x1, fun b hb hbn => ?_⟩
        rcases (putM_mem l a b).1 hb with rfl | hb
        · have := (leqB_iff _ _).1 x1 q (by omega)
          rw [clock_getD hok q hqm] at this
          rw [hqt] at hbn
          omega
        · exact x2 b hb hbn
  · intro ht
    rw [Bool.and_eq_true, decide_eq_true_eq] at ht
    obtain ⟨t1, t2⟩ := ht
    have t3 := (find_has l a.r a.n).1 t1
    obtain ⟨m', hm', _, _, hl2, ho2, hc2, hcl2⟩ := setOk_parts t2
    obtain rfl : m = m' := by omega
    have hok2 := order_all _ none ho2
    have ta := hok2 a ((putM_mem l a a).2 (.inl rfl))
    have oa := ok_dep ta
    obtain ⟨r0, r1, la⟩ := ok_parts ta
    obtain ⟨q, hq⟩ := Int.eq_ofNat_of_zero_le r0
    have hqm : q < m := by omega
    have hqt : a.r.toNat = q := by omega
    rw [putM_length] at hl2
    simp only [takesM, Bool.and_eq_true, decide_eq_true_eq, Bool.not_eq_true']
    have hnum := number_of ho2 hc2 hcl2 (show putM l a = l.take (putJ l a l.length) ++ a :: l.drop (putJ l a l.length) from rfl)
    have hcq : cntM (l.take (putJ l a l.length)) q ≤ cntM l q := by
      have := cnt_app (l.take (putJ l a l.length)) (l.drop (putJ l a l.length)) q
      rw [List.take_append_drop] at this
      omega
    rw [closed_all, List.all_eq_true] at hcl2
    obtain ⟨c1, c2⟩ := (hasAll_iff _ m a).1 (hcl2 a ((putM_mem l a a).2 (.inl rfl)))
    refine ⟨⟨⟨by omega, ta⟩, t3⟩, (hasAll_iff l m a).2 ⟨?_, fun b hb hbn => c2 b ((putM_mem l a b).2 (.inr hb)) hbn⟩⟩
    rw [leqB_iff] at c1 ⊢
    intro i hi
    have := c1 i hi
    rw [clock_getD hok2 i (by omega), putM_cnt] at this
    rw [clock_getD hok i (by omega)]
    by_cases e : a.r = (i : Int)
    · have : i = q := by omega
      subst this
      rw [hqt] at oa hnum
      omega
    · rw [if_neg e] at this
      omega
/-- what AddAct gives, as the program finds it -/
theorem add_prog {l : List ActM} {m : Nat} {a : ActM} (h : setOkM l m = true) : addM l m a = if takesM l m a = true then some (putM l a) else none := by
  rw [takes_add h, addM]
  simp only [h, true_and, Bool.and_eq_true, decide_eq_true_eq]
theorem add_no {l : List ActM} {n : Int} {a : ActM} (h : ¬ setOkM l n = true) : addM l n a = none := by
  rw [addM, if_neg (fun hh => h hh.1)]
end Go.Proofs.YtkcfcmigcphjlaaGreat
