/- What a clock knows, and what it does not know put in: all. -/
import Derived.Test.YtkcfcmigcphjlaaGreatRI
import Derived.Test.YtkcfcmigcphjlaaGreatRF
import Derived.Test.YtkcfcmigcphjlaaGreatGG



namespace Go.Proofs.YtkcfcmigcphjlaaGreat
open Go.RowKit
set_option linter.unusedVariables false

/-- the acts of q put in, one behind the other, up to i -/
def putAll (p q : List ActM) : Nat → List ActM
  | 0 => p
  | i + 1 => putM (putAll p q i) (q.getD i act0)
theorem putAll_len (p q : List ActM) : ∀ i, (putAll p q i).length = p.length + i
  | 0 => rfl
  | i + 1 => by rw [putAll, putM_length, putAll_len p q i]; omega
theorem putAll_mem (p q : List ActM) : ∀ i, i ≤ q.length → ∀ x, x ∈ putAll p q i ↔ x ∈ p ∨ x ∈ q.take i
  | 0, _, x => by simp [putAll]
  | i + 1, h, x => by
    rw [putAll, putM_mem, putAll_mem p q i (by omega), List.take_succ_eq_append_getElem (show i < q.length by omega), List.mem_append, List.mem_singleton, show q.getD i act0 = q[i] from by simp [List.getD, show i < q.length by omega]]
    constructor
    · rintro (h | h | h)
      · exact .inr (.inr h)
      · exact .inl h
      · exact .inr (.inl h)
    · rintro (h | h | h)
      · exact .inr (.inl h)
      · exact .inr (.inr h)
      · exact .inl h
theorem part_split (l : List ActM) (xs : List Int) : (partM l xs true).length + (partM l xs false).length = l.length := by
  induction l with
  | nil => rfl
  | cons a l ih =>
    unfold partM at *
    simp only [List.filter_cons]
    by_cases h : a.n ≤ xs.getD a.r.toNat 0
    · simp only [h, decide_true, beq_self_eq_true, if_true, List.length_cons, show (true == false) = false from rfl, Bool.false_eq_true, if_false]
      omega
    · simp only [h, decide_false, beq_self_eq_true, if_true, List.length_cons, show (false == true) = false from rfl, Bool.false_eq_true, if_false]
      omega
theorem part_or {l : List ActM} {xs : List Int} {a : ActM} (h : a ∈ l) : a ∈ partM l xs true ∨ a ∈ partM l xs false := by
  unfold partM
  simp only [List.mem_filter]
  by_cases h2 : a.n ≤ xs.getD a.r.toNat 0
  · exact .inl ⟨h, by rw [decide_eq_true h2]; rfl⟩
  · exact .inr ⟨h, by rw [decide_eq_false h2]; rfl⟩
theorem part_not {l : List ActM} {xs : List Int} {a : ActM} (h : a ∈ partM l xs true) (h2 : a ∈ partM l xs false) : False := by
  unfold partM at h h2
  simp only [List.mem_filter] at h h2
  have a1 := h.2
  have a2 := h2.2
  generalize decide (a.n ≤ xs.getD a.r.toNat 0) = d at a1 a2
  cases d <;> simp at a1 a2
theorem part_pw {l : List ActM} (h : l.Pairwise (fun a b => aheadM a b = true)) (xs : List Int) (b : Bool) : (partM l xs b).Pairwise (fun a b => aheadM a b = true) := h.sublist List.filter_sublist
/-- what stands ahead of an act of a list in order stands among those in front of it -/
theorem before {q : List ActM} (h : q.Pairwise (fun a b => aheadM a b = true)) {i : Nat} (hi : i < q.length) {a : ActM} (ha : a ∈ q) (hh : aheadM a q[i] = true) : a ∈ q.take i := by
  obtain ⟨j, hj, e⟩ := List.mem_iff_getElem.1 ha
  by_cases hlt : j < i
  · rw [← e]
    exact List.mem_take_iff_getElem.2 ⟨j, by omega, rfl⟩
  · by_cases heq : j = i
    · subst heq
      rw [e] at hh
      exact absurd hh (ahead_irrI a)
    · have := List.pairwise_iff_getElem.1 h i j hi hj (by omega)
      rw [e] at this
      exact absurd (ahead_trans hh this) (ahead_irrI a)
theorem not_before {q : List ActM} (h : q.Pairwise (fun a b => aheadM a b = true)) {i : Nat} (hi : i < q.length) : q[i] ∉ q.take i := by
  intro hm
  obtain ⟨j, hj, e⟩ := List.mem_take_iff_getElem.1 hm
  have := List.pairwise_iff_getElem.1 h j i (by omega) hi (by omega)
  rw [e] at this
  exact absurd this (ahead_irrI _)
theorem putAll_step {l : List ActM} {n : Nat} {xs : List Int} (hl : setOkM l n = true) {i : Nat} (hi : i < (partM l xs false).length) (hp : setOkM (putAll (partM l xs true) (partM l xs false) i) n = true) :
    addM (putAll (partM l xs true) (partM l xs false) i) n ((partM l xs false).getD i act0) = some (putAll (partM l xs true) (partM l xs false) (i + 1)) := by
  have hq := part_pw (set_pw hl) xs false
  have hmem := putAll_mem (partM l xs true) (partM l xs false) i (by omega)
  have hlen := putAll_len (partM l xs true) (partM l xs false) i
  have hsp := part_split l xs
  have h60 := (setOk_all hl).2.2.1
  rw [add_prog hp, if_pos]
  · rfl
  · generalize hX : putAll (partM l xs true) (partM l xs false) i = X at *
    have hsub : ∀ b ∈ X, b ∈ l := fun b hb => by
      rcases (hmem b).1 hb with h | h
      · exact partM_mem h
      · exact partM_mem (List.mem_of_mem_take h)
    rw [show (partM l xs false).getD i act0 = (partM l xs false)[i] from by simp [List.getD, hi]]
    have haq : (partM l xs false)[i] ∈ partM l xs false := List.getElem_mem hi
    have hal : (partM l xs false)[i] ∈ l := partM_mem haq
    have hbef : ∀ b ∈ l, aheadM b (partM l xs false)[i] = true → b ∈ X := fun b hb hh => by
      rw [hmem]
      rcases part_or (xs := xs) hb with h | h
      · exact .inl h
      · exact .inr (before hq hi h hh)
    have hnot : (partM l xs false)[i] ∉ X := fun h => by
      rcases (hmem _).1 h with h | h
      · exact part_not h haq
      · exact not_before hq hi h
    generalize (partM l xs false)[i] = a at *
    have aok := (setOk_all hl).2.2.2 a hal
    obtain ⟨_, hcl⟩ := set_closed hl
    rw [closed_all, List.all_eq_true] at hcl
    obtain ⟨c1, c2⟩ := (hasAll_iff l n a).1 (hcl a hal)
    have hdl := (ok_parts aok).2.2
    simp only [takesM, Bool.and_eq_true, decide_eq_true_eq, Bool.not_eq_true']
    refine ⟨⟨⟨by omega, aok⟩, ?_⟩, (hasAll_iff X n a).2 ⟨?_, fun b hb => c2 b (hsub b hb)⟩⟩
    · cases hh : hasM X a.r a.n with
      | false => rfl
      | true =>
        obtain ⟨b, hb, e1, e2⟩ := (has_iff _ _ _).1 hh
        have := set_uniq hl b (hsub b hb) a hal e1 e2
        subst this
        exact absurd hb hnot
    · rw [leqB_iff] at c1 ⊢
      intro k hk
      have hk' : k < n := by omega
      have ck := c1 k hk
      rw [clock_getD (setOk_all hl).2.2.2 k hk'] at ck
      rw [clock_getD (setOk_all hp).2.2.2 k hk']
      by_cases h0 : 1 ≤ a.dep.getD k 0
      · obtain ⟨c, hc⟩ := Int.eq_ofNat_of_zero_le (show 0 ≤ a.dep.getD k 0 by omega)
        obtain ⟨b, hb, e1, e2⟩ := set_has hl hk' (show 1 ≤ c by omega) (by omega)
        have hkn : knowsM a b = true := by
          simp only [knowsM, Bool.and_eq_true, decide_eq_true_eq]
          rw [e1, e2, Int.toNat_natCast]
          refine ⟨⟨⟨?_, ?_⟩, ?_⟩, ?_⟩ <;> omega
        have := (set_le hp (hbef b hb (set_knows hl hal hb hkn)) k e1).2
        omega
      · omega
theorem putAll_set {l : List ActM} {n : Nat} {xs : List Int} (hl : setOkM l n = true) (hp : setOkM (partM l xs true) n = true) : ∀ i, i ≤ (partM l xs false).length → setOkM (putAll (partM l xs true) (partM l xs false) i) n = true
  | 0, _ => hp
  | i + 1, h => by
    have := putAll_step hl (show i < (partM l xs false).length by omega) (putAll_set hl hp i (by omega))
    exact (add_some this).2.2.2
theorem putAll_all {l : List ActM} {n : Nat} {xs : List Int} (hl : setOkM l n = true) (hp : setOkM (partM l xs true) n = true) : putAll (partM l xs true) (partM l xs false) (partM l xs false).length = l := by
  refine order_ext (set_pw (putAll_set hl hp _ (Nat.le_refl _))) (set_pw hl) fun x => ?_
  rw [putAll_mem _ _ _ (Nat.le_refl _), List.take_length]
  exact ⟨fun h => h.elim partM_mem partM_mem, part_or⟩
end Go.Proofs.YtkcfcmigcphjlaaGreat
