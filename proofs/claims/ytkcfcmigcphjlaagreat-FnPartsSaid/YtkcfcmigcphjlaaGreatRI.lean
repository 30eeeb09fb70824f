/- Plain facts of AddAct, Union, Part and Lacks for the laws. -/
import Derived.Test.YtkcfcmigcphjlaaGreatLA

namespace Go.Proofs.YtkcfcmigcphjlaaGreat
open Go.RowKit
set_option linter.unusedVariables false

theorem ahead_irrI (a : ActM) : ¬ aheadM a a = true := by
  unfold aheadM
  rw [if_pos rfl]
  simp
/-- two lists in order of the same acts are one list -/
theorem order_ext : ∀ {l m : List ActM}, l.Pairwise (fun a b => aheadM a b = true) → m.Pairwise (fun a b => aheadM a b = true) → (∀ x, x ∈ l ↔ x ∈ m) → l = m
  | [], m, _, _, h => by
    cases m with
    | nil => rfl
    | cons b m => exact absurd ((h b).2 (List.mem_cons_self ..)) (by simp)
  | a :: l, [], _, _, h => absurd ((h a).1 (List.mem_cons_self ..)) (by simp)
  | a :: l, b :: m, hl, hm, h => by
    obtain ⟨l1, l2⟩ := List.pairwise_cons.1 hl
    obtain ⟨m1, m2⟩ := List.pairwise_cons.1 hm
    have e : a = b := by
      rcases List.mem_cons.1 ((h a).1 (List.mem_cons_self ..)) with e | e
      · exact e
      · rcases List.mem_cons.1 ((h b).2 (List.mem_cons_self ..)) with e2 | e2
        · exact e2.symm
        · exact absurd (ahead_trans (m1 a e) (l1 b e2)) (ahead_irrI b)
    subst e
    congr 1
    refine order_ext l2 m2 fun x => ⟨fun hx => ?_, fun hx => ?_⟩
    · rcases List.mem_cons.1 ((h x).1 (List.mem_cons_of_mem _ hx)) with e | e
      · subst e; exact absurd (l1 x hx) (ahead_irrI x)
      · exact e
    · rcases List.mem_cons.1 ((h x).2 (List.mem_cons_of_mem _ hx)) with e | e
      · subst e; exact absurd (m1 x hx) (ahead_irrI x)
      · exact e
/-- each name once -/
def Uniq (l : List ActM) : Prop := ∀ a ∈ l, ∀ b ∈ l, a.r = b.r → a.n = b.n → a = b
theorem Uniq.tail {a : ActM} {l : List ActM} (h : Uniq (a :: l)) : Uniq l := fun x hx y hy => h x (List.mem_cons_of_mem _ hx) y (List.mem_cons_of_mem _ hy)
theorem split_at {a : ActM} {l : List ActM} (h : a ∈ l) : ∃ s t, l = s ++ a :: t := List.append_of_mem h
theorem cnt_mono (p : Nat) (s t : List ActM) : cntM s p ≤ cntM (s ++ t) p := by rw [cnt_app]; omega
/-- in a set the number of an act is how many of its place stand ahead of it, and one -/
theorem set_num {l s t : List ActM} {a : ActM} {n : Nat} (h : setOkM l n = true) (e : l = s ++ a :: t) : a.n = (cntM s a.r.toNat : Int) + 1 := by
  obtain ⟨m', hm, _, _, _, ho, hc, hcl⟩ := setOk_parts h
  obtain rfl : n = m' := by omega
  exact number_of ho hc hcl e
theorem set_pw {l : List ActM} {n : Nat} (h : setOkM l n = true) : l.Pairwise (fun a b => aheadM a b = true) := by
  obtain ⟨m', hm, _, _, _, ho, _, _⟩ := setOk_parts h
  exact ((order_iff l none).1 ho).2.1
theorem set_r {l : List ActM} {n : Nat} (h : setOkM l n = true) {a : ActM} (ha : a ∈ l) : 0 ≤ a.r ∧ a.r < n := by
  have := ok_parts ((setOk_all h).2.2.2 a ha)
  exact ⟨this.1, this.2.1⟩
theorem set_uniq {l : List ActM} {n : Nat} (h : setOkM l n = true) : Uniq l := by
  intro a ha b hb hr hn
  obtain ⟨s, t, e⟩ := split_at ha
  have na := set_num h e
  have a0 := (set_r h ha).1
  rw [e] at hb
  rcases List.mem_append.1 hb with hb | hb
  · obtain ⟨s1, s2, e1⟩ := split_at hb
    have nb := set_num h (show l = s1 ++ b :: (s2 ++ a :: t) from by rw [e, e1]; simp)
    have : cntM s a.r.toNat = cntM s1 a.r.toNat + cntM [b] a.r.toNat + cntM s2 a.r.toNat := by
      rw [e1, show s1 ++ b :: s2 = s1 ++ [b] ++ s2 from by simp, cnt_app, cnt_app]
    rw [cnt_one, if_pos (by omega)] at this
    rw [← hr] at nb
    omega
  · rcases List.mem_cons.1 hb with hb | hb
    · exact hb.symm
    · obtain ⟨t1, t2, e1⟩ := split_at hb
      have nb := set_num h (show l = (s ++ a :: t1) ++ b :: t2 from by rw [e, e1]; simp)
      have : cntM (s ++ a :: t1) a.r.toNat = cntM s a.r.toNat + cntM [a] a.r.toNat + cntM t1 a.r.toNat := by
        rw [show s ++ a :: t1 = s ++ [a] ++ t1 from by simp, cnt_app, cnt_app]
      rw [cnt_one, if_pos (by omega)] at this
      rw [← hr] at nb
      omega
theorem set_le {l : List ActM} {n : Nat} (h : setOkM l n = true) {a : ActM} (ha : a ∈ l) (p : Nat) (hp : a.r = (p : Int)) : 1 ≤ a.n ∧ a.n ≤ cntM l p := by
  obtain ⟨s, t, e⟩ := split_at ha
  have na := set_num h e
  have : cntM l p = cntM s p + cntM [a] p + cntM t p := by
    rw [e, show s ++ a :: t = s ++ [a] ++ t from by simp, cnt_app, cnt_app]
  rw [cnt_one, if_pos hp] at this
  rw [show a.r.toNat = p from by omega] at na
  omega
theorem set_has {l : List ActM} {n : Nat} (h : setOkM l n = true) {p k : Nat} (hp : p < n) (h1 : 1 ≤ k) (hk : k ≤ cntM l p) : ∃ a ∈ l, a.r = (p : Int) ∧ a.n = (k : Int) := by
  obtain ⟨m', hm, _, _, _, ho, hc, hcl⟩ := setOk_parts h
  obtain rfl : n = m' := by omega
  have := (counts_iff l n).1 hc p hp (k - 1) (by omega)
  obtain ⟨b, hb, e1, e2⟩ := (has_iff _ _ _).1 this
  exact ⟨b, hb, e1, by omega⟩
theorem set_cntZ {l : List ActM} {n : Nat} (h : setOkM l n = true) {p : Nat} (hp : n ≤ p) : cntM l p = 0 := by
  unfold cntM
  rw [List.length_eq_zero_iff, List.filter_eq_nil_iff]
  intro a ha
  have := set_r h ha
  simp only [decide_eq_true_eq]
  omega

/-! AddAct -/
theorem add_some {l m : List ActM} {n : Int} {a : ActM} (h : addM l n a = some m) : setOkM l n = true ∧ findM l a.r a.n < 0 ∧ m = putM l a ∧ setOkM m n = true := by
  unfold addM at h
  split at h
  · rename_i hh
    cases h
    exact ⟨hh.1, hh.2.1, rfl, hh.2.2⟩
  · cases h
theorem add_again {l m : List ActM} {n : Int} {a : ActM} (h : addM l n a = some m) : addM m n a = none := by
  obtain ⟨h1, h2, rfl, h4⟩ := add_some h
  unfold addM
  rw [if_neg]
  rintro ⟨_, h5, _⟩
  have := (find_has _ _ _).1 h5
  have h6 := (has_iff (putM l a) a.r a.n).2 ⟨a, (putM_mem l a a).2 (.inl rfl), rfl, rfl⟩
  rw [this] at h6
  cases h6
/-- how often the act is there -/
def thereM (l : List ActM) (a : ActM) : Nat := (l.filter fun b => sameM b a).length
theorem there_step (l : List ActM) (a : ActM) (i : Nat) (hi : i < l.length) : thereM (l.take (i + 1)) a = thereM (l.take i) a + (if sameM (l.getD i act0) a = true then 1 else 0) := by
  unfold thereM
  rw [List.take_succ_eq_append_getElem hi, List.filter_append, List.length_append, show l.getD i act0 = l[i] from by simp [List.getD, hi]]
  congr 1
  by_cases h : sameM l[i] a = true <;> simp [h]
theorem add_there {l m : List ActM} {n : Int} {a : ActM} (h : addM l n a = some m) : thereM m a = 1 := by
  obtain ⟨h1, h2, rfl, h4⟩ := add_some h
  have h3 := (find_has _ _ _).1 h2
  unfold thereM
  rw [((putM_perm l a).filter _).length_eq, List.filter_cons, if_pos (by simp [sameM])]
  rw [List.filter_eq_nil_iff.2]
  · rfl
  · intro b hb hs
    simp only [sameM, decide_eq_true_eq] at hs
    subst hs
    have := (has_iff l b.r b.n).2 ⟨b, hb, rfl, rfl⟩
    rw [h3] at this
    cases this
theorem add_len {l m : List ActM} {n : Int} {a : ActM} (h : addM l n a = some m) : m.length = l.length + 1 := by
  obtain ⟨h1, h2, rfl, h4⟩ := add_some h
  exact putM_length l a

/-! Union -/
def agree (l m : List ActM) : Prop := ∀ a ∈ l, ∀ b ∈ m, a.r = b.r → a.n = b.n → a = b
theorem agree_symm {l m : List ActM} (h : agree l m) : agree m l := fun a ha b hb h1 h2 => (h b hb a ha h1.symm h2.symm).symm
theorem find_isI {l : List ActM} {r n : Int} (h : 0 ≤ findM l r n) : (l.getD (findM l r n).toNat act0) ∈ l ∧ (l.getD (findM l r n).toNat act0).r = r ∧ (l.getD (findM l r n).toNat act0).n = n := by
  have key : ∀ (l : List ActM) (i : Nat), 0 ≤ findFrom r n l i → ∃ j, findFrom r n l i = ((i + j : Nat) : Int) ∧ j < l.length ∧ (l.getD j act0).r = r ∧ (l.getD j act0).n = n := by
    intro l
    induction l with
    | nil => intro i h; simp [findFrom] at h
    | cons a l ih =>
      intro i h
      rw [findFrom] at h ⊢
      by_cases hc : a.r = r ∧ a.n = n
      · rw [if_pos hc]
        exact ⟨0, by simp, by simp, by simpa using hc.1, by simpa using hc.2⟩
      · rw [if_neg hc] at h ⊢
        obtain ⟨j, e, hj, h1, h2⟩ := ih (i + 1) h
        exact ⟨j + 1, by rw [e]; congr 1; omega, by simp; omega, by simpa using h1, by simpa using h2⟩
  obtain ⟨j, e, hj, h1, h2⟩ := key l 0 h
  have e2 : (findM l r n).toNat = j := by unfold findM; omega
  rw [e2]
  exact ⟨by simp [List.getD, hj], h1, h2⟩
theorem unionFrom_spec : ∀ (rest out : List ActM), out.Pairwise (fun a b => aheadM a b = true) → Uniq out → Uniq rest →
    (∀ R, unionFrom out rest = some R → agree out rest ∧ (∀ x, x ∈ R ↔ x ∈ out ∨ x ∈ rest) ∧ R.Pairwise (fun a b => aheadM a b = true)) ∧ (agree out rest → ∃ R, unionFrom out rest = some R)
  | [], out, hp, hu, hv => ⟨fun R h => by
      rw [unionFrom] at h
      cases h
      exact ⟨fun a _ b hb => (by cases hb), fun x => (by simp), hp⟩, fun _ => ⟨out, rfl⟩⟩
  | a :: rest, out, hp, hu, hv => by
    rw [unionFrom]
    by_cases hf : 0 ≤ findM out a.r a.n
    · rw [if_pos hf]
      obtain ⟨f1, f2, f3⟩ := find_isI hf
      generalize out.getD (findM out a.r a.n).toNat act0 = c at f1 f2 f3 ⊢
      by_cases hs : sameM c a = true
      · rw [if_pos hs]
        simp only [sameM, decide_eq_true_eq] at hs
        subst hs
        obtain ⟨i1, i2⟩ := unionFrom_spec rest out hp hu hv.tail
        refine ⟨fun R h => ?_, fun h => i2 fun x hx y hy => h x hx y (List.mem_cons_of_mem _ hy)⟩
        obtain ⟨r1, r2, r3⟩ := i1 R h
        refine ⟨fun x hx y hy h1 h2 => ?_, fun x => ?_, r3⟩
        · rcases List.mem_cons.1 hy with e | hy
          · subst e; exact hu x hx y f1 h1 h2
          · exact r1 x hx y hy h1 h2
        · rw [r2 x]
          simp only [List.mem_cons]
          constructor
          · rintro (h | h)
            · exact .inl h
            · exact .inr (.inr h)
          · rintro (h | h | h)
            · exact .inl h
            · subst h; exact .inl f1
            · exact .inr h
      · rw [if_neg hs]
        refine ⟨fun R h => (by cases h), fun h => absurd (h c f1 a (List.mem_cons_self ..) f2 f3) (fun e => hs (by simp [sameM, e]))⟩
    · rw [if_neg hf]
      have hn := (find_has out a.r a.n).1 (by omega)
      have hno : ∀ x ∈ out, x.r = a.r → x.n = a.n → False := fun x hx h1 h2 => by
        have := (has_iff out a.r a.n).2 ⟨x, hx, h1, h2⟩
        rw [hn] at this
        cases this
      have hu2 : Uniq (putM out a) := by
        intro x hx y hy h1 h2
        rcases (putM_mem out a x).1 hx with ex | hx2 <;> rcases (putM_mem out a y).1 hy with ey | hy2
        · rw [ex, ey]
        · subst ex; exact (hno y hy2 h1.symm h2.symm).elim
        · subst ey; exact (hno x hx2 h1 h2).elim
        · exact hu x hx2 y hy2 h1 h2
      obtain ⟨i1, i2⟩ := unionFrom_spec rest (putM out a) (putM_pairwise hp hn) hu2 hv.tail
      refine ⟨fun R h => ?_, fun h => i2 fun x hx y hy h1 h2 => ?_⟩
      · obtain ⟨r1, r2, r3⟩ := i1 R h
        refine ⟨fun x hx y hy h1 h2 => ?_, fun x => ?_, r3⟩
        · rcases List.mem_cons.1 hy with e | hy
          · subst e; exact (hno x hx h1 h2).elim
          · exact r1 x ((putM_mem out a x).2 (.inr hx)) y hy h1 h2
        · rw [r2 x, putM_mem]
          simp only [List.mem_cons]
          constructor
          · rintro ((h | h) | h)
            · exact .inr (.inl h)
            · exact .inl h
            · exact .inr (.inr h)
          · rintro (h | h | h)
            · exact .inl (.inr h)
            · exact .inl (.inl h)
            · exact .inr h
      · rcases (putM_mem out a x).1 hx with ex | hx
        · subst ex
          exact hv x (List.mem_cons_self ..) y (List.mem_cons_of_mem _ hy) h1 h2
        · exact h x hx y (List.mem_cons_of_mem _ hy) h1 h2
theorem unionFrom_symm {l m : List ActM} {n : Nat} (hl : setOkM l n = true) (hm : setOkM m n = true) : unionFrom l m = unionFrom m l := by
  obtain ⟨a1, a2⟩ := unionFrom_spec m l (set_pw hl) (set_uniq hl) (set_uniq hm)
  obtain ⟨b1, b2⟩ := unionFrom_spec l m (set_pw hm) (set_uniq hm) (set_uniq hl)
  cases h : unionFrom l m with
  | some R =>
    obtain ⟨r1, r2, r3⟩ := a1 R h
    obtain ⟨S, hS⟩ := b2 (agree_symm r1)
    obtain ⟨s1, s2, s3⟩ := b1 S hS
    rw [hS, order_ext r3 s3 fun x => by rw [r2, s2]; exact Or.comm]
  | none =>
    cases h2 : unionFrom m l with
    | none => rfl
    | some S =>
      obtain ⟨s1, _, _⟩ := b1 S h2
      obtain ⟨R, hR⟩ := a2 (agree_symm s1)
      rw [h] at hR
      cases hR
theorem union_symm (l m : List ActM) (n : Nat) : unionM l m n = unionM m l n := by
  unfold unionM
  by_cases h : setOkM l n = true ∧ setOkM m n = true
  · rw [if_pos h, if_pos h.symm, unionFrom_symm h.1 h.2]
  · rw [if_neg h, if_neg (fun h2 => h h2.symm)]
theorem union_some {l m x : List ActM} {n : Nat} (h : unionM l m n = some x) : setOkM l n = true ∧ setOkM m n = true ∧ setOkM x n = true ∧ ∀ a, a ∈ x ↔ a ∈ l ∨ a ∈ m := by
  unfold unionM at h
  split at h
  · rename_i hh
    split at h
    · rename_i out ho
      split at h
      · rename_i hs
        cases h
        obtain ⟨a1, _⟩ := unionFrom_spec m l (set_pw hh.1) (set_uniq hh.1) (set_uniq hh.2)
        exact ⟨hh.1, hh.2, hs, (a1 _ ho).2.1⟩
      · cases h
    · cases h
  · cases h
theorem union_self {l m x : List ActM} {n : Nat} (h : unionM l m n = some x) : unionM x l n = some x := by
  obtain ⟨hl, hm, hx, hmem⟩ := union_some h
  obtain ⟨a1, a2⟩ := unionFrom_spec l x (set_pw hx) (set_uniq hx) (set_uniq hl)
  obtain ⟨R, hR⟩ := a2 fun a ha b hb => set_uniq hx a ha b ((hmem b).2 (.inl hb))
  obtain ⟨_, r2, r3⟩ := a1 R hR
  have e : R = x := order_ext r3 (set_pw hx) fun a => by
    rw [r2 a]
    exact ⟨fun h => h.elim id (fun h => (hmem a).2 (.inl h)), .inl⟩
  rw [e] at hR
  unfold unionM
  rw [if_pos ⟨hx, hl⟩, hR]
  exact if_pos hx
theorem union_cnt {l m x : List ActM} {n : Nat} (h : unionM l m n = some x) (p : Nat) : cntM x p = max (cntM l p) (cntM m p) := by
  obtain ⟨hl, hm, hx, hmem⟩ := union_some h
  by_cases hp : p < n
  · have up : ∀ y : List ActM, setOkM y n = true → (∀ a ∈ y, a ∈ x) → cntM y p ≤ cntM x p := fun y hy hs => by
      by_cases h0 : cntM y p = 0
      · omega
      · obtain ⟨a, ha, h1, h2⟩ := set_has hy hp (show 1 ≤ cntM y p by omega) (Nat.le_refl _)
        have := (set_le hx (hs a ha) p h1).2
        omega
    have u1 := up l hl fun a ha => (hmem a).2 (.inl ha)
    have u2 := up m hm fun a ha => (hmem a).2 (.inr ha)
    by_cases h0 : cntM x p = 0
    · omega
    · obtain ⟨a, ha, h1, h2⟩ := set_has hx hp (show 1 ≤ cntM x p by omega) (Nat.le_refl _)
      rcases (hmem a).1 ha with ha | ha
      · have := (set_le hl ha p h1).2
        omega
      · have := (set_le hm ha p h1).2
        omega
  · rw [set_cntZ hx (by omega), set_cntZ hl (by omega), set_cntZ hm (by omega)]
    rfl
end Go.Proofs.YtkcfcmigcphjlaaGreat
