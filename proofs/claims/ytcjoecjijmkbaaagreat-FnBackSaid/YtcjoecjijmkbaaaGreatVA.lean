/- Rights, plain: what the laws of holding and of ceilings ask. -/
import Derived.Test.YtcjoecjijmkbaaaGreatQW
import Derived.Test.YtcjoecjijmkbaaaGreatQT

namespace Go.Proofs.YtcjoecjijmkbaaaGreat
open Go.RowKit
set_option linter.unusedVariables false
/-- does act i let g's giver hand on what g gives? in the law's order -/
def stepH (l : List ActM) (n er en : Int) (xs : List Int) (g : ActM) (i : Nat) : Bool :=
  holdsM l n i er en xs && decide ((l.getD i act0).to = g.actor) && decide ((l.getD i act0).bucket = g.bucket) && (bits .and .i64 (l.getD i act0).mask g.mask == g.mask) && (bits .and .i64 (l.getD i act0).mask 8 != 0) && knowsM g (l.getD i act0)
def isH (l : List ActM) (n er en : Int) (xs : List Int) (g : ActM) : Nat → Bool
  | 0 => false
  | i + 1 => isH l n er en xs g i || stepH l n er en xs g i
theorem isH_yes {l : List ActM} {n er en : Int} {xs : List Int} {g : ActM} {i : Nat} (h : stepH l n er en xs g i = true) : ∀ k, i < k → isH l n er en xs g k = true
  | 0, hk => by omega
  | k + 1, hk => by
    rw [isH]
    by_cases e : i = k
    · subst e; rw [h, Bool.or_true]
    · rw [isH_yes h k (by omega), Bool.true_or]
theorem holds_parts {l : List ActM} {n k er en : Int} {xs : List Int} (h : holdsM l n k er en xs = true) : ∃ j : Nat, k = j ∧ j < l.length ∧ goodM l n er xs = true ∧ holdK l er en xs j = true := by
  simp only [holdsM, inB, Bool.and_eq_true, decide_eq_true_eq] at h
  obtain ⟨⟨h1, h2, h3⟩, h4⟩ := h
  obtain ⟨j, rfl⟩ := Int.eq_ofNat_of_zero_le h2
  rw [Int.toNat_natCast] at h4
  exact ⟨j, rfl, by omega, h1, h4⟩
theorem holds_mk {l : List ActM} {n er en : Int} {xs : List Int} {j : Nat} (hj : j < l.length) (h1 : goodM l n er xs = true) (h2 : holdK l er en xs j = true) : holdsM l n j er en xs = true := by
  simp only [holdsM, inB, Bool.and_eq_true, decide_eq_true_eq, Int.toNat_natCast]
  exact ⟨⟨h1, by omega, by omega⟩, h2⟩
/-- a grant that holds: the keeper gave it, or somebody who may hand it on -/
theorem holds_law {l : List ActM} {n er en : Int} {xs : List Int} {k : Nat} (h : holdsM l n k er en xs = true) : (l.getD k act0).kind = 1 ∧ ((l.getD k act0).actor = 0 ∨ isH l n er en xs (l.getD k act0) k = true) := by
  obtain ⟨j, hj, hl, hg, hk⟩ := holds_parts h
  obtain rfl : k = j := by omega
  refine ⟨holdK_kind hk, ?_⟩
  rw [holdK_eq] at hk
  simp only [Bool.and_eq_true, Bool.or_eq_true, decide_eq_true_eq, List.any_eq_true, List.mem_range] at hk
  rcases hk.2 with h0 | ⟨i, hi, h1, h2⟩
  · exact .inl h0
  · refine .inr (isH_yes (i := i) ?_ k hi)
    simp only [linkM, handS, Bool.and_eq_true, decide_eq_true_eq] at h2
    simp only [stepH, Bool.and_eq_true, decide_eq_true_eq]
    exact ⟨⟨⟨⟨⟨holds_mk (by omega) hg h1, h2.1.1.2⟩, h2.1.2⟩, h2.2.2⟩, h2.2.1⟩, h2.1.1.1⟩
theorem holds_lt {l : List ActM} {n er en : Int} {xs : List Int} {k : Int} (h : holdsM l n k er en xs = true) : 0 ≤ k ∧ k < l.length := by
  obtain ⟨j, hj, hl, _⟩ := holds_parts h
  omega
/-! masks -/
def m16 (x : Int) : Prop := 0 ≤ x ∧ x ≤ 15
theorem m16_nat {x : Int} (h : m16 x) : ((x.toNat : Nat) : Int) = x ∧ x.toNat ∈ List.range 16 := ⟨Int.toNat_of_nonneg h.1, List.mem_range.2 (by have := h.1; have := h.2; omega)⟩
theorem and_all : ∀ x ∈ List.range 16, ∀ y ∈ List.range 16, (0 ≤ bits .and .i64 (x : Int) (y : Int) ∧ bits .and .i64 (x : Int) (y : Int) ≤ 15) ∧ (0 ≤ bits .or .i64 (x : Int) (y : Int) ∧ bits .or .i64 (x : Int) (y : Int) ≤ 15) ∧ bits .andNot .i64 (bits .and .i64 (x : Int) (y : Int)) (x : Int) = 0 ∧ bits .andNot .i64 (bits .and .i64 (x : Int) (y : Int)) (y : Int) = 0 ∧ bits .andNot .i64 0 (x : Int) = 0 := by decide +kernel
theorem m16_ops {x y : Int} (hx : m16 x) (hy : m16 y) : m16 (bits .and .i64 x y) ∧ m16 (bits .or .i64 x y) ∧ bits .andNot .i64 (bits .and .i64 x y) x = 0 ∧ bits .andNot .i64 (bits .and .i64 x y) y = 0 ∧ bits .andNot .i64 0 x = 0 := by
  obtain ⟨e1, m1⟩ := m16_nat hx
  obtain ⟨e2, m2⟩ := m16_nat hy
  have := and_all _ m1 _ m2
  rw [e1, e2] at this
  exact this
theorem ceil_mask {a : ActM} {n : Int} (h : actOkM a n = true) (hk : a.kind = 3) : m16 a.mask := by
  have h2 : fieldsM a n = true := by
    simp only [actOkM, Bool.and_eq_true] at h
    exact h.2
  simp only [fieldsM, hk, maskM] at h2
  unfold m16
  simp at h2
  omega
theorem ceilM_m16 {l : List ActM} {n bk er en : Int} {xs : List Int} (h : ∀ a ∈ l, actOkM a n = true) : m16 (ceilM l bk er en xs) := by
  have key : ∀ (t : List ActM) (m : Int), (∀ a ∈ t, actOkM a n = true) → m16 m → m16 (t.foldl (ceilStep l bk er en xs) m) := by
    intro t
    induction t with
    | nil => intro m _ hm; exact hm
    | cons c t ih =>
      intro m ht hm
      rw [List.foldl_cons]
      refine ih _ (fun a ha => ht a (List.mem_cons_of_mem _ ha)) ?_
      unfold ceilStep
      split
      · rename_i hc
        simp only [ceilIs, Bool.and_eq_true, decide_eq_true_eq] at hc
        exact (m16_ops hm (ceil_mask (ht c (List.mem_cons_self ..)) hc.1.1.1.1)).1
      · exact hm
  exact key l 15 h ⟨by omega, by omega⟩
theorem good_set {l : List ActM} {n er : Int} {xs : List Int} (h : goodM l n er xs = true) : setOkM l n = true := (cutB_set (good_parts h).1).1
theorem ceiling_m16 (l : List ActM) (n bk er en : Int) (xs : List Int) : m16 (ceilingM l n bk er en xs) := by
  unfold ceilingM
  split
  · rename_i h
    exact ceilM_m16 (setOk_all (good_set h)).2.2.2
  · exact ⟨by omega, by omega⟩
/-- all that the grants that hold give, as the law gathers it, of the first k acts -/
def allG (l : List ActM) (n er en : Int) (xs : List Int) (ac bk : Int) : Nat → Int
  | 0 => 0
  | k + 1 => if (holdsM l n k er en xs && decide ((l.getD k act0).to = ac) && decide ((l.getD k act0).bucket = bk)) = true then bits .or .i64 (allG l n er en xs ac bk k) (l.getD k act0).mask else allG l n er en xs ac bk k
theorem allG_m16 {l : List ActM} {n er en : Int} {xs : List Int} {ac bk : Int} : ∀ k, m16 (allG l n er en xs ac bk k)
  | 0 => ⟨by unfold allG; omega, by unfold allG; omega⟩
  | k + 1 => by
    rw [allG]
    split
    · rename_i h
      simp only [Bool.and_eq_true] at h
      obtain ⟨j, hj, hl, hg, hk⟩ := holds_parts h.1.1
      obtain rfl : k = j := by omega
      have ha := (setOk_all (good_set hg)).2.2.2 (l.getD k act0) (by rw [show l.getD k act0 = l[k] from by simp [List.getD, hl]]; exact List.getElem_mem hl)
      have := grant_mask ha (holdK_kind hk)
      exact (m16_ops (allG_m16 k) ⟨this.1, this.2⟩).2.1
    · exact allG_m16 k
theorem allG_grant {l : List ActM} {n er en : Int} {xs : List Int} {ac bk : Int} (hg : goodM l n er xs = true) : ∀ (t : List ActM) (k : Nat), k + t.length = l.length → t = l.drop k → grantF l er en xs ac bk k t (allG l n er en xs ac bk k) = allG l n er en xs ac bk l.length
  | [], k, hk, _ => by
    rw [grantF]
    simp only [List.length_nil, Nat.add_zero] at hk
    rw [hk]
  | a :: t, k, hk, ht => by
    simp only [List.length_cons] at hk
    have hkl : k < l.length := by omega
    have hd := List.drop_eq_getElem_cons hkl
    rw [← ht] at hd
    injection hd with h1 h2
    have ha : l.getD k act0 = a := by rw [h1]; simp [List.getD, hkl]
    rw [grantF, ← allG_grant hg t (k + 1) (by omega) h2]
    congr 1
    rw [allG, ha]
    have e : holdsM l n k er en xs = holdK l er en xs k := by
      cases h : holdK l er en xs k
      · cases h3 : holdsM l n k er en xs
        · rfl
        · obtain ⟨j, hj, _, _, h4⟩ := holds_parts h3
          obtain rfl : k = j := by omega
          rw [h] at h4
          cases h4
      · exact holds_mk hkl hg h
    rw [e]
/-- nobody but the keeper has more than the ceiling, nor more than was handed to them -/
theorem within_law (l : List ActM) (n ac bk er en : Int) (xs : List Int) : (ac = 0 → rightsM l n ac bk er en xs = 15 ∨ rightsM l n ac bk er en xs = 0) ∧
    (ac ≠ 0 → bits .andNot .i64 (rightsM l n ac bk er en xs) (ceilingM l n bk er en xs) = 0 ∧ bits .andNot .i64 (rightsM l n ac bk er en xs) (allG l n er en xs ac bk l.length) = 0) := by
  have mc := ceiling_m16 l n bk er en xs
  have ma := allG_m16 (l := l) (n := n) (er := er) (en := en) (xs := xs) (ac := ac) (bk := bk) l.length
  unfold rightsM
  by_cases hg : goodM l n er xs = true
  · rw [if_pos hg]
    by_cases hr : (inB ac 0 5 && inB bk 0 2) = true
    · rw [if_pos hr]
      refine ⟨fun h => by rw [if_pos h]; exact .inl rfl, fun h => ?_⟩
      rw [if_neg h]
      have e1 : ceilingM l n bk er en xs = ceilM l bk er en xs := by unfold ceilingM; rw [if_pos hg]
      have e2 := allG_grant (en := en) (ac := ac) (bk := bk) hg l 0 (by omega) rfl
      rw [show allG l n er en xs ac bk 0 = 0 from rfl] at e2
      rw [e1] at mc ⊢
      rw [e2]
      have := m16_ops ma mc
      exact ⟨this.2.2.2.1, this.2.2.1⟩
    · rw [if_neg hr]
      exact ⟨fun _ => .inr rfl, fun _ => ⟨(m16_ops mc mc).2.2.2.2, (m16_ops ma ma).2.2.2.2⟩⟩
  · rw [if_neg hg]
    exact ⟨fun _ => .inr rfl, fun _ => ⟨(m16_ops mc mc).2.2.2.2, (m16_ops ma ma).2.2.2.2⟩⟩
theorem rights_m16 (l : List ActM) (n ac bk er en : Int) (xs : List Int) : m16 (rightsM l n ac bk er en xs) := by
  unfold rightsM
  split
  · rename_i hg
    split
    · split
      · exact ⟨by omega, by omega⟩
      · have e2 := allG_grant (en := en) (ac := ac) (bk := bk) hg l 0 (by omega) rfl
        rw [show allG l n er en xs ac bk 0 = 0 from rfl] at e2
        rw [e2]
        exact (m16_ops (allG_m16 _) (ceilM_m16 (setOk_all (good_set hg)).2.2.2)).1
    · exact ⟨by omega, by omega⟩
  · exact ⟨by omega, by omega⟩
end Go.Proofs.YtcjoecjijmkbaaaGreat
