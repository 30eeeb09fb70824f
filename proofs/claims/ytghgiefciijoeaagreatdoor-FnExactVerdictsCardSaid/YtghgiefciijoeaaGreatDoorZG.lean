/- VA, VAB, ZA, ZE, ZF, ZG. -/
import Derived.Test.YtghgiefciijoeaaGreatDoorQW
import Derived.Test.YtghgiefciijoeaaGreatDoorQT
import Derived.Test.YtghgiefciijoeaaGreatDoorLA
import Derived.Test.YtghgiefciijoeaaGreatDoorZC
import Derived.Test.YtghgiefciijoeaaGreatDoorBG2
import Derived.Test.YtghgiefciijoeaaGreatDoorND
import Derived.Deep.DeepCutAuto

namespace Go.Proofs.YtghgiefciijoeaaGreatDoor
open Go.RowKit
set_option linter.unusedVariables false
/-- does act i let g's giver hand on what g gives? in the law's order -/
def stepH (l : List ActM) (n er en : Int) (xs : List Int) (g : ActM) (i : Nat) : Bool :=
  holdsM l n i er en xs && decide ((l.getD i act0).to = g.actor) && decide ((l.getD i act0).bucket = g.bucket) && (bits .and .i64 (l.getD i act0).mask g.mask == g.mask) && (bits .and .i64 (l.getD i act0).mask 8 != 0) && knowsM g (l.getD i act0)
def isH (l : List ActM) (n er en : Int) (xs : List Int) (g : ActM) : Nat → Bool
  | 0 => false
  | i + 1 => isH l n er en xs g i || stepH l n er en xs g i
theorem isH_yes {l : List ActM} {n er en : Int} {xs : List Int} {g : ActM} {i : Nat} (h : stepH l n er en xs g i = true) : ∀ k, i < k → isH l n er en xs g k = true
  | 0, hk => by omega
  | k + 1, hk => by
    rw [isH]
    by_cases e : i = k
    · subst e; rw [h, Bool.or_true]
    · rw [isH_yes h k (by omega), Bool.true_or]
theorem holds_parts {l : List ActM} {n k er en : Int} {xs : List Int} (h : holdsM l n k er en xs = true) : ∃ j : Nat, k = j ∧ j < l.length ∧ goodM l n er xs = true ∧ holdK l er en xs j = true := by
  simp only [holdsM, inB, Bool.and_eq_true, decide_eq_true_eq] at h
  obtain ⟨⟨h1, h2, h3⟩, h4⟩ := h
  obtain ⟨j, rfl⟩ := Int.eq_ofNat_of_zero_le h2
  rw [Int.toNat_natCast] at h4
  exact ⟨j, rfl, by omega, h1, h4⟩
theorem holds_mk {l : List ActM} {n er en : Int} {xs : List Int} {j : Nat} (hj : j < l.length) (h1 : goodM l n er xs = true) (h2 : holdK l er en xs j = true) : holdsM l n j er en xs = true := by
  simp only [holdsM, inB, Bool.and_eq_true, decide_eq_true_eq, Int.toNat_natCast]
  exact ⟨⟨h1, by omega, by omega⟩, h2⟩
/-- a grant that holds: the keeper gave it, or somebody who may hand it on -/
theorem holds_law {l : List ActM} {n er en : Int} {xs : List Int} {k : Nat} (h : holdsM l n k er en xs = true) : (l.getD k act0).kind = 1 ∧ ((l.getD k act0).actor = 0 ∨ isH l n er en xs (l.getD k act0) k = true) := by
  obtain ⟨j, hj, hl, hg, hk⟩ := holds_parts h
  obtain rfl : k = j := by omega
  refine ⟨holdK_kind hk, ?_⟩
  rw [holdK_eq] at hk
  simp only [Bool.and_eq_true, Bool.or_eq_true, decide_eq_true_eq, List.any_eq_true, List.mem_range] at hk
  rcases hk.2 with h0 | ⟨i, hi, h1, h2⟩
  · exact .inl h0
  · refine .inr (isH_yes (i := i) ?_ k hi)
    simp only [linkM, handS, Bool.and_eq_true, decide_eq_true_eq] at h2
    simp only [stepH, Bool.and_eq_true, decide_eq_true_eq]
    exact ⟨⟨⟨⟨⟨holds_mk (by omega) hg h1, h2.1.1.2⟩, h2.1.2⟩, h2.2.2⟩, h2.2.1⟩, h2.1.1.1⟩
theorem holds_lt {l : List ActM} {n er en : Int} {xs : List Int} {k : Int} (h : holdsM l n k er en xs = true) : 0 ≤ k ∧ k < l.length := by
  obtain ⟨j, hj, hl, _⟩ := holds_parts h
  omega
end Go.Proofs.YtghgiefciijoeaaGreatDoor
namespace Go.Proofs.YtghgiefciijoeaaGreatDoor
open Go.RowKit
set_option linter.unusedVariables false
/-! masks -/
def m16 (x : Int) : Prop := 0 ≤ x ∧ x ≤ 15
theorem m16_nat {x : Int} (h : m16 x) : ((x.toNat : Nat) : Int) = x ∧ x.toNat ∈ List.range 16 := ⟨Int.toNat_of_nonneg h.1, List.mem_range.2 (by have := h.1; have := h.2; omega)⟩
theorem and_all : ∀ x ∈ List.range 16, ∀ y ∈ List.range 16, (0 ≤ bits .and .i64 (x : Int) (y : Int) ∧ bits .and .i64 (x : Int) (y : Int) ≤ 15) ∧ (0 ≤ bits .or .i64 (x : Int) (y : Int) ∧ bits .or .i64 (x : Int) (y : Int) ≤ 15) ∧ bits .andNot .i64 (bits .and .i64 (x : Int) (y : Int)) (x : Int) = 0 ∧ bits .andNot .i64 (bits .and .i64 (x : Int) (y : Int)) (y : Int) = 0 ∧ bits .andNot .i64 0 (x : Int) = 0 := by decide +kernel
theorem m16_ops {x y : Int} (hx : m16 x) (hy : m16 y) : m16 (bits .and .i64 x y) ∧ m16 (bits .or .i64 x y) ∧ bits .andNot .i64 (bits .and .i64 x y) x = 0 ∧ bits .andNot .i64 (bits .and .i64 x y) y = 0 ∧ bits .andNot .i64 0 x = 0 := by
  obtain ⟨e1, m1⟩ := m16_nat hx
  obtain ⟨e2, m2⟩ := m16_nat hy
  have := and_all _ m1 _ m2
  rw [e1, e2] at this
  exact this
theorem ceil_mask {a : ActM} {n : Int} (h : actOkM a n = true) (hk : a.kind = 3) : m16 a.mask := by
  have h2 : fieldsM a n = true := by
    simp only [actOkM, Bool.and_eq_true] at h
    exact h.2
  simp only [fieldsM, hk, maskM] at h2
  unfold m16
  simp at h2
  omega
theorem ceilM_m16 {l : List ActM} {n bk er en : Int} {xs : List Int} (h : ∀ a ∈ l, actOkM a n = true) : m16 (ceilM l bk er en xs) := by
  have key : ∀ (t : List ActM) (m : Int), (∀ a ∈ t, actOkM a n = true) → m16 m → m16 (t.foldl (ceilStep l bk er en xs) m) := by
    intro t
    induction t with
    | nil => intro m _ hm; exact hm
    | cons c t ih =>
      intro m ht hm
      rw [List.foldl_cons]
      refine ih _ (fun a ha => ht a (List.mem_cons_of_mem _ ha)) ?_
      unfold ceilStep
      split
      · rename_i hc
        simp only [ceilIs, Bool.and_eq_true, decide_eq_true_eq] at hc
        exact (m16_ops hm (ceil_mask (ht c (List.mem_cons_self ..)) hc.1.1.1.1)).1
      · exact hm
  exact key l 15 h ⟨by omega, by omega⟩
theorem good_set {l : List ActM} {n er : Int} {xs : List Int} (h : goodM l n er xs = true) : setOkM l n = true := (cutB_set (good_parts h).1).1
theorem ceiling_m16 (l : List ActM) (n bk er en : Int) (xs : List Int) : m16 (ceilingM l n bk er en xs) := by
  unfold ceilingM
  split
  · rename_i h
    exact ceilM_m16 (setOk_all (good_set h)).2.2.2
  · exact ⟨by omega, by omega⟩
/-- all that the grants that hold give, as the law gathers it, of the first k acts -/
def allG (l : List ActM) (n er en : Int) (xs : List Int) (ac bk : Int) : Nat → Int
  | 0 => 0
  | k + 1 => if (holdsM l n k er en xs && decide ((l.getD k act0).to = ac) && decide ((l.getD k act0).bucket = bk)) = true then bits .or .i64 (allG l n er en xs ac bk k) (l.getD k act0).mask else allG l n er en xs ac bk k
theorem allG_m16 {l : List ActM} {n er en : Int} {xs : List Int} {ac bk : Int} : ∀ k, m16 (allG l n er en xs ac bk k)
  | 0 => ⟨by unfold allG; omega, by unfold allG; omega⟩
  | k + 1 => by
    rw [allG]
    split
    · rename_i h
      simp only [Bool.and_eq_true] at h
      obtain ⟨j, hj, hl, hg, hk⟩ := holds_parts h.1.1
      obtain rfl : k = j := by omega
      have ha := (setOk_all (good_set hg)).2.2.2 (l.getD k act0) (by rw [show l.getD k act0 = l[k] from by simp [List.getD, hl]]; exact List.getElem_mem hl)
      have := grant_mask ha (holdK_kind hk)
      exact (m16_ops (allG_m16 k) ⟨this.1, this.2⟩).2.1
    · exact allG_m16 k
theorem allG_grant {l : List ActM} {n er en : Int} {xs : List Int} {ac bk : Int} (hg : goodM l n er xs = true) : ∀ (t : List ActM) (k : Nat), k + t.length = l.length → t = l.drop k → grantF l er en xs ac bk k t (allG l n er en xs ac bk k) = allG l n er en xs ac bk l.length
  | [], k, hk, _ => by
    rw [grantF]
    simp only [List.length_nil, Nat.add_zero] at hk
    rw [hk]
  | a :: t, k, hk, ht => by
    simp only [List.length_cons] at hk
    have hkl : k < l.length := by omega
    have hd := List.drop_eq_getElem_cons hkl
    rw [← ht] at hd
    injection hd with h1 h2
    have ha : l.getD k act0 = a := by rw [h1]; simp [List.getD, hkl]
    rw [grantF, ← allG_grant hg t (k + 1) (by omega) h2]
    congr 1
    rw [allG, ha]
    have e : holdsM l n k er en xs = holdK l er en xs k := by
      cases h : holdK l er en xs k
      · cases h3 : holdsM l n k er en xs
        · rfl
        · obtain ⟨j, hj, _, _, h4⟩ := holds_parts h3
          obtain rfl : k = j := by omega
          rw [h] at h4
          cases h4
      · exact holds_mk hkl hg h
    rw [e]
/-- nobody but the keeper has more than the ceiling, nor more than was handed to them -/
theorem within_law (l : List ActM) (n ac bk er en : Int) (xs : List Int) : (ac = 0 → rightsM l n ac bk er en xs = 15 ∨ rightsM l n ac bk er en xs = 0) ∧
    (ac ≠ 0 → bits .andNot .i64 (rightsM l n ac bk er en xs) (ceilingM l n bk er en xs) = 0 ∧ bits .andNot .i64 (rightsM l n ac bk er en xs) (allG l n er en xs ac bk l.length) = 0) := by
  have mc := ceiling_m16 l n bk er en xs
  have ma := allG_m16 (l := l) (n := n) (er := er) (en := en) (xs := xs) (ac := ac) (bk := bk) l.length
  unfold rightsM
  by_cases hg : goodM l n er xs = true
  · rw [if_pos hg]
    by_cases hr : (inB ac 0 5 && inB bk 0 2) = true
    · rw [if_pos hr]
      refine ⟨fun h => by rw [if_pos h]; exact .inl rfl, fun h => ?_⟩
      rw [if_neg h]
      have e1 : ceilingM l n bk er en xs = ceilM l bk er en xs := by unfold ceilingM; rw [if_pos hg]
      have e2 := allG_grant (en := en) (ac := ac) (bk := bk) hg l 0 (by omega) rfl
      rw [show allG l n er en xs ac bk 0 = 0 from rfl] at e2
      rw [e1] at mc ⊢
      rw [e2]
      have := m16_ops ma mc
      exact ⟨this.2.2.2.1, this.2.2.1⟩
    · rw [if_neg hr]
      exact ⟨fun _ => .inr rfl, fun _ => ⟨(m16_ops mc mc).2.2.2.2, (m16_ops ma ma).2.2.2.2⟩⟩
  · rw [if_neg hg]
    exact ⟨fun _ => .inr rfl, fun _ => ⟨(m16_ops mc mc).2.2.2.2, (m16_ops ma ma).2.2.2.2⟩⟩
theorem rights_m16 (l : List ActM) (n ac bk er en : Int) (xs : List Int) : m16 (rightsM l n ac bk er en xs) := by
  unfold rightsM
  split
  · rename_i hg
    split
    · split
      · exact ⟨by omega, by omega⟩
      · have e2 := allG_grant (en := en) (ac := ac) (bk := bk) hg l 0 (by omega) rfl
        rw [show allG l n er en xs ac bk 0 = 0 from rfl] at e2
        rw [e2]
        exact (m16_ops (allG_m16 _) (ceilM_m16 (setOk_all (good_set hg)).2.2.2)).1
    · exact ⟨by omega, by omega⟩
  · exact ⟨by omega, by omega⟩
end Go.Proofs.YtghgiefciijoeaaGreatDoor
namespace Go.Proofs.YtghgiefciijoeaaGreatDoor
open Go.RowKit
set_option linter.unusedVariables false
/-- the rights of an act's actor as the act sees them -/
def rtM (l : List ActM) (a : ActM) (b : Int) : Int := if a.actor = 0 then 15 else bits .and .i64 (grantF l a.r a.n a.dep a.actor b 0 l 0) (ceilM l b a.r a.n a.dep)
def needOk (l : List ActM) (a : ActM) (b : Int) : Bool := bits .and .i64 (rtM l a b) (needsM a b) == needsM a b
def countsK (l : List ActM) (k : Nat) : Bool := decide ((l.getD k act0).kind ≠ 4) || (needOk l (l.getD k act0) 0 && needOk l (l.getD k act0) 1 && needOk l (l.getD k act0) 2)
def countsM (l : List ActM) (n k : Int) : Bool := setOkM l n && inB k 0 ((l.length : Int) - 1) && countsK l k.toNat
def verdictsM (l : List ActM) (n : Int) : List Bool := if setOkM l n = true then (List.range l.length).map (countsK l) else []
theorem ok_actor {a : ActM} {n : Int} (h : actOkM a n = true) : 0 ≤ a.actor ∧ a.actor ≤ 5 := by
  simp only [actOkM, Bool.and_eq_true, decide_eq_true_eq] at h
  omega
theorem ok_noups {a : ActM} {n : Int} (h : actOkM a n = true) (hk : a.kind ≠ 4) : a.ups = [] := by
  have h2 : fieldsM a n = true := by
    simp only [actOkM, Bool.and_eq_true] at h
    exact h.2
  refine List.eq_nil_of_length_eq_zero ?_
  unfold fieldsM at h2
  split at h2
  · simp only [Bool.and_eq_true, decide_eq_true_eq] at h2
    exact h2.2
  · split at h2
    · simp only [Bool.and_eq_true, decide_eq_true_eq] at h2
      exact h2.2
    · split at h2
      · simp only [Bool.and_eq_true, decide_eq_true_eq] at h2
        exact h2.2
      · first | (cases h2) | (rw [if_neg hk] at h2; cases h2)
/-- the eye of an act of a set is good -/
theorem eye_good {l : List ActM} {n : Nat} (h : setOkM l n = true) {a : ActM} (ha : a ∈ l) : goodM l n a.r a.dep = true := by
  have ok := (setOk_all h).2.2.2 a ha
  have hp := ok_parts ok
  obtain ⟨_, hcl⟩ := set_closed h
  rw [closed_all, List.all_eq_true] at hcl
  have h1 := ((hasAll_iff l n a).1 (hcl a ha)).1
  simp only [goodM, Bool.and_eq_true]
  refine ⟨⟨(cutB_iff l n a.dep).2 ⟨h, (ok_dep ok).1, by omega⟩, ?_⟩, by rw [Int.toNat_natCast]; exact h1⟩
  simp only [inB, Bool.and_eq_true, decide_eq_true_eq]
  omega
theorem rt_rights {l : List ActM} {n : Nat} (h : setOkM l n = true) {a : ActM} (ha : a ∈ l) (b : Int) (hb : 0 ≤ b ∧ b ≤ 2) : rightsM l n a.actor b a.r a.n a.dep = rtM l a b := by
  have ok := (setOk_all h).2.2.2 a ha
  have hac : 0 ≤ a.actor ∧ a.actor ≤ 5 := ok_actor ok
  unfold rightsM rtM
  rw [if_pos (eye_good h ha), if_pos]
  simp only [inB, Bool.and_eq_true, decide_eq_true_eq]
  omega
theorem rt_m16 {l : List ActM} {n : Nat} (h : setOkM l n = true) {a : ActM} (ha : a ∈ l) (b : Int) (hb : 0 ≤ b ∧ b ≤ 2) : m16 (rtM l a b) := by
  rw [← rt_rights h ha b hb]
  exact rights_m16 _ _ _ _ _ _ _
theorem lack_all : ∀ x ∈ List.range 16, ∀ y ∈ [0, 2, 4, 6], (bits .andNot .i64 (y : Int) (x : Int) == 0) = (bits .and .i64 (x : Int) (y : Int) == (y : Int)) := by decide +kernel
theorem needs_vals (a : ActM) (k : Int) : needsM a k = 0 ∨ needsM a k = 2 ∨ needsM a k = 4 ∨ needsM a k = 6 := by
  unfold needsM
  split <;> split <;> simp
theorem lack_need {l : List ActM} {n : Nat} (h : setOkM l n = true) {a : ActM} (ha : a ∈ l) (b : Int) (hb : 0 ≤ b ∧ b ≤ 2) : (bits .andNot .i64 (needsM a b) (rtM l a b) == 0) = needOk l a b := by
  obtain ⟨e1, m1⟩ := m16_nat (rt_m16 h ha b hb)
  have key := lack_all _ m1
  rw [e1] at key
  unfold needOk
  rcases needs_vals a b with e | e | e | e <;> rw [e]
  · exact key 0 (by simp)
  · exact key 2 (by simp)
  · exact key 4 (by simp)
  · exact key 6 (by simp)
theorem need_zero {l : List ActM} {n : Nat} (h : setOkM l n = true) {a : ActM} (ha : a ∈ l) (b : Int) (hb : 0 ≤ b ∧ b ≤ 2) (h0 : needsM a b = 0) : needOk l a b = true := by
  rw [← lack_need h ha b hb, h0, (m16_ops (rt_m16 h ha b hb) (rt_m16 h ha b hb)).2.2.2.2]
  rfl
/-- what is no transaction needs nothing -/
theorem needs_none {a : ActM} {n : Int} (h : actOkM a n = true) (hk : a.kind ≠ 4) (b : Int) : needsM a b = 0 := by
  have hu := ok_noups h hk
  unfold needsM
  rw [hu]
  rfl
/-- the program looks at all buckets whatever the act is -/
theorem counts_all {l : List ActM} {n : Nat} (h : setOkM l n = true) {k : Nat} (hk : k < l.length) : countsK l k = (needOk l (l.getD k act0) 0 && needOk l (l.getD k act0) 1 && needOk l (l.getD k act0) 2) := by
  unfold countsK
  have ha : l.getD k act0 ∈ l := by rw [show l.getD k act0 = l[k] from by simp [List.getD, hk]]; exact List.getElem_mem hk
  generalize l.getD k act0 = a at ha ⊢
  by_cases h4 : a.kind = 4
  · simp [h4]
  · have ok := (setOk_all h).2.2.2 a ha
    rw [need_zero h ha 0 (by omega) (needs_none ok h4 0), need_zero h ha 1 (by omega) (needs_none ok h4 1), need_zero h ha 2 (by omega) (needs_none ok h4 2)]
    simp [h4]
end Go.Proofs.YtghgiefciijoeaaGreatDoor
namespace Go.Proofs.YtghgiefciijoeaaGreatDoor
open Go.RowKit
set_option linter.unusedVariables false
set_option linter.unusedSimpArgs false
theorem lacking_any (r wt : Int) (w : World) : Calls Tryz.prog 139 #[.int .i64 r, .int .i64 wt] w fun e w' => e = .returned (.int .i64 (bits .andNot .i64 wt r)) ∧ Below w.heap.size w w' := by
  go_enter Tryz.func139, Tryz.ntmps139
  go_wp2
  go_ret
  exact ⟨rfl, Below.refl _ _⟩
set_option maxRecDepth 100000 in
set_option maxHeartbeats 3200000 in
theorem demand_any (a : Option Addr) (K cap mb : Nat) (n c0 c1 c2 c3 er en y y0 y1 y2 y3 : Int) (ac bk wt R : Int) (w : World) (hR : ∀ W, Below w.heap.size w W → Calls Tryz.prog 138 #[.agg #[.slice a K cap, .map (some mb), .int .i64 n, .int .i64 c0, .int .i64 c1, .int .i64 c2, .int .i64 c3, .int .i64 er, .int .i64 en, .int .i64 y, .int .i64 y0, .int .i64 y1, .int .i64 y2, .int .i64 y3], .int .i64 ac, .int .i64 bk] W fun e w' => e = .returned (.int .i64 R) ∧ Below W.heap.size W w') :
    Calls Tryz.prog 105 #[.agg #[.slice a K cap, .map (some mb), .int .i64 n, .int .i64 c0, .int .i64 c1, .int .i64 c2, .int .i64 c3, .int .i64 er, .int .i64 en, .int .i64 y, .int .i64 y0, .int .i64 y1, .int .i64 y2, .int .i64 y3], .int .i64 ac, .int .i64 bk, .int .i64 wt] w fun e w' => e = .returned (if (wt == 0 || bits .andNot .i64 wt R == 0) = true then .nilIface else .iface 129 (.agg #[.int .i64 bk, .int .i64 (bits .andNot .i64 wt R)])) ∧ Below w.heap.size w w' := by
  have HR := Lib.hid hR
  clear hR
  have b0 : Below w.heap.size w (w.alloc (.cells #[.slice a K cap, .map (some mb), .int .i64 n, .int .i64 c0, .int .i64 c1, .int .i64 c2, .int .i64 c3, .int .i64 er, .int .i64 en, .int .i64 y, .int .i64 y0, .int .i64 y1, .int .i64 y2, .int .i64 y3] 133)) := (Below.refl _ _).alloc (Nat.le_refl _) _
  by_cases h0 : wt = 0
  · subst h0
    go_enter Tryz.func105, Tryz.ntmps105
    go_wp2_with fail
    go_ret
    exact ⟨rfl, b0⟩
  · have e0 : (wt == 0) = false := by simp [h0]
    obtain ⟨V, hV⟩ : ∃ P, P = w.heap.size := ⟨_, rfl⟩
    obtain ⟨W1, hW1⟩ : ∃ W, W = w.alloc (.cells #[.slice a K cap, .map (some mb), .int .i64 n, .int .i64 c0, .int .i64 c1, .int .i64 c2, .int .i64 c3, .int .i64 er, .int .i64 en, .int .i64 y, .int .i64 y0, .int .i64 y1, .int .i64 y2, .int .i64 y3] 133) := ⟨_, rfl⟩
    rw [← hW1] at b0
    have KV := Lib.hid (show Blk W1 V _ from by rw [hW1, hV]; exact Blk.new w _ _)
    have B1 := Lib.hid b0
    have RES := Lib.hid (show (wt == 0 || bits .andNot .i64 wt R == 0) = (bits .andNot .i64 wt R == 0) from by rw [e0, Bool.false_or])
    obtain ⟨X, hX⟩ : ∃ x, x = (if (wt == 0 || bits .andNot .i64 wt R == 0) = true then Value.nilIface else .iface 129 (.agg #[.int .i64 bk, .int .i64 (bits .andNot .i64 wt R)])) := ⟨_, rfl⟩
    rw [← hX]
    have HX := Lib.hid hX
    rw [RES.out] at HX
    clear b0 h0 RES hX
    go_enter Tryz.func105, Tryz.ntmps105
    go_upto_region 1 with (fail)
    rw [← hV, ← hW1]
    clear hW1 hV
    have c := KV.out.cell
    go_wp2_with fail
    refine (HR.out _ B1.out).mono ?_
    rintro e w2 ⟨rfl, b2⟩
    have B2 := Lib.hid (B1.out.trans (b2.mono B1.out.size))
    clear b2 c KV B1 HR
    go_wp2_with fail
    refine (lacking_any R wt _).mono ?_
    rintro e w3 ⟨rfl, b3⟩
    have B3 := Lib.hid (B2.out.trans (b3.mono B2.out.size))
    clear b3 B2
    generalize bits .andNot .i64 wt R = mi at HX ⊢
    by_cases hm : mi = 0
    · have e1 : (mi != 0) = false := by simp [hm]
      have e2 : (mi == 0) = true := by simp [hm]
      clear hm
      go_wp2_with fail
      go_ret
      exact ⟨congrArg Ending.returned (show Value.nilIface = X by rw [HX.out, e2]; rfl), B3.out⟩
    · have e1 : (mi != 0) = true := by simp [hm]
      have e2 : (mi == 0) = false := by simp [hm]
      clear hm
      go_wp2_with fail
      go_ret
      exact ⟨congrArg Ending.returned (show Value.iface 129 (.agg #[.int .i64 bk, .int .i64 mi]) = X by rw [HX.out, e2]; rfl), B3.out⟩
set_option maxRecDepth 100000 in
set_option maxHeartbeats 3200000 in
/-- the set as an act sees it -/
theorem seenFrom_any (a : Option Addr) (K cap mb : Nat) (n c0 c1 c2 c3 : Int) (t : ActT) (w : World) (h : t.Reads w) :
    Calls Tryz.prog 104 #[.agg #[.slice a K cap, .map (some mb), .int .i64 n, .int .i64 c0, .int .i64 c1, .int .i64 c2, .int .i64 c3], t.val] w fun e w' => e = .returned (.agg #[.slice a K cap, .map (some mb), .int .i64 n, .int .i64 c0, .int .i64 c1, .int .i64 c2, .int .i64 c3, .int .i64 t.a.r, .int .i64 t.a.n, .int .i64 (cn t.a.dep), .int .i64 (cx t.a.dep 0), .int .i64 (cx t.a.dep 1), .int .i64 (cx t.a.dep 2), .int .i64 (cx t.a.dep 3)]) ∧ Below w.heap.size w w' := by
  obtain ⟨xt, mt, yt, ut, kt, zt, hdt, hst⟩ := slice_of h
  obtain ⟨⟨p0, p1, p2, p3, p4, p5, p6, p7, p8, p9, p10⟩, vdt, vst⟩ := t
  simp only at hdt hst
  subst hdt hst
  have RC := Lib.hid (fun W (hW : Below w.heap.size w W) => readClock_any (.slice xt mt yt) p2 W (h.1.below (B := 0) hW))
  simp only [ActT.val]
  generalize cn p2 = y at RC ⊢
  generalize cx p2 0 = y0 at RC ⊢
  generalize cx p2 1 = y1 at RC ⊢
  generalize cx p2 2 = y2 at RC ⊢
  generalize cx p2 3 = y3 at RC ⊢
  generalize okB p2 = ok at RC
  clear h
  obtain ⟨S, hS⟩ : ∃ P, P = w.heap.size := ⟨_, rfl⟩
  obtain ⟨W1, hW1⟩ : ∃ W, W = ((w.alloc (.cells #[.slice a K cap, .map (some mb), .int .i64 n, .int .i64 c0, .int .i64 c1, .int .i64 c2, .int .i64 c3] 73)).alloc (.cells #[.int .i64 p0, .int .i64 p1, .slice xt mt yt, .int .i64 p3, .int .i64 p4, .int .i64 p5, .int .i64 p6, .int .i64 p7, .int .i64 p8, .int .i64 p9, .slice ut kt zt] 32)).alloc (.cells #[.slice none 0 0, .map none, .int .i64 0, .int .i64 0, .int .i64 0, .int .i64 0, .int .i64 0, .int .i64 0, .int .i64 0, .int .i64 0, .int .i64 0, .int .i64 0, .int .i64 0, .int .i64 0] 133) := ⟨_, rfl⟩
  have b1 : Below w.heap.size w W1 := by rw [hW1]; exact (((Below.refl _ _).alloc (Nat.le_refl _) _).alloc (by simp) _).alloc (by simp; omega) _
  have KS := Lib.hid (show Blk W1 S _ from by rw [hW1, hS]; exact ((Blk.new w _ _).alloc _).alloc _)
  have KA := Lib.hid (show Blk W1 (S + 1) _ from by rw [hW1, hS]; have := (Blk.new (w.alloc (.cells #[.slice a K cap, .map (some mb), .int .i64 n, .int .i64 c0, .int .i64 c1, .int .i64 c2, .int .i64 c3] 73)) #[.int .i64 p0, .int .i64 p1, .slice xt mt yt, .int .i64 p3, .int .i64 p4, .int .i64 p5, .int .i64 p6, .int .i64 p7, .int .i64 p8, .int .i64 p9, .slice ut kt zt] 32).alloc (.cells #[.slice none 0 0, .map none, .int .i64 0, .int .i64 0, .int .i64 0, .int .i64 0, .int .i64 0, .int .i64 0, .int .i64 0, .int .i64 0, .int .i64 0, .int .i64 0, .int .i64 0, .int .i64 0] 133); simpa using this)
  have KR := Lib.hid (show Blk W1 (S + 2) _ from by rw [hW1, hS]; have := Blk.new ((w.alloc (.cells #[.slice a K cap, .map (some mb), .int .i64 n, .int .i64 c0, .int .i64 c1, .int .i64 c2, .int .i64 c3] 73)).alloc (.cells #[.int .i64 p0, .int .i64 p1, .slice xt mt yt, .int .i64 p3, .int .i64 p4, .int .i64 p5, .int .i64 p6, .int .i64 p7, .int .i64 p8, .int .i64 p9, .slice ut kt zt] 32)) #[.slice none 0 0, .map none, .int .i64 0, .int .i64 0, .int .i64 0, .int .i64 0, .int .i64 0, .int .i64 0, .int .i64 0, .int .i64 0, .int .i64 0, .int .i64 0, .int .i64 0, .int .i64 0] 133; simpa using this)
  have B1 := Lib.hid b1
  have HSW := Lib.hid (show w.heap.size ≤ S from by rw [hS]; exact Nat.le_refl _)
  clear b1
  go_enter Tryz.func104, Tryz.ntmps104
  go_upto_region 1 with (fail)
  rw [← hS, ← hW1]
  clear hS hW1
  have c := KA.out.cell
  go_wp2_with fail
  refine (RC.out _ B1.out).mono ?_
  rintro e w2 ⟨rfl, b2⟩
  have KS2 := Lib.hid (KS.out.below b2 KS.out.lt)
  have KA2 := Lib.hid (KA.out.below b2 KA.out.lt)
  have KR2 := Lib.hid (KR.out.below b2 KR.out.lt)
  have B2 := Lib.hid (B1.out.trans (b2.mono B1.out.size))
  clear b2 c KS KA KR B1 RC
  obtain ⟨C, hC⟩ : ∃ P, P = w2.heap.size := ⟨_, rfl⟩
  obtain ⟨W3, hW3⟩ : ∃ W, W = w2.alloc (.cells #[.int .i64 y, .int .i64 y0, .int .i64 y1, .int .i64 y2, .int .i64 y3] 71) := ⟨_, rfl⟩
  have KC := Lib.hid (show Blk W3 C _ from by rw [hW3, hC]; exact Blk.new w2 _ _)
  have KS3 := Lib.hid (show Blk W3 S _ from by rw [hW3]; exact KS2.out.alloc _)
  have KA3 := Lib.hid (show Blk W3 (S + 1) _ from by rw [hW3]; exact KA2.out.alloc _)
  have KR3 := Lib.hid (show Blk W3 (S + 2) _ from by rw [hW3]; exact KR2.out.alloc _)
  have B3 := Lib.hid (show Below w.heap.size w W3 from by rw [hW3]; exact B2.out.alloc B2.out.size _)
  go_upto_region 2 with (fail)
  rw [← hC, ← hW3]
  clear hC hW3 KS2 KA2 KR2 B2
  have c := KS3.out.cell
  have d := KA3.out.cell
  have g := KC.out.cell
  have r := KR3.out.cell
  have f := KR3.out.free
  go_wp2_with fail
  refine bodyPost_ret (v := .agg #[.slice a K cap, .map (some mb), .int .i64 n, .int .i64 c0, .int .i64 c1, .int .i64 c2, .int .i64 c3, .int .i64 p0, .int .i64 p1, .int .i64 y, .int .i64 y0, .int .i64 y1, .int .i64 y2, .int .i64 y3]) (by simp [results, Tryz.results104, go_sem, r]) rfl ⟨rfl, ?_⟩
  repeat (with_reducible refine Below.setCell ?_ (by show _ ≤ S + 2; have := HSW.out; omega) _)
  exact B3.out
end Go.Proofs.YtghgiefciijoeaaGreatDoor
namespace Go.Proofs.YtghgiefciijoeaaGreatDoor
open Go.RowKit
set_option linter.unusedVariables false
set_option linter.unusedSimpArgs false
structure BelZ (W w' : World) : Prop where
  b : Below W.heap.size W w'
theorem BelZ.drew {W a : World} (h : BelZ W a) : BelZ W a.drew := ⟨h.b.drew⟩
theorem BelZ.step {W a b : World} (h : BelZ W a) (hb : Below a.heap.size a b) : BelZ W b := ⟨h.b.trans (hb.mono h.b.size)⟩
def Verd (w : World) (ok : Bool) (r n : Int) (e : Ending) (w' : World) : Prop := Below w.heap.size w w' ∧ ((ok = true ∧ e = .returned .nilIface) ∨ (ok = false ∧ ∃ b m, e = .returned (.iface 137 (.agg #[.int .i64 r, .int .i64 n, .iface 129 (.agg #[.int .i64 b, .int .i64 m])]))))
set_option maxRecDepth 100000 in
set_option maxHeartbeats 12800000 in
theorem verdict_any (a : Option Addr) (K cap mb : Nat) (n c0 c1 c2 c3 : Int) (t : ActT) (R : Int → Int) (w : World) (h : t.Reads w)
    (hR : ∀ b, 0 ≤ b → b ≤ 2 → ∀ W, Below w.heap.size w W → Calls Tryz.prog 138 #[.agg #[.slice a K cap, .map (some mb), .int .i64 n, .int .i64 c0, .int .i64 c1, .int .i64 c2, .int .i64 c3, .int .i64 t.a.r, .int .i64 t.a.n, .int .i64 (cn t.a.dep), .int .i64 (cx t.a.dep 0), .int .i64 (cx t.a.dep 1), .int .i64 (cx t.a.dep 2), .int .i64 (cx t.a.dep 3)], .int .i64 t.a.actor, .int .i64 b] W fun e w' => e = .returned (.int .i64 (R b)) ∧ Below W.heap.size W w') :
    Calls Tryz.prog 80 #[.agg #[.slice a K cap, .map (some mb), .int .i64 n, .int .i64 c0, .int .i64 c1, .int .i64 c2, .int .i64 c3], t.val] w (Verd w ((needsM t.a 0 == 0 || bits .andNot .i64 (needsM t.a 0) (R 0) == 0) && (needsM t.a 1 == 0 || bits .andNot .i64 (needsM t.a 1) (R 1) == 0) && (needsM t.a 2 == 0 || bits .andNot .i64 (needsM t.a 2) (R 2) == 0)) t.a.r t.a.n) := by
  obtain ⟨xt, mt, yt, ut, kt, zt, hdt, hst⟩ := slice_of h
  obtain ⟨⟨p0, p1, p2, p3, p4, p5, p6, p7, p8, p9, p10⟩, vdt, vst⟩ := t
  simp only at hdt hst hR
  subst hdt hst
  have SF := Lib.hid (fun W (hW : Below w.heap.size w W) => seenFrom_any a K cap mb n c0 c1 c2 c3 _ W (h.below hW))
  have NM := Lib.hid (fun W (hW : Below w.heap.size w W) => nameOf_any _ W (h.below hW))
  have CN := Lib.hid (fun b (h0 : 0 ≤ b) (h2 : b ≤ 2) W (hW : Below w.heap.size w W) => implNeeds_any _ _ b W (h.below hW).is (by omega))
  have CD := Lib.hid (fun b (h0 : 0 ≤ b) (h2 : b ≤ 2) wt W (hW : Below w.heap.size w W) => demand_any a K cap mb n c0 c1 c2 c3 p0 p1 (cn p2) (cx p2 0) (cx p2 1) (cx p2 2) (cx p2 3) p3 b wt (R b) W (fun W' hW' => hR b h0 h2 W' (hW.trans (hW'.mono hW.size))))
  unfold NameMade nameV at NM
  simp only [ActT.val] at SF NM CN ⊢
  unfold Verd
  have CN0 := Lib.hid (CN.out 0 (by omega) (by omega))
  have CD0 := Lib.hid (CD.out 0 (by omega) (by omega) (needsM ⟨p0, p1, p2, p3, p4, p5, p6, p7, p8, p9, p10⟩ 0))
  have CN1 := Lib.hid (CN.out 1 (by omega) (by omega))
  have CD1 := Lib.hid (CD.out 1 (by omega) (by omega) (needsM ⟨p0, p1, p2, p3, p4, p5, p6, p7, p8, p9, p10⟩ 1))
  have CN2 := Lib.hid (CN.out 2 (by omega) (by omega))
  have CD2 := Lib.hid (CD.out 2 (by omega) (by omega) (needsM ⟨p0, p1, p2, p3, p4, p5, p6, p7, p8, p9, p10⟩ 2))
  obtain ⟨G0, hG0⟩ : ∃ g, g = (needsM ⟨p0, p1, p2, p3, p4, p5, p6, p7, p8, p9, p10⟩ 0 == 0 || bits .andNot .i64 (needsM ⟨p0, p1, p2, p3, p4, p5, p6, p7, p8, p9, p10⟩ 0) (R 0) == 0) := ⟨_, rfl⟩
  rw [← hG0] at CD0 ⊢
  obtain ⟨G1, hG1⟩ : ∃ g, g = (needsM ⟨p0, p1, p2, p3, p4, p5, p6, p7, p8, p9, p10⟩ 1 == 0 || bits .andNot .i64 (needsM ⟨p0, p1, p2, p3, p4, p5, p6, p7, p8, p9, p10⟩ 1) (R 1) == 0) := ⟨_, rfl⟩
  rw [← hG1] at CD1 ⊢
  obtain ⟨G2, hG2⟩ : ∃ g, g = (needsM ⟨p0, p1, p2, p3, p4, p5, p6, p7, p8, p9, p10⟩ 2 == 0 || bits .andNot .i64 (needsM ⟨p0, p1, p2, p3, p4, p5, p6, p7, p8, p9, p10⟩ 2) (R 2) == 0) := ⟨_, rfl⟩
  rw [← hG2] at CD2 ⊢
  generalize bits .andNot .i64 (needsM ⟨p0, p1, p2, p3, p4, p5, p6, p7, p8, p9, p10⟩ 0) (R 0) = m0 at CD0 hG0
  generalize needsM ⟨p0, p1, p2, p3, p4, p5, p6, p7, p8, p9, p10⟩ 0 = d0 at CD0 CN0 hG0
  clear hG0
  generalize bits .andNot .i64 (needsM ⟨p0, p1, p2, p3, p4, p5, p6, p7, p8, p9, p10⟩ 1) (R 1) = m1 at CD1 hG1
  generalize needsM ⟨p0, p1, p2, p3, p4, p5, p6, p7, p8, p9, p10⟩ 1 = d1 at CD1 CN1 hG1
  clear hG1
  generalize bits .andNot .i64 (needsM ⟨p0, p1, p2, p3, p4, p5, p6, p7, p8, p9, p10⟩ 2) (R 2) = m2 at CD2 hG2
  generalize needsM ⟨p0, p1, p2, p3, p4, p5, p6, p7, p8, p9, p10⟩ 2 = d2 at CD2 CN2 hG2
  clear hG2
  clear CN CD hR h
  generalize cn p2 = y at *
  generalize cx p2 0 = y0 at *
  generalize cx p2 1 = y1 at *
  generalize cx p2 2 = y2 at *
  generalize cx p2 3 = y3 at *
  obtain ⟨S, hS⟩ : ∃ P, P = w.heap.size := ⟨_, rfl⟩
  obtain ⟨W1, hW1⟩ : ∃ W, W = ((w.alloc (.cells #[.slice a K cap, .map (some mb), .int .i64 n, .int .i64 c0, .int .i64 c1, .int .i64 c2, .int .i64 c3] 73)).alloc (.cells #[.int .i64 p0, .int .i64 p1, .slice xt mt yt, .int .i64 p3, .int .i64 p4, .int .i64 p5, .int .i64 p6, .int .i64 p7, .int .i64 p8, .int .i64 p9, .slice ut kt zt] 32)) := ⟨_, rfl⟩
  have b1 : Below w.heap.size w W1 := by rw [hW1]; exact ((Below.refl _ _).alloc (Nat.le_refl _) _).alloc (by simp) _
  have KS := Lib.hid (show Blk W1 S _ from by rw [hW1, hS]; exact (Blk.new w _ _).alloc _)
  have KA := Lib.hid (show Blk W1 (S + 1) _ from by rw [hW1, hS]; have := Blk.new (w.alloc (.cells #[.slice a K cap, .map (some mb), .int .i64 n, .int .i64 c0, .int .i64 c1, .int .i64 c2, .int .i64 c3] 73)) #[.int .i64 p0, .int .i64 p1, .slice xt mt yt, .int .i64 p3, .int .i64 p4, .int .i64 p5, .int .i64 p6, .int .i64 p7, .int .i64 p8, .int .i64 p9, .slice ut kt zt] 32; simpa using this)
  have B1 := Lib.hid b1
  clear b1
  go_enter Tryz.func80, Tryz.ntmps80
  go_upto_region 1 with (fail)
  rw [← hS, ← hW1]
  clear hS hW1
  have c := KS.out.cell
  have d := KA.out.cell
  go_wp2_with fail
  refine (SF.out _ B1.out).mono ?_
  rintro e w2 ⟨rfl, b2⟩
  have KA2 := Lib.hid (KA.out.below b2 KA.out.lt)
  have B2 := Lib.hid (B1.out.trans (b2.mono B1.out.size))
  clear b2 c d KS KA B1 SF
  obtain ⟨V, hV⟩ : ∃ P, P = w2.heap.size := ⟨_, rfl⟩
  obtain ⟨W3, hW3⟩ : ∃ W, W = w2.alloc (.cells #[.slice a K cap, .map (some mb), .int .i64 n, .int .i64 c0, .int .i64 c1, .int .i64 c2, .int .i64 c3, .int .i64 p0, .int .i64 p1, .int .i64 y, .int .i64 y0, .int .i64 y1, .int .i64 y2, .int .i64 y3] 133) := ⟨_, rfl⟩
  have KV := Lib.hid (show Blk W3 V _ from by rw [hW3, hV]; exact Blk.new w2 _ _)
  have KA3 := Lib.hid (show Blk W3 (S + 1) _ from by rw [hW3]; exact KA2.out.alloc _)
  have B3 := Lib.hid (show Below w.heap.size w W3 from by rw [hW3]; exact B2.out.alloc B2.out.size _)
  go_upto_region 2 with (fail)
  rw [← hV, ← hW3]
  clear hV hW3 KA2 B2
  go_wp2_with fail
  refine wp_loop_rounds 4 ?_
  -- bucket 0
  rw [rounds_succ]
  have hAl := KA3.out.lt
  have hVl := KV.out.lt
  have a0 := fun W' (h : BelZ W3 W') => (show W'.cell? ⟨S + 1, 0, none⟩ = some (.int .i64 p0) from (KA3.out.below h.b hAl).cell 0)
  have a1 := fun W' (h : BelZ W3 W') => (show W'.cell? ⟨S + 1, 1, none⟩ = some (.int .i64 p1) from (KA3.out.below h.b hAl).cell 1)
  have a2 := fun W' (h : BelZ W3 W') => (show W'.cell? ⟨S + 1, 2, none⟩ = some (.slice xt mt yt) from (KA3.out.below h.b hAl).cell 2)
  have a3 := fun W' (h : BelZ W3 W') => (show W'.cell? ⟨S + 1, 3, none⟩ = some (.int .i64 p3) from (KA3.out.below h.b hAl).cell 3)
  have a4 := fun W' (h : BelZ W3 W') => (show W'.cell? ⟨S + 1, 4, none⟩ = some (.int .i64 p4) from (KA3.out.below h.b hAl).cell 4)
  have a5 := fun W' (h : BelZ W3 W') => (show W'.cell? ⟨S + 1, 5, none⟩ = some (.int .i64 p5) from (KA3.out.below h.b hAl).cell 5)
  have a6 := fun W' (h : BelZ W3 W') => (show W'.cell? ⟨S + 1, 6, none⟩ = some (.int .i64 p6) from (KA3.out.below h.b hAl).cell 6)
  have a7 := fun W' (h : BelZ W3 W') => (show W'.cell? ⟨S + 1, 7, none⟩ = some (.int .i64 p7) from (KA3.out.below h.b hAl).cell 7)
  have a8 := fun W' (h : BelZ W3 W') => (show W'.cell? ⟨S + 1, 8, none⟩ = some (.int .i64 p8) from (KA3.out.below h.b hAl).cell 8)
  have a9 := fun W' (h : BelZ W3 W') => (show W'.cell? ⟨S + 1, 9, none⟩ = some (.int .i64 p9) from (KA3.out.below h.b hAl).cell 9)
  have a10 := fun W' (h : BelZ W3 W') => (show W'.cell? ⟨S + 1, 10, none⟩ = some (.slice ut kt zt) from (KA3.out.below h.b hAl).cell 10)
  have v0 := fun W' (h : BelZ W3 W') => (show W'.cell? ⟨V, 0, none⟩ = some (.slice a K cap) from (KV.out.below h.b hVl).cell 0)
  have v1 := fun W' (h : BelZ W3 W') => (show W'.cell? ⟨V, 1, none⟩ = some (.map (some mb)) from (KV.out.below h.b hVl).cell 1)
  have v2 := fun W' (h : BelZ W3 W') => (show W'.cell? ⟨V, 2, none⟩ = some (.int .i64 n) from (KV.out.below h.b hVl).cell 2)
  have v3 := fun W' (h : BelZ W3 W') => (show W'.cell? ⟨V, 3, none⟩ = some (.int .i64 c0) from (KV.out.below h.b hVl).cell 3)
  have v4 := fun W' (h : BelZ W3 W') => (show W'.cell? ⟨V, 4, none⟩ = some (.int .i64 c1) from (KV.out.below h.b hVl).cell 4)
  have v5 := fun W' (h : BelZ W3 W') => (show W'.cell? ⟨V, 5, none⟩ = some (.int .i64 c2) from (KV.out.below h.b hVl).cell 5)
  have v6 := fun W' (h : BelZ W3 W') => (show W'.cell? ⟨V, 6, none⟩ = some (.int .i64 c3) from (KV.out.below h.b hVl).cell 6)
  have v7 := fun W' (h : BelZ W3 W') => (show W'.cell? ⟨V, 7, none⟩ = some (.int .i64 p0) from (KV.out.below h.b hVl).cell 7)
  have v8 := fun W' (h : BelZ W3 W') => (show W'.cell? ⟨V, 8, none⟩ = some (.int .i64 p1) from (KV.out.below h.b hVl).cell 8)
  have v9 := fun W' (h : BelZ W3 W') => (show W'.cell? ⟨V, 9, none⟩ = some (.int .i64 y) from (KV.out.below h.b hVl).cell 9)
  have v10 := fun W' (h : BelZ W3 W') => (show W'.cell? ⟨V, 10, none⟩ = some (.int .i64 y0) from (KV.out.below h.b hVl).cell 10)
  have v11 := fun W' (h : BelZ W3 W') => (show W'.cell? ⟨V, 11, none⟩ = some (.int .i64 y1) from (KV.out.below h.b hVl).cell 11)
  have v12 := fun W' (h : BelZ W3 W') => (show W'.cell? ⟨V, 12, none⟩ = some (.int .i64 y2) from (KV.out.below h.b hVl).cell 12)
  have v13 := fun W' (h : BelZ W3 W') => (show W'.cell? ⟨V, 13, none⟩ = some (.int .i64 y3) from (KV.out.below h.b hVl).cell 13)
  have SB := Lib.hid (show BelZ W3 W3.drew from (⟨Below.refl _ _⟩ : BelZ W3 W3).drew)
  have FN := Lib.hid (fun W' (h : BelZ W3 W') => CN0.out W' (B3.out.trans (h.b.mono B3.out.size)))
  have FD := Lib.hid (fun W' (h : BelZ W3 W') => CD0.out W' (B3.out.trans (h.b.mono B3.out.size)))
  clear CN0 CD0 hAl hVl
  cases G0
  · simp only [Bool.false_eq_true, if_false] at FD
    go_wp2_with fail
    go_region_held3 (fun w' => BelZ W3 w')
      (first | (with_reducible exact SB.out) | (with_reducible assumption))
      (first
        | (go_at_call 106; (with_reducible refine (FN.out _ (by with_reducible first | exact SB.out | assumption)).mono ?_); rintro e wz ⟨rfl, hbz⟩; have bz := BelZ.step (by with_reducible first | exact SB.out | assumption) hbz; clear hbz)
        | (go_at_call 105; (with_reducible refine (FD.out _ (by with_reducible first | exact SB.out | assumption)).mono ?_); rintro e wz ⟨rfl, hbz⟩; have by_ := BelZ.step (by with_reducible first | exact SB.out | assumption) hbz; clear hbz))
    have BY := Lib.hid (B3.out.trans (by_.b.mono B3.out.size))
    have KA4 := Lib.hid (KA3.out.below by_.b KA3.out.lt)
    clear a0 a1 a2 a3 a4 a5 a6 a7 a8 a9 a10 v0 v1 v2 v3 v4 v5 v6 v7 v8 v9 v10 v11 v12 v13 SB FN FD
    have c := KA4.out.cell
    go_wp2_with fail
    refine (NM.out _ (by with_reducible exact BY.out)).mono ?_
    rintro e wn ⟨rfl, bn⟩
    have BN := Lib.hid (BY.out.trans (bn.mono BY.out.size))
    clear bn c
    go_wp2_with fail
    go_ret
    exact ⟨BN.out, .inr ⟨by simp, _, _, rfl⟩⟩
  simp only [if_true] at FD
  go_wp2_with fail
  go_region_held3 (fun w' => BelZ W3 w')
    (first | (with_reducible exact SB.out) | (with_reducible assumption))
    (first
      | (go_at_call 106; (with_reducible refine (FN.out _ (by with_reducible first | exact SB.out | assumption)).mono ?_); rintro e wz ⟨rfl, hbz⟩; have bz := BelZ.step (by with_reducible first | exact SB.out | assumption) hbz; clear hbz)
      | (go_at_call 105; (with_reducible refine (FD.out _ (by with_reducible first | exact SB.out | assumption)).mono ?_); rintro e wz ⟨rfl, hbz⟩; have by_ := BelZ.step (by with_reducible first | exact SB.out | assumption) hbz; clear hbz))
  obtain ⟨U0, hU⟩ : ∃ W, W = wz := ⟨_, rfl⟩
  rw [← hU] at by_ ⊢
  clear hU
  replace KA3 := Lib.hid (KA3.out.below by_.b KA3.out.lt)
  replace KV := Lib.hid (KV.out.below by_.b KV.out.lt)
  replace B3 := Lib.hid (B3.out.trans (by_.b.mono B3.out.size))
  clear a0 a1 a2 a3 a4 a5 a6 a7 a8 a9 a10 v0 v1 v2 v3 v4 v5 v6 v7 v8 v9 v10 v11 v12 v13 SB FN FD by_
  go_wp2_with fail
  -- bucket 1
  rw [rounds_succ]
  have hAl := KA3.out.lt
  have hVl := KV.out.lt
  have a0 := fun W' (h : BelZ U0 W') => (show W'.cell? ⟨S + 1, 0, none⟩ = some (.int .i64 p0) from (KA3.out.below h.b hAl).cell 0)
  have a1 := fun W' (h : BelZ U0 W') => (show W'.cell? ⟨S + 1, 1, none⟩ = some (.int .i64 p1) from (KA3.out.below h.b hAl).cell 1)
  have a2 := fun W' (h : BelZ U0 W') => (show W'.cell? ⟨S + 1, 2, none⟩ = some (.slice xt mt yt) from (KA3.out.below h.b hAl).cell 2)
  have a3 := fun W' (h : BelZ U0 W') => (show W'.cell? ⟨S + 1, 3, none⟩ = some (.int .i64 p3) from (KA3.out.below h.b hAl).cell 3)
  have a4 := fun W' (h : BelZ U0 W') => (show W'.cell? ⟨S + 1, 4, none⟩ = some (.int .i64 p4) from (KA3.out.below h.b hAl).cell 4)
  have a5 := fun W' (h : BelZ U0 W') => (show W'.cell? ⟨S + 1, 5, none⟩ = some (.int .i64 p5) from (KA3.out.below h.b hAl).cell 5)
  have a6 := fun W' (h : BelZ U0 W') => (show W'.cell? ⟨S + 1, 6, none⟩ = some (.int .i64 p6) from (KA3.out.below h.b hAl).cell 6)
  have a7 := fun W' (h : BelZ U0 W') => (show W'.cell? ⟨S + 1, 7, none⟩ = some (.int .i64 p7) from (KA3.out.below h.b hAl).cell 7)
  have a8 := fun W' (h : BelZ U0 W') => (show W'.cell? ⟨S + 1, 8, none⟩ = some (.int .i64 p8) from (KA3.out.below h.b hAl).cell 8)
  have a9 := fun W' (h : BelZ U0 W') => (show W'.cell? ⟨S + 1, 9, none⟩ = some (.int .i64 p9) from (KA3.out.below h.b hAl).cell 9)
  have a10 := fun W' (h : BelZ U0 W') => (show W'.cell? ⟨S + 1, 10, none⟩ = some (.slice ut kt zt) from (KA3.out.below h.b hAl).cell 10)
  have v0 := fun W' (h : BelZ U0 W') => (show W'.cell? ⟨V, 0, none⟩ = some (.slice a K cap) from (KV.out.below h.b hVl).cell 0)
  have v1 := fun W' (h : BelZ U0 W') => (show W'.cell? ⟨V, 1, none⟩ = some (.map (some mb)) from (KV.out.below h.b hVl).cell 1)
  have v2 := fun W' (h : BelZ U0 W') => (show W'.cell? ⟨V, 2, none⟩ = some (.int .i64 n) from (KV.out.below h.b hVl).cell 2)
  have v3 := fun W' (h : BelZ U0 W') => (show W'.cell? ⟨V, 3, none⟩ = some (.int .i64 c0) from (KV.out.below h.b hVl).cell 3)
  have v4 := fun W' (h : BelZ U0 W') => (show W'.cell? ⟨V, 4, none⟩ = some (.int .i64 c1) from (KV.out.below h.b hVl).cell 4)
  have v5 := fun W' (h : BelZ U0 W') => (show W'.cell? ⟨V, 5, none⟩ = some (.int .i64 c2) from (KV.out.below h.b hVl).cell 5)
  have v6 := fun W' (h : BelZ U0 W') => (show W'.cell? ⟨V, 6, none⟩ = some (.int .i64 c3) from (KV.out.below h.b hVl).cell 6)
  have v7 := fun W' (h : BelZ U0 W') => (show W'.cell? ⟨V, 7, none⟩ = some (.int .i64 p0) from (KV.out.below h.b hVl).cell 7)
  have v8 := fun W' (h : BelZ U0 W') => (show W'.cell? ⟨V, 8, none⟩ = some (.int .i64 p1) from (KV.out.below h.b hVl).cell 8)
  have v9 := fun W' (h : BelZ U0 W') => (show W'.cell? ⟨V, 9, none⟩ = some (.int .i64 y) from (KV.out.below h.b hVl).cell 9)
  have v10 := fun W' (h : BelZ U0 W') => (show W'.cell? ⟨V, 10, none⟩ = some (.int .i64 y0) from (KV.out.below h.b hVl).cell 10)
  have v11 := fun W' (h : BelZ U0 W') => (show W'.cell? ⟨V, 11, none⟩ = some (.int .i64 y1) from (KV.out.below h.b hVl).cell 11)
  have v12 := fun W' (h : BelZ U0 W') => (show W'.cell? ⟨V, 12, none⟩ = some (.int .i64 y2) from (KV.out.below h.b hVl).cell 12)
  have v13 := fun W' (h : BelZ U0 W') => (show W'.cell? ⟨V, 13, none⟩ = some (.int .i64 y3) from (KV.out.below h.b hVl).cell 13)
  have SB := Lib.hid (show BelZ U0 U0.drew from (⟨Below.refl _ _⟩ : BelZ U0 U0).drew)
  have FN := Lib.hid (fun W' (h : BelZ U0 W') => CN1.out W' (B3.out.trans (h.b.mono B3.out.size)))
  have FD := Lib.hid (fun W' (h : BelZ U0 W') => CD1.out W' (B3.out.trans (h.b.mono B3.out.size)))
  clear CN1 CD1 hAl hVl
  cases G1
  · simp only [Bool.false_eq_true, if_false] at FD
    go_wp2_with fail
    go_region_held3 (fun w' => BelZ U0 w')
      (first | (with_reducible exact SB.out) | (with_reducible assumption))
      (first
        | (go_at_call 106; (with_reducible refine (FN.out _ (by with_reducible first | exact SB.out | assumption)).mono ?_); rintro e wz ⟨rfl, hbz⟩; have bz := BelZ.step (by with_reducible first | exact SB.out | assumption) hbz; clear hbz)
        | (go_at_call 105; (with_reducible refine (FD.out _ (by with_reducible first | exact SB.out | assumption)).mono ?_); rintro e wz ⟨rfl, hbz⟩; have by_ := BelZ.step (by with_reducible first | exact SB.out | assumption) hbz; clear hbz))
    have BY := Lib.hid (B3.out.trans (by_.b.mono B3.out.size))
    have KA4 := Lib.hid (KA3.out.below by_.b KA3.out.lt)
    clear a0 a1 a2 a3 a4 a5 a6 a7 a8 a9 a10 v0 v1 v2 v3 v4 v5 v6 v7 v8 v9 v10 v11 v12 v13 SB FN FD
    have c := KA4.out.cell
    go_wp2_with fail
    refine (NM.out _ (by with_reducible exact BY.out)).mono ?_
    rintro e wn ⟨rfl, bn⟩
    have BN := Lib.hid (BY.out.trans (bn.mono BY.out.size))
    clear bn c
    go_wp2_with fail
    go_ret
    exact ⟨BN.out, .inr ⟨by simp, _, _, rfl⟩⟩
  simp only [if_true] at FD
  go_wp2_with fail
  go_region_held3 (fun w' => BelZ U0 w')
    (first | (with_reducible exact SB.out) | (with_reducible assumption))
    (first
      | (go_at_call 106; (with_reducible refine (FN.out _ (by with_reducible first | exact SB.out | assumption)).mono ?_); rintro e wz ⟨rfl, hbz⟩; have bz := BelZ.step (by with_reducible first | exact SB.out | assumption) hbz; clear hbz)
      | (go_at_call 105; (with_reducible refine (FD.out _ (by with_reducible first | exact SB.out | assumption)).mono ?_); rintro e wz ⟨rfl, hbz⟩; have by_ := BelZ.step (by with_reducible first | exact SB.out | assumption) hbz; clear hbz))
  obtain ⟨U1, hU⟩ : ∃ W, W = wz := ⟨_, rfl⟩
  rw [← hU] at by_ ⊢
  clear hU
  replace KA3 := Lib.hid (KA3.out.below by_.b KA3.out.lt)
  replace KV := Lib.hid (KV.out.below by_.b KV.out.lt)
  replace B3 := Lib.hid (B3.out.trans (by_.b.mono B3.out.size))
  clear a0 a1 a2 a3 a4 a5 a6 a7 a8 a9 a10 v0 v1 v2 v3 v4 v5 v6 v7 v8 v9 v10 v11 v12 v13 SB FN FD by_
  go_wp2_with fail
  -- bucket 2
  rw [rounds_succ]
  have hAl := KA3.out.lt
  have hVl := KV.out.lt
  have a0 := fun W' (h : BelZ U1 W') => (show W'.cell? ⟨S + 1, 0, none⟩ = some (.int .i64 p0) from (KA3.out.below h.b hAl).cell 0)
  have a1 := fun W' (h : BelZ U1 W') => (show W'.cell? ⟨S + 1, 1, none⟩ = some (.int .i64 p1) from (KA3.out.below h.b hAl).cell 1)
  have a2 := fun W' (h : BelZ U1 W') => (show W'.cell? ⟨S + 1, 2, none⟩ = some (.slice xt mt yt) from (KA3.out.below h.b hAl).cell 2)
  have a3 := fun W' (h : BelZ U1 W') => (show W'.cell? ⟨S + 1, 3, none⟩ = some (.int .i64 p3) from (KA3.out.below h.b hAl).cell 3)
  have a4 := fun W' (h : BelZ U1 W') => (show W'.cell? ⟨S + 1, 4, none⟩ = some (.int .i64 p4) from (KA3.out.below h.b hAl).cell 4)
  have a5 := fun W' (h : BelZ U1 W') => (show W'.cell? ⟨S + 1, 5, none⟩ = some (.int .i64 p5) from (KA3.out.below h.b hAl).cell 5)
  have a6 := fun W' (h : BelZ U1 W') => (show W'.cell? ⟨S + 1, 6, none⟩ = some (.int .i64 p6) from (KA3.out.below h.b hAl).cell 6)
  have a7 := fun W' (h : BelZ U1 W') => (show W'.cell? ⟨S + 1, 7, none⟩ = some (.int .i64 p7) from (KA3.out.below h.b hAl).cell 7)
  have a8 := fun W' (h : BelZ U1 W') => (show W'.cell? ⟨S + 1, 8, none⟩ = some (.int .i64 p8) from (KA3.out.below h.b hAl).cell 8)
  have a9 := fun W' (h : BelZ U1 W') => (show W'.cell? ⟨S + 1, 9, none⟩ = some (.int .i64 p9) from (KA3.out.below h.b hAl).cell 9)
  have a10 := fun W' (h : BelZ U1 W') => (show W'.cell? ⟨S + 1, 10, none⟩ = some (.slice ut kt zt) from (KA3.out.below h.b hAl).cell 10)
  have v0 := fun W' (h : BelZ U1 W') => (show W'.cell? ⟨V, 0, none⟩ = some (.slice a K cap) from (KV.out.below h.b hVl).cell 0)
  have v1 := fun W' (h : BelZ U1 W') => (show W'.cell? ⟨V, 1, none⟩ = some (.map (some mb)) from (KV.out.below h.b hVl).cell 1)
  have v2 := fun W' (h : BelZ U1 W') => (show W'.cell? ⟨V, 2, none⟩ = some (.int .i64 n) from (KV.out.below h.b hVl).cell 2)
  have v3 := fun W' (h : BelZ U1 W') => (show W'.cell? ⟨V, 3, none⟩ = some (.int .i64 c0) from (KV.out.below h.b hVl).cell 3)
  have v4 := fun W' (h : BelZ U1 W') => (show W'.cell? ⟨V, 4, none⟩ = some (.int .i64 c1) from (KV.out.below h.b hVl).cell 4)
  have v5 := fun W' (h : BelZ U1 W') => (show W'.cell? ⟨V, 5, none⟩ = some (.int .i64 c2) from (KV.out.below h.b hVl).cell 5)
  have v6 := fun W' (h : BelZ U1 W') => (show W'.cell? ⟨V, 6, none⟩ = some (.int .i64 c3) from (KV.out.below h.b hVl).cell 6)
  have v7 := fun W' (h : BelZ U1 W') => (show W'.cell? ⟨V, 7, none⟩ = some (.int .i64 p0) from (KV.out.below h.b hVl).cell 7)
  have v8 := fun W' (h : BelZ U1 W') => (show W'.cell? ⟨V, 8, none⟩ = some (.int .i64 p1) from (KV.out.below h.b hVl).cell 8)
  have v9 := fun W' (h : BelZ U1 W') => (show W'.cell? ⟨V, 9, none⟩ = some (.int .i64 y) from (KV.out.below h.b hVl).cell 9)
  have v10 := fun W' (h : BelZ U1 W') => (show W'.cell? ⟨V, 10, none⟩ = some (.int .i64 y0) from (KV.out.below h.b hVl).cell 10)
  have v11 := fun W' (h : BelZ U1 W') => (show W'.cell? ⟨V, 11, none⟩ = some (.int .i64 y1) from (KV.out.below h.b hVl).cell 11)
  have v12 := fun W' (h : BelZ U1 W') => (show W'.cell? ⟨V, 12, none⟩ = some (.int .i64 y2) from (KV.out.below h.b hVl).cell 12)
  have v13 := fun W' (h : BelZ U1 W') => (show W'.cell? ⟨V, 13, none⟩ = some (.int .i64 y3) from (KV.out.below h.b hVl).cell 13)
  have SB := Lib.hid (show BelZ U1 U1.drew from (⟨Below.refl _ _⟩ : BelZ U1 U1).drew)
  have FN := Lib.hid (fun W' (h : BelZ U1 W') => CN2.out W' (B3.out.trans (h.b.mono B3.out.size)))
  have FD := Lib.hid (fun W' (h : BelZ U1 W') => CD2.out W' (B3.out.trans (h.b.mono B3.out.size)))
  clear CN2 CD2 hAl hVl
  cases G2
  · simp only [Bool.false_eq_true, if_false] at FD
    go_wp2_with fail
    go_region_held3 (fun w' => BelZ U1 w')
      (first | (with_reducible exact SB.out) | (with_reducible assumption))
      (first
        | (go_at_call 106; (with_reducible refine (FN.out _ (by with_reducible first | exact SB.out | assumption)).mono ?_); rintro e wz ⟨rfl, hbz⟩; have bz := BelZ.step (by with_reducible first | exact SB.out | assumption) hbz; clear hbz)
        | (go_at_call 105; (with_reducible refine (FD.out _ (by with_reducible first | exact SB.out | assumption)).mono ?_); rintro e wz ⟨rfl, hbz⟩; have by_ := BelZ.step (by with_reducible first | exact SB.out | assumption) hbz; clear hbz))
    have BY := Lib.hid (B3.out.trans (by_.b.mono B3.out.size))
    have KA4 := Lib.hid (KA3.out.below by_.b KA3.out.lt)
    clear a0 a1 a2 a3 a4 a5 a6 a7 a8 a9 a10 v0 v1 v2 v3 v4 v5 v6 v7 v8 v9 v10 v11 v12 v13 SB FN FD
    have c := KA4.out.cell
    go_wp2_with fail
    refine (NM.out _ (by with_reducible exact BY.out)).mono ?_
    rintro e wn ⟨rfl, bn⟩
    have BN := Lib.hid (BY.out.trans (bn.mono BY.out.size))
    clear bn c
    go_wp2_with fail
    go_ret
    exact ⟨BN.out, .inr ⟨by simp, _, _, rfl⟩⟩
  simp only [if_true] at FD
  go_wp2_with fail
  go_region_held3 (fun w' => BelZ U1 w')
    (first | (with_reducible exact SB.out) | (with_reducible assumption))
    (first
      | (go_at_call 106; (with_reducible refine (FN.out _ (by with_reducible first | exact SB.out | assumption)).mono ?_); rintro e wz ⟨rfl, hbz⟩; have bz := BelZ.step (by with_reducible first | exact SB.out | assumption) hbz; clear hbz)
      | (go_at_call 105; (with_reducible refine (FD.out _ (by with_reducible first | exact SB.out | assumption)).mono ?_); rintro e wz ⟨rfl, hbz⟩; have by_ := BelZ.step (by with_reducible first | exact SB.out | assumption) hbz; clear hbz))
  obtain ⟨U2, hU⟩ : ∃ W, W = wz := ⟨_, rfl⟩
  rw [← hU] at by_ ⊢
  clear hU
  replace KA3 := Lib.hid (KA3.out.below by_.b KA3.out.lt)
  replace KV := Lib.hid (KV.out.below by_.b KV.out.lt)
  replace B3 := Lib.hid (B3.out.trans (by_.b.mono B3.out.size))
  clear a0 a1 a2 a3 a4 a5 a6 a7 a8 a9 a10 v0 v1 v2 v3 v4 v5 v6 v7 v8 v9 v10 v11 v12 v13 SB FN FD by_
  go_wp2_with fail
  rw [rounds_succ]
  go_wp2_with fail
  go_ret
  exact ⟨B3.out, .inl ⟨rfl, rfl⟩⟩
end Go.Proofs.YtghgiefciijoeaaGreatDoor
namespace Go.Proofs.YtghgiefciijoeaaGreatDoor
open Go.RowKit
set_option linter.unusedVariables false
set_option linter.unusedSimpArgs false
def Tab (w : World) : Prop := w.cell? ⟨0, 0, none⟩ = some (.iface 200 (.agg #[.pointer (some ⟨1, 106, none⟩)]))
theorem Tab.below {w w' : World} (h : Tab w) (hb : Below w.heap.size w w') : Tab w' := by
  have hlt : 0 < w.heap.size := by
    rcases Nat.eq_zero_or_pos w.heap.size with h0 | h1
    · simp [Tab, World.cell?, h0] at h
    · exact h1
  exact (hb.cell (p := ⟨0, 0, none⟩) hlt).trans h
theorem rights_seen {a : Option Addr} {cap : Nat} {ts : List ActT} {n : Nat} (mb : Nat) {t : ActT} (w : World) (h : ActsT w (.slice a ts.length cap) ts) (hs : setOkM (ts.map ActT.a) n = true) (ht : t ∈ ts) (b : Int) (h0 : 0 ≤ b) (h2 : b ≤ 2) (W : World) (hW : Below w.heap.size w W) :
    Calls Tryz.prog 138 #[.agg #[.slice a ts.length cap, .map (some mb), .int .i64 n, .int .i64 (cntM (ts.map ActT.a) 0), .int .i64 (cntM (ts.map ActT.a) 1), .int .i64 (cntM (ts.map ActT.a) 2), .int .i64 (cntM (ts.map ActT.a) 3), .int .i64 t.a.r, .int .i64 t.a.n, .int .i64 (cn t.a.dep), .int .i64 (cx t.a.dep 0), .int .i64 (cx t.a.dep 1), .int .i64 (cx t.a.dep 2), .int .i64 (cx t.a.dep 3)], .int .i64 t.a.actor, .int .i64 b] W fun e w' => e = .returned (.int .i64 (rtM (ts.map ActT.a) t.a b)) ∧ Below W.heap.size W w' := by
  have ha : t.a ∈ ts.map ActT.a := List.mem_map_of_mem ht
  have hg := eye_good hs ha
  have hac := ok_actor ((setOk_all hs).2.2.2 _ ha)
  refine (rightsOf_any a ts.length cap mb n _ _ _ _ t.a.r t.a.n _ _ _ _ _ t.a.actor b _ _ W (fun W' hW' => granted_good t.a.n t.a.actor b mb W' (h.below (hW.trans (hW'.mono hW.size))) hg)
    (fun W' hW' => ceilingOf_any a ts.length cap mb n _ _ _ _ t.a.r t.a.n _ _ _ _ _ b t.a.dep ts W' (h.below (hW.trans (hW'.mono hW.size)))
      (fun t ht => by obtain ⟨h1, h2, h3, h4⟩ := view_acts hg t.a (List.mem_map_of_mem ht); exact ⟨h1, h2, h4⟩) (fun t ht => (view_acts hg t.a (List.mem_map_of_mem ht)).2.2.1))).mono ?_
  rintro e w' ⟨rfl, hb⟩
  refine ⟨?_, hb⟩
  unfold rtM
  rw [if_pos (by simp only [inB, Bool.and_eq_true, decide_eq_true_eq]; omega)]
theorem part_ok {l : List ActM} {n : Nat} (h : setOkM l n = true) {a : ActM} (ha : a ∈ l) (b : Int) (hb : 0 ≤ b ∧ b ≤ 2) : (needsM a b == 0 || bits .andNot .i64 (needsM a b) (rtM l a b) == 0) = needOk l a b := by
  rw [lack_need h ha b hb]
  by_cases h0 : needsM a b = 0
  · rw [need_zero h ha b hb h0, Bool.or_true]
  · simp [h0]
set_option maxRecDepth 100000 in
set_option maxHeartbeats 6400000 in
theorem counts_any (a : Option Addr) (cap mb n : Nat) (ts : List ActT) (w : World) (k : Nat) (h : ActsT w (.slice a ts.length cap) ts) (hs : setOkM (ts.map ActT.a) n = true) (hk : k < ts.length) (hg : w.cell? ⟨0, 0, none⟩ = some (.iface 200 (.agg #[.pointer (some ⟨1, 106, none⟩)]))) :
    Calls Tryz.prog 43 #[.agg #[.slice a ts.length cap, .map (some mb), .int .i64 n, .int .i64 (cntM (ts.map ActT.a) 0), .int .i64 (cntM (ts.map ActT.a) 1), .int .i64 (cntM (ts.map ActT.a) 2), .int .i64 (cntM (ts.map ActT.a) 3)], .int .i64 k] w fun e w' => e = .returned (.bool (countsK (ts.map ActT.a) k)) ∧ Below w.heap.size w w' := by
  have hin : ts.getD k t0 ∈ ts := getD_mem hk
  have hia : (ts.getD k t0).a ∈ ts.map ActT.a := List.mem_map_of_mem hin
  have hlt : 0 < w.heap.size := by
    rcases Nat.eq_zero_or_pos w.heap.size with h0 | h
    · simp [World.cell?, h0] at hg
    · exact h
  have GL := Lib.hid (fun W (hW : Below w.heap.size w W) => (hW.cell (p := ⟨0, 0, none⟩) hlt).trans hg)
  have CV := Lib.hid (fun W (hW : Below w.heap.size w W) => verdict_any a ts.length cap mb n (cntM (ts.map ActT.a) 0) (cntM (ts.map ActT.a) 1) (cntM (ts.map ActT.a) 2) (cntM (ts.map ActT.a) 3) (ts.getD k t0) (rtM (ts.map ActT.a) (ts.getD k t0).a) W ((h.1 _ hin).below hW) (fun b h0 h2 W' hW' => rights_seen mb w h hs hin b h0 h2 W' (hW.trans (hW'.mono hW.size))))
  rw [part_ok hs hia 0 (by omega), part_ok hs hia 1 (by omega), part_ok hs hia 2 (by omega)] at CV
  rw [counts_all hs (by rw [List.length_map]; exact hk), getD_map hk]
  generalize (needOk (ts.map ActT.a) (ts.getD k t0).a 0 && needOk (ts.map ActT.a) (ts.getD k t0).a 1 && needOk (ts.map ActT.a) (ts.getD k t0).a 2) = X at CV ⊢
  have rd := h.1 _ hin
  obtain ⟨z1, b, off, rfl, hb, hat⟩ := actsT_at h (by omega)
  have at_ := hat k hk
  obtain ⟨m, hm⟩ : ∃ m, m = ts.length := ⟨_, rfl⟩
  rw [← hm] at CV hk ⊢
  clear hat h hs z1 hin hia hlt hg hm
  generalize ts.getD k t0 = T at at_ rd CV
  generalize (cntM (ts.map ActT.a) 0 : Int) = c0 at *
  generalize (cntM (ts.map ActT.a) 1 : Int) = c1 at *
  generalize (cntM (ts.map ActT.a) 2 : Int) = c2 at *
  generalize (cntM (ts.map ActT.a) 3 : Int) = c3 at *
  obtain ⟨xt, mt, yt, ut, kt, zt, hdt, hst⟩ := slice_of rd
  obtain ⟨⟨p0, p1, p2, p3, p4, p5, p6, p7, p8, p9, p10⟩, vdt, vst⟩ := T
  simp only at hdt hst
  subst hdt hst
  have i0 : (0 : Int) ≤ (k : Int) := by omega
  have i1 : (k : Int) < (m : Int) := by omega
  have AT := Lib.hid at_
  have HB := Lib.hid hb
  simp only [ActT.val] at CV
  unfold Verd at CV
  clear rd at_ hb hk
  obtain ⟨S, hS⟩ : ∃ P, P = w.heap.size := ⟨_, rfl⟩
  obtain ⟨W1, hW1⟩ : ∃ W, W = w.alloc (.cells #[.slice (some ⟨b, off, none⟩) m cap, .map (some mb), .int .i64 n, .int .i64 c0, .int .i64 c1, .int .i64 c2, .int .i64 c3] 73) := ⟨_, rfl⟩
  have b1 : Below w.heap.size w W1 := by rw [hW1]; exact (Below.refl _ _).alloc (Nat.le_refl _) _
  have KS := Lib.hid (show Blk W1 S _ from by rw [hW1, hS]; exact Blk.new w _ _)
  have B1 := Lib.hid b1
  have AT1 := Lib.hid (AT.out.below b1 HB.out)
  have HB1 := Lib.hid (Nat.lt_of_lt_of_le HB.out b1.size)
  clear b1 AT HB
  go_enter Tryz.func43, Tryz.ntmps43
  go_upto_region 1 with (fail)
  rw [← hS, ← hW1]
  clear hS hW1
  have hSl := KS.out.lt
  have s0 := fun W' (h : BelZ W1 W') => (show W'.cell? ⟨S, 0, none⟩ = some (.slice (some ⟨b, off, none⟩) m cap) from (KS.out.below h.b hSl).cell 0)
  have s1 := fun W' (h : BelZ W1 W') => (show W'.cell? ⟨S, 1, none⟩ = some (.map (some mb)) from (KS.out.below h.b hSl).cell 1)
  have s2 := fun W' (h : BelZ W1 W') => (show W'.cell? ⟨S, 2, none⟩ = some (.int .i64 n) from (KS.out.below h.b hSl).cell 2)
  have s3 := fun W' (h : BelZ W1 W') => (show W'.cell? ⟨S, 3, none⟩ = some (.int .i64 c0) from (KS.out.below h.b hSl).cell 3)
  have s4 := fun W' (h : BelZ W1 W') => (show W'.cell? ⟨S, 4, none⟩ = some (.int .i64 c1) from (KS.out.below h.b hSl).cell 4)
  have s5 := fun W' (h : BelZ W1 W') => (show W'.cell? ⟨S, 5, none⟩ = some (.int .i64 c2) from (KS.out.below h.b hSl).cell 5)
  have s6 := fun W' (h : BelZ W1 W') => (show W'.cell? ⟨S, 6, none⟩ = some (.int .i64 c3) from (KS.out.below h.b hSl).cell 6)
  have a0 := fun W' (h : BelZ W1 W') => (show W'.cell? ⟨b, off + k * 11, none⟩ = some (.int .i64 p0) from (AT1.out.below h.b HB1.out).c0)
  have a1 := fun W' (h : BelZ W1 W') => (show W'.cell? ⟨b, off + k * 11 + 1, none⟩ = some (.int .i64 p1) from (AT1.out.below h.b HB1.out).c1)
  have a2 := fun W' (h : BelZ W1 W') => (show W'.cell? ⟨b, off + k * 11 + 2, none⟩ = some (.slice xt mt yt) from (AT1.out.below h.b HB1.out).c2)
  have a3 := fun W' (h : BelZ W1 W') => (show W'.cell? ⟨b, off + k * 11 + 3, none⟩ = some (.int .i64 p3) from (AT1.out.below h.b HB1.out).c3)
  have a4 := fun W' (h : BelZ W1 W') => (show W'.cell? ⟨b, off + k * 11 + 4, none⟩ = some (.int .i64 p4) from (AT1.out.below h.b HB1.out).c4)
  have a5 := fun W' (h : BelZ W1 W') => (show W'.cell? ⟨b, off + k * 11 + 5, none⟩ = some (.int .i64 p5) from (AT1.out.below h.b HB1.out).c5)
  have a6 := fun W' (h : BelZ W1 W') => (show W'.cell? ⟨b, off + k * 11 + 6, none⟩ = some (.int .i64 p6) from (AT1.out.below h.b HB1.out).c6)
  have a7 := fun W' (h : BelZ W1 W') => (show W'.cell? ⟨b, off + k * 11 + 7, none⟩ = some (.int .i64 p7) from (AT1.out.below h.b HB1.out).c7)
  have a8 := fun W' (h : BelZ W1 W') => (show W'.cell? ⟨b, off + k * 11 + 8, none⟩ = some (.int .i64 p8) from (AT1.out.below h.b HB1.out).c8)
  have a9 := fun W' (h : BelZ W1 W') => (show W'.cell? ⟨b, off + k * 11 + 9, none⟩ = some (.int .i64 p9) from (AT1.out.below h.b HB1.out).c9)
  have a10 := fun W' (h : BelZ W1 W') => (show W'.cell? ⟨b, off + k * 11 + 10, none⟩ = some (.slice ut kt zt) from (AT1.out.below h.b HB1.out).c10)
  have SB := Lib.hid (show BelZ W1 W1.drew from (⟨Below.refl _ _⟩ : BelZ W1 W1).drew)
  have CF := Lib.hid (fun W' (h : BelZ W1 W') => CV.out W' (B1.out.trans (h.b.mono B1.out.size)))
  have IN := Lib.hid (fun W' (h : BelZ W1 W') => isDenied_no W')
  have IY := Lib.hid (fun x y W' (h : BelZ W1 W') => isDenied_yes p0 p1 x y W' (GL.out _ (B1.out.trans (h.b.mono B1.out.size))))
  clear CV GL hSl
  cases X
  · simp only [Bool.false_eq_true, false_and, true_and, false_or] at CF
    go_wp2_with fail
    go_region_held3 (fun w' => BelZ W1 w')
      (first | (with_reducible exact SB.out) | (with_reducible assumption))
      (first
        | (go_at_call 80; (with_reducible refine (CF.out _ (by with_reducible first | exact SB.out | assumption)).mono ?_); rintro e wz ⟨hbz, xz, yz, rfl⟩; have bz := BelZ.step (by with_reducible first | exact SB.out | assumption) hbz; clear hbz)
        | (go_at_call 79; (with_reducible refine (IY.out _ _ _ (by with_reducible first | exact SB.out | assumption)).mono ?_); rintro e wz ⟨rfl, hbz⟩; have by_ := BelZ.step (by with_reducible first | exact SB.out | assumption) hbz; clear hbz))
    have BY := Lib.hid (B1.out.trans (by_.b.mono B1.out.size))
    clear s0 s1 s2 s3 s4 s5 s6 a0 a1 a2 a3 a4 a5 a6 a7 a8 a9 a10 SB CF IN IY
    go_wp2_with fail
    go_ret
    exact ⟨rfl, BY.out⟩
  · simp only [reduceCtorEq, true_and, false_and, or_false] at CF
    go_wp2_with fail
    go_region_held3 (fun w' => BelZ W1 w')
      (first | (with_reducible exact SB.out) | (with_reducible assumption))
      (first
        | (go_at_call 80; (with_reducible refine (CF.out _ (by with_reducible first | exact SB.out | assumption)).mono ?_); rintro e wz ⟨hbz, rfl⟩; have bz := BelZ.step (by with_reducible first | exact SB.out | assumption) hbz; clear hbz)
        | (go_at_call 79; (with_reducible refine (IN.out _ (by with_reducible first | exact SB.out | assumption)).mono ?_); rintro e wz ⟨rfl, hbz⟩; have by_ := BelZ.step (by with_reducible first | exact SB.out | assumption) hbz; clear hbz))
    have BY := Lib.hid (B1.out.trans (by_.b.mono B1.out.size))
    clear s0 s1 s2 s3 s4 s5 s6 a0 a1 a2 a3 a4 a5 a6 a7 a8 a9 a10 SB CF IN IY
    go_wp2_with fail
    go_ret
    exact ⟨rfl, BY.out⟩
set_option maxRecDepth 100000 in
set_option maxHeartbeats 6400000 in
theorem implCounts_any (v : Value) (l : List ActM) (n k : Int) (w : World) (h : Acts w v l) (hn : I64 n) (hk : I64 k) (hg : w.cell? ⟨0, 0, none⟩ = some (.iface 200 (.agg #[.pointer (some ⟨1, 106, none⟩)]))) :
    Calls Tryz.prog 10 #[v, .int .i64 n, .int .i64 k] w fun e w' => e = .returned (.bool (countsM l n k)) ∧ Below w.heap.size w w' := by
  obtain ⟨ts, rfl, h⟩ := h
  obtain ⟨a, cap, rfl⟩ := actsT_len h
  have hmx := actsT_max h
  have hlt : 0 < w.heap.size := by
    rcases Nat.eq_zero_or_pos w.heap.size with h0 | h
    · simp [World.cell?, h0] at hg
    · exact h
  have RS := Lib.hid (readSet_any _ ts n w h hn)
  have CC := Lib.hid (fun (q j mb : Nat) (hq : n = q) (hs : setOkM (ts.map ActT.a) q = true) (hj : j < ts.length) W (hW : Below w.heap.size w W) => counts_any a cap mb q ts W j (h.below hW) hs hj ((hW.cell (p := ⟨0, 0, none⟩) hlt).trans hg))
  obtain ⟨X, hX⟩ : ∃ X, X = countsM (ts.map ActT.a) n k := ⟨_, rfl⟩
  rw [← hX]
  have HX := Lib.hid hX
  unfold SetRead setVal noSet at RS
  unfold countsM at HX
  rw [List.length_map] at HX
  have N1 := Lib.hid (show setOkM (ts.map ActT.a) n = true → 1 ≤ n from fun hs => by
    rw [setOk_prog] at hs
    simp only [Bool.and_eq_true, decide_eq_true_eq] at hs
    omega)
  have e9 : IntKind.i64.wrap ((ts.length : Int) - 1) = (ts.length : Int) - 1 := IntWalk.i64_in _ (by omega)
  clear h hX hlt hg
  obtain ⟨m, hm⟩ : ∃ m, m = ts.length := ⟨_, rfl⟩
  rw [← hm] at RS CC HX e9 hmx ⊢
  clear hm
  generalize (cntM (ts.map ActT.a) 0 : Int) = c0 at *
  generalize (cntM (ts.map ActT.a) 1 : Int) = c1 at *
  generalize (cntM (ts.map ActT.a) 2 : Int) = c2 at *
  generalize (cntM (ts.map ActT.a) 3 : Int) = c3 at *
  go_enter Tryz.func10, Tryz.ntmps10
  go_wp2_with fail
  refine RS.out.mono ?_
  rintro e w2 ⟨b2, (⟨hs, mb, _, rfl, _⟩ | ⟨hs, rfl⟩)⟩
  · have HSS := Lib.hid hs
    have HN := Lib.hid (N1.out hs)
    rw [hs, Bool.true_and] at HX
    have B2 := Lib.hid b2
    clear b2 RS hs
    obtain ⟨S, hS⟩ : ∃ P, P = w2.heap.size := ⟨_, rfl⟩
    obtain ⟨W3, hW3⟩ : ∃ W, W = w2.alloc (.cells #[.slice a m cap, .map (some mb), .int .i64 n, .int .i64 c0, .int .i64 c1, .int .i64 c2, .int .i64 c3] 73) := ⟨_, rfl⟩
    have KS := Lib.hid (show Blk W3 S _ from by rw [hW3, hS]; exact Blk.new w2 _ _)
    have B3 := Lib.hid (show Below w.heap.size w W3 from by rw [hW3]; exact B2.out.alloc B2.out.size _)
    go_upto_region 2 with (fail)
    rw [← hS, ← hW3]
    clear hS hW3 B2
    have c := KS.out.cell
    go_wp2_with fail
    refine (isIn_any _ _ _ _).mono ?_
    rintro e w4 ⟨rfl, h4⟩
    subst h4
    obtain ⟨W3, hW3⟩ : ∃ V, V = w4 := ⟨_, rfl⟩
    rw [← hW3] at c KS B3 ⊢
    clear hW3
    by_cases hI : inB k 0 ((m : Int) - 1) = true
    · rw [hI, Bool.true_and] at HX
      simp only [hI]
      have hr : 0 ≤ k ∧ k ≤ (m : Int) - 1 := by
        simp only [inB, Bool.and_eq_true, decide_eq_true_eq] at hI
        exact hI
      obtain ⟨j, rfl⟩ := Int.eq_ofNat_of_zero_le hr.1
      obtain ⟨q, rfl⟩ := Int.eq_ofNat_of_zero_le (show 0 ≤ n by have := HN.out; omega)
      rw [Int.toNat_natCast] at HX
      have CX := Lib.hid (CC.out q j mb rfl HSS.out (by omega) W3 B3.out)
      clear hI hr CC HSS HN N1
      go_wp2_with fail
      refine CX.out.mono ?_
      rintro e w5 ⟨rfl, b5⟩
      have B5 := Lib.hid (B3.out.trans (b5.mono B3.out.size))
      clear b5 CX c KS B3
      go_wp2_with fail
      go_ret
      exact ⟨congrArg Ending.returned (congrArg Value.bool HX.out.symm), B5.out⟩
    · have hI2 : inB k 0 ((m : Int) - 1) = false := by simpa using hI
      rw [hI2, Bool.false_and] at HX
      simp only [hI2]
      clear hI hI2 CC HSS HN N1
      go_wp2_with fail
      go_ret
      exact ⟨congrArg Ending.returned (congrArg Value.bool HX.out.symm), B3.out⟩
  · rw [hs, Bool.false_and, Bool.false_and] at HX
    have B2 := Lib.hid b2
    clear b2 RS hs CC N1
    obtain ⟨S, hS⟩ : ∃ P, P = w2.heap.size := ⟨_, rfl⟩
    obtain ⟨W3, hW3⟩ : ∃ W, W = w2.alloc (.cells #[.slice none 0 0, .map none, .int .i64 0, .int .i64 0, .int .i64 0, .int .i64 0, .int .i64 0] 73) := ⟨_, rfl⟩
    have B3 := Lib.hid (show Below w.heap.size w W3 from by rw [hW3]; exact B2.out.alloc B2.out.size _)
    go_upto_region 2 with (fail)
    rw [← hS, ← hW3]
    clear hS hW3 B2
    go_wp2_with fail
    go_ret
    exact ⟨congrArg Ending.returned (congrArg Value.bool HX.out.symm), B3.out⟩
end Go.Proofs.YtghgiefciijoeaaGreatDoor
