/- Union: what the program does and what the reference does, the same. -/
import Derived.Test.YtjmefifdofgncaaUQ
import Derived.Test.YtjmefifdofgncaaLA
import Derived.Test.YtjmefifdofgncaaKD
namespace Go.Proofs.Ytjmefifdofgncaa
open Go.RowKit
set_option linter.unusedVariables false
set_option linter.unusedSimpArgs false

def Apart (a b : ActM) : Prop := ¬ (a.r = b.r ∧ a.n = b.n)
/-- no two acts of a set have one name -/
theorem apart_of {l : List ActM} {n : Int} (h : setOkM l n = true) : l.Pairwise Apart := by
  obtain ⟨m, rfl, h1, h4, hl, ho, hc, hcl⟩ := setOk_parts h
  have hok := order_all l none ho
  rw [List.pairwise_iff_getElem]
  intro i j hi hj hij ⟨e1, e2⟩
  have hsi : l = l.take i ++ l[i] :: l.drop (i + 1) := by rw [← List.drop_eq_getElem_cons hi, List.take_append_drop]
  have hsj : l = l.take j ++ l[j] :: l.drop (j + 1) := by rw [← List.drop_eq_getElem_cons hj, List.take_append_drop]
  have ni := number_of ho hc hcl hsi
  have nj := number_of ho hc hcl hsj
  rw [e1, e2, nj] at ni
  obtain ⟨r0, r1, _⟩ := ok_parts (hok _ (List.getElem_mem hj))
  obtain ⟨p, hp⟩ := Int.eq_ofNat_of_zero_le r0
  have hpt : l[j].r.toNat = p := by omega
  rw [hpt] at ni
  have hsplit : l.take j = l.take i ++ l[i] :: (l.take j).drop (i + 1) := by
    have h2 : i < (l.take j).length := by rw [List.length_take]; omega
    have h3 : (l.take j)[i] = l[i] := by rw [List.getElem_take]
    have h4 : l.take i = (l.take j).take i := by rw [List.take_take, Nat.min_eq_left (by omega)]
    rw [h4, ← h3, ← List.drop_eq_getElem_cons h2, List.take_append_drop]
  rw [hsplit, cnt_app, show l[i] :: (l.take j).drop (i + 1) = [l[i]] ++ (l.take j).drop (i + 1) from rfl, cnt_app, cnt_one, if_pos (by omega)] at ni
  omega
theorem find_lo (r n : Int) : ∀ (l : List ActM) (i : Nat), findFrom r n l i = -1 ∨ (i : Int) ≤ findFrom r n l i
  | [], i => .inl rfl
  | a :: l, i => by
    rw [findFrom]
    split
    · exact .inr (Int.le_refl _)
    · rcases find_lo r n l (i + 1) with h | h
      · exact .inl h
      · exact .inr (by omega)
theorem atKey_atD : ∀ (l : List ActM) (i : Nat) (D : DataW Unit) (r n : Int) (z : DataW Unit), Maps.IsMap D → (∀ a ∈ l, I64 a.r ∧ I64 a.n) → I64 r → I64 n → l.Pairwise Apart →
    (atD l i D).atKey (nameL r n) z = if findFrom r n l i < 0 then D.atKey (nameL r n) z else .lit (.int .i64 (findFrom r n l i))
  | [], i, D, r, n, z, _, _, _, _, _ => by simp [atD, findFrom]
  | a :: l, i, D, r, n, z, hD, hl, hr, hn, hp => by
    have ha := hl a (by simp)
    obtain ⟨p1, p2⟩ := List.pairwise_cons.1 hp
    rw [atD, atKey_atD l (i + 1) _ r n z (hD.put _ _) (fun b hb => hl b (List.mem_cons_of_mem _ hb)) hr hn p2, findFrom]
    by_cases e : a.r = r ∧ a.n = n
    · rw [if_pos e]
      obtain ⟨e1, e2⟩ := e
      have hk := keyedName.key (nameKey a.r a.n ha.1 ha.2)
      subst e1
      subst e2
      have hno : findFrom a.r a.n l (i + 1) < 0 := by
        rw [findFrom_has]
        cases hh : hasM l a.r a.n
        · rfl
        · obtain ⟨b, hb, e1, e2⟩ := (has_iff _ _ _).1 hh
          exact absurd ⟨e1.symm, e2.symm⟩ (p1 b hb)
      rw [if_pos hno, Maps.atKey_put_same hD hk, if_neg (by omega)]
    · rw [if_neg e]
      have hne : nameL r n ≠ nameL a.r a.n := fun h => e (by
        have := nameL_inj hr hn ha.1 ha.2 h
        exact ⟨this.1.symm, this.2.symm⟩)
      rw [Maps.atKey_put_other hne]
theorem find_at (r n : Int) : ∀ (l : List ActM) (i : Nat), 0 ≤ findFrom r n l i → (l.getD ((findFrom r n l i).toNat - i) act0) ∈ l ∧ (l.getD ((findFrom r n l i).toNat - i) act0).r = r ∧ (l.getD ((findFrom r n l i).toNat - i) act0).n = n
  | [], i, h => by simp [findFrom] at h
  | a :: l, i, h => by
    rw [findFrom] at h ⊢
    by_cases e : a.r = r ∧ a.n = n
    · rw [if_pos e]
      simp [e.1, e.2]
    · rw [if_neg e] at h ⊢
      have hr := findFrom_range r n l (i + 1) h
      have := find_at r n l (i + 1) h
      rw [show (findFrom r n l (i + 1)).toNat - i = ((findFrom r n l (i + 1)).toNat - (i + 1)) + 1 from by omega, List.getD_cons_succ]
      exact ⟨List.mem_cons_of_mem _ this.1, this.2⟩
theorem find_is (l : List ActM) (r n : Int) (h : 0 ≤ findM l r n) : (l.getD (findM l r n).toNat act0) ∈ l ∧ (l.getD (findM l r n).toNat act0).r = r ∧ (l.getD (findM l r n).toNat act0).n = n := by
  have := find_at r n l 0 h
  unfold findM
  simpa using this
theorem apart_eq {l : List ActM} (h : l.Pairwise Apart) {x y : ActM} (hx : x ∈ l) (hy : y ∈ l) (e : x.r = y.r ∧ x.n = y.n) : x = y := by
  induction l with
  | nil => cases hx
  | cons a l ih =>
    obtain ⟨p1, p2⟩ := List.pairwise_cons.1 h
    rcases List.mem_cons.1 hx with rfl | qx <;> rcases List.mem_cons.1 hy with rfl | qy
    · rfl
    · exact absurd e (p1 y qy)
    · exact absurd ⟨e.1.symm, e.2.symm⟩ (p1 x qx)
    · exact ih p2 qx qy

/-- the program's loop -/
def uniP (l : List ActM) : List ActM → List ActM → Option (List ActM)
  | out, [] => some out
  | out, b :: rest => if hasM l b.r b.n = true then (if sameM (l.getD (findM l b.r b.n).toNat act0) b = true then uniP l out rest else none) else uniP l (insM out b) rest
theorem uni_eq (l : List ActM) (hl : l.Pairwise Apart) : ∀ (rest out : List ActM), out.Pairwise (fun a b => aheadM a b = true) → rest.Pairwise Apart → (∀ x ∈ l, x ∈ out) → (∀ b ∈ rest, ∀ x ∈ out, (x.r = b.r ∧ x.n = b.n) → x ∈ l) →
    uniP l out rest = unionFrom out rest
  | [], out, _, _, _, _ => rfl
  | b :: rest, out, ho, hr, h1, h2 => by
    obtain ⟨p1, p2⟩ := List.pairwise_cons.1 hr
    rw [uniP, unionFrom]
    by_cases hh : hasM l b.r b.n = true
    · obtain ⟨y, hy, e1, e2⟩ := (has_iff _ _ _).1 hh
      have hf : 0 ≤ findM out b.r b.n := by
        by_cases h : findM out b.r b.n < 0
        · rw [find_has] at h
          rw [(has_iff _ _ _).2 ⟨y, h1 y hy, e1, e2⟩] at h
          cases h
        · omega
      have hfl : 0 ≤ findM l b.r b.n := by
        by_cases h : findM l b.r b.n < 0
        · rw [find_has, hh] at h
          cases h
        · omega
      obtain ⟨i1, i2, i3⟩ := find_is out _ _ hf
      obtain ⟨j1, j2, j3⟩ := find_is l _ _ hfl
      have hsame : out.getD (findM out b.r b.n).toNat act0 = l.getD (findM l b.r b.n).toNat act0 :=
        apart_eq hl (h2 b (by simp) _ i1 ⟨i2, i3⟩) j1 ⟨by omega, by omega⟩
      rw [if_pos hh, if_pos hf, hsame]
      split
      · exact uni_eq l hl rest out ho p2 h1 fun c hc => h2 c (List.mem_cons_of_mem _ hc)
      · rfl
    · have hho : hasM out b.r b.n = false := by
        cases h : hasM out b.r b.n
        · rfl
        · obtain ⟨y, hy, e⟩ := (has_iff _ _ _).1 h
          exact absurd ((has_iff _ _ _).2 ⟨y, h2 b (by simp) y hy e, e⟩) hh
      have hf : ¬ 0 ≤ findM out b.r b.n := by
        have := (find_has out b.r b.n).2 hho
        omega
      rw [if_neg hh, if_neg hf, insM_put ho]
      refine uni_eq l hl rest (putM out b) (putM_pairwise ho hho) p2 (fun x hx => (putM_mem _ _ _).2 (.inr (h1 x hx))) fun c hc x hx e => ?_
      rcases (putM_mem _ _ _).1 hx with rfl | hx
      · exact absurd e (p1 c hc)
      · exact h2 c (List.mem_cons_of_mem _ hc) x hx e
theorem union_prog {l m : List ActM} {n : Int} (h1 : setOkM l n = true) (h2 : setOkM m n = true) : unionM l m n = doneM n (uniP l l m) := by
  rw [union_eq h1 h2]
  obtain ⟨k, rfl, _, _, _, ho, _, _⟩ := setOk_parts h1
  rw [uni_eq l (apart_of h1) m l ((order_iff l none).1 ho).2.1 (apart_of h2) (fun x hx => hx) (fun _ _ _ hx _ => hx)]
def unL (l m : List ActM) (n : Int) : List ActM := (unionM l m n).getD []
def unB (l m : List ActM) (n : Int) : Bool := (unionM l m n).isSome
theorem szL_un (l m : List ActM) (n : Int) : szL (unL l m n) ≤ 1980 := by
  have key : ∀ L, unionM l m n = some L → szL L ≤ 1980 := fun L h => by
    unfold unionM at h
    split at h
    · split at h
      · split at h
        · cases h; rename_i hs; exact szL_setOk hs
        · cases h
      · cases h
    · cases h
  unfold unL
  cases h : unionM l m n with
  | none => simp [szL]
  | some L => exact key L h
end Go.Proofs.Ytjmefifdofgncaa
