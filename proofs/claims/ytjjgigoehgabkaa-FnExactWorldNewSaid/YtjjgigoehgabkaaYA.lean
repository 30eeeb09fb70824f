/- Numbers in decimal, plain. -/
import Derived.Lib.ItoaMem
import Derived.Lib.ItoaLen
import Derived.Lib.Join
namespace Go.Proofs.Ytjjgigoehgabkaa
set_option linter.unusedVariables false

/-- the last digit of a number -/
def dgt (n : Int) : UInt8 := UInt8.ofNat (48 + (n.tmod 10).natAbs)
theorem tdiv_neg10 (u : Nat) : (-(u : Int)).tdiv 10 = -((u / 10 : Nat) : Int) := by
  rw [Int.neg_tdiv, Int.tdiv_eq_ediv_of_nonneg (by omega)]; omega
theorem tmod_neg10 (u : Nat) : ((-(u : Int)).tmod 10).natAbs = u % 10 := by
  rw [Int.neg_tmod, Int.tmod_eq_emod_of_nonneg (by omega)]; omega
theorem tdiv_pos10 (u : Nat) : (u : Int).tdiv 10 = ((u / 10 : Nat) : Int) := by
  rw [Int.tdiv_eq_ediv_of_nonneg (by omega)]; omega
theorem tmod_pos10 (u : Nat) : ((u : Int).tmod 10).natAbs = u % 10 := by
  rw [Int.tmod_eq_emod_of_nonneg (by omega)]; omega
theorem itoa_step (n : Int) (h : n.tdiv 10 ≠ 0) : Lib.itoa n = Lib.itoa (n.tdiv 10) ++ [dgt n] := by
  rcases Int.lt_or_le n 0 with hn | hn
  · obtain ⟨u, rfl⟩ : ∃ u : Nat, n = -(u : Int) := ⟨n.natAbs, by omega⟩
    rw [tdiv_neg10] at h ⊢
    have h10 : ¬ u < 10 := by omega
    rw [Lib.itoa_neg u (by omega), Lib.itoa_neg (u / 10) (by omega), Lib.decDigits, dif_neg h10, dgt, tmod_neg10]
    rfl
  · obtain ⟨u, rfl⟩ := Int.eq_ofNat_of_zero_le hn
    rw [tdiv_pos10] at h ⊢
    have h10 : ¬ u < 10 := by omega
    rw [Lib.itoa_nonneg, Lib.itoa_nonneg, Lib.decDigits, dif_neg h10, dgt, tmod_pos10]
theorem itoa_end (n : Int) (h : n.tdiv 10 = 0) : Lib.itoa n = (if n < 0 then [45] else []) ++ [dgt n] := by
  rcases Int.lt_or_le n 0 with hn | hn
  · obtain ⟨u, rfl⟩ : ∃ u : Nat, n = -(u : Int) := ⟨n.natAbs, by omega⟩
    rw [tdiv_neg10] at h
    have h10 : u < 10 := by omega
    rw [Lib.itoa_neg u (by omega), Lib.decDigits, dif_pos h10, dgt, tmod_neg10, if_pos hn, Nat.mod_eq_of_lt h10]
    rfl
  · obtain ⟨u, rfl⟩ := Int.eq_ofNat_of_zero_le hn
    rw [tdiv_pos10] at h
    have h10 : u < 10 := by omega
    rw [Lib.itoa_nonneg, Lib.decDigits, dif_pos h10, dgt, tmod_pos10, if_neg (by omega), Nat.mod_eq_of_lt h10]
    rfl
/-- the numbers with one blank between each two -/
def textM (l : List Int) : List UInt8 := Lib.join (l.map Lib.itoa) [32]
theorem textM_nil : textM [] = [] := rfl
theorem text_first (x : Int) (l : List Int) : textM ((x :: l).take 1) = Lib.itoa x := by
  simp [textM, Lib.join_one]
theorem text_take (l : List Int) (k : Nat) (hk : k < l.length) (h0 : 0 < k) : textM (l.take (k + 1)) = textM (l.take k) ++ [32] ++ Lib.itoa (l.getD k 0) := by
  cases l with
  | nil => simp at hk
  | cons x r =>
    obtain ⟨j, rfl⟩ : ∃ j, k = j + 1 := ⟨k - 1, by omega⟩
    have hj : j < r.length := by simpa using hk
    have hg : (r.map Lib.itoa)[j]? = some (Lib.itoa (r.getD j 0)) := by simp [hj, List.getD]
    have h := Lib.joinTail_take_succ [32] (r.map Lib.itoa) j _ hg
    unfold textM
    simp only [List.take_succ_cons, List.map_cons, Lib.join_cons, List.map_take, List.getD_cons_succ] at h ⊢
    rw [h]
    simp
theorem text_len (l : List Int) (h : ∀ x ∈ l, -9223372036854775808 ≤ x ∧ x ≤ 9223372036854775807) : (textM l).length ≤ 22 * l.length := by
  have key : ∀ r : List Int, (∀ x ∈ r, -9223372036854775808 ≤ x ∧ x ≤ 9223372036854775807) → Lib.lens (r.map Lib.itoa) ≤ 21 * r.length := by
    intro r
    induction r with
    | nil => intro _; simp [Lib.lens]
    | cons x r ih =>
      intro hr
      have h1 := Lib.itoa_length_le x (hr x (by simp)).1 (hr x (by simp)).2
      have h2 := ih fun y hy => hr y (List.mem_cons_of_mem _ hy)
      simp only [Lib.lens, List.map_cons, List.sum_cons, List.length_cons] at h2 ⊢
      omega
  cases l with
  | nil => simp [textM, Lib.join]
  | cons x r =>
    have := key (x :: r) h
    rw [textM, List.map_cons, Lib.join_length]
    simp only [List.map_cons, List.length_cons, List.length_map, List.length_nil] at this ⊢
    omega
end Go.Proofs.Ytjjgigoehgabkaa
