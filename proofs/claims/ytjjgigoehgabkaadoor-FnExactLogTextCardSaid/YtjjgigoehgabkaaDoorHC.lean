/- markActS, heldActS at lists of acts whose blocks are apart. -/
import Derived.Test.YtjjgigoehgabkaaDoorHB

namespace Go.Proofs.YtjjgigoehgabkaaDoor
open Go.RowKit
set_option linter.unusedVariables false

/-- an act as it is marked from k on -/
def mkD (a : ActM) (k : Int) : Int := k + 1 + 1 + a.dep.length
def mkA (k : Int) (a : ActM) : ActM := ⟨k, k + 1, iota (k + 1 + 1) a.dep.length, mkD a k, mkD a k + 1, mkD a k + 1 + 1, mkD a k + 1 + 1 + 1, mkD a k + 1 + 1 + 1 + 1, mkD a k + 1 + 1 + 1 + 1 + 1, mkD a k + 1 + 1 + 1 + 1 + 1 + 1, mkU (mkD a k + 1 + 1 + 1 + 1 + 1 + 1 + 1) a.ups⟩
def szA (a : ActM) : Nat := 9 + a.dep.length + 4 * a.ups.length
def mkL (k : Int) : List ActM → List ActM
  | [] => []
  | a :: l => mkA k a :: mkL (k + szA a) l
def szL : List ActM → Nat
  | [] => 0
  | a :: l => szA a + szL l
theorem szL_tot : ∀ l : List ActM, szL l ≤ 9 * totM l
  | [] => by simp [szL, totM]
  | a :: l => by have := szL_tot l; simp only [szL, totM, szA]; omega
theorem szL_len : ∀ l : List ActM, l.length ≤ szL l
  | [] => by simp
  | a :: l => by have := szL_len l; simp only [szL, szA, List.length_cons]; omega
theorem szL_app (l m : List ActM) : szL (l ++ m) = szL l + szL m := by
  induction l with
  | nil => simp [szL]
  | cons a l ih => simp only [List.cons_append, szL, ih]; omega
theorem mkL_length : ∀ (k : Int) (l : List ActM), (mkL k l).length = l.length
  | _, [] => rfl
  | k, a :: l => by simp [mkL, mkL_length (k + szA a) l]
theorem mkL_snoc : ∀ (k : Int) (l : List ActM) (a : ActM), mkL k (l ++ [a]) = mkL k l ++ [mkA (k + szL l) a]
  | k, [], a => by simp [mkL, szL]
  | k, b :: l, a => by
    rw [List.cons_append, mkL, mkL_snoc (k + szA b) l a, mkL, List.cons_append]
    congr 4
    simp only [szL]
    omega
/-- nine stores into an act of a row, its lists as they are -/
theorem va_set9 (l : List ActT) (k : Nat) (a : ActM) (h : k < l.length) :
    (((((((((va l).set (k * 11) (.int .i64 a.r)).set (k * 11 + 1) (.int .i64 a.n)).set (k * 11 + 3) (.int .i64 a.actor)).set (k * 11 + 4) (.int .i64 a.kind)).set (k * 11 + 5) (.int .i64 a.to)).set (k * 11 + 6) (.int .i64 a.bucket)).set (k * 11 + 7) (.int .i64 a.mask)).set (k * 11 + 8) (.int .i64 a.gr)).set (k * 11 + 9) (.int .i64 a.gn) = va (l.set k ⟨a, (l.getD k t0).vd, (l.getD k t0).vs⟩) := by
  induction l generalizing k with
  | nil => simp at h
  | cons x l ih =>
    have hv : ∀ x l, va (x :: l) = .int .i64 x.a.r :: .int .i64 x.a.n :: x.vd :: .int .i64 x.a.actor :: .int .i64 x.a.kind :: .int .i64 x.a.to :: .int .i64 x.a.bucket :: .int .i64 x.a.mask :: .int .i64 x.a.gr :: .int .i64 x.a.gn :: x.vs :: va l := fun _ _ => rfl
    cases k with
    | zero => rfl
    | succ k =>
      have := ih k (by simpa using h)
      rw [List.set_cons_succ, List.getD_cons_succ, hv, hv, ← this, show (k + 1) * 11 = k * 11 + 11 from by omega]
      rfl

theorem set_mid (s1 : List ActT) (u : ActT) (s3 : List ActT) (x : ActT) (j : Nat) (h : s1.length = j) : (s1 ++ u :: s3).set j x = (s1 ++ [x]) ++ s3 := by
  rw [List.set_append_right _ _ (by omega), h, Nat.sub_self, List.set_cons_zero, List.append_assoc]
  rfl
end Go.Proofs.YtjjgigoehgabkaaDoor
