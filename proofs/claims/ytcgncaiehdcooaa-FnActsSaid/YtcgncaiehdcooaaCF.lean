/- The reference's l3put. -/
import Derived.Test.YtcgncaiehdcooaaCE
import Derived.StillTailTactics
namespace Go.Proofs.Ytcgncaiehdcooaa
open Go.RowKit
set_option linter.unusedVariables false

/-- where an act comes to stand, from j on down -/
def putJ (l : List ActM) (a : ActM) : Nat → Nat
  | 0 => 0
  | j + 1 => if aheadM a (l.getD j act0) = true then putJ l a j else j + 1
def putM (l : List ActM) (a : ActM) : List ActM := l.take (putJ l a l.length) ++ a :: l.drop (putJ l a l.length)

theorem va_set (l : List ActT) (k : Nat) (t : ActT) (h : k < l.length) :
    (((((((((((va l).set (k * 11) (.int .i64 t.a.r)).set (k * 11 + 1) (.int .i64 t.a.n)).set (k * 11 + 2) t.vd).set (k * 11 + 3) (.int .i64 t.a.actor)).set (k * 11 + 4) (.int .i64 t.a.kind)).set (k * 11 + 5) (.int .i64 t.a.to)).set (k * 11 + 6) (.int .i64 t.a.bucket)).set (k * 11 + 7) (.int .i64 t.a.mask)).set (k * 11 + 8) (.int .i64 t.a.gr)).set (k * 11 + 9) (.int .i64 t.a.gn)).set (k * 11 + 10) t.vs = va (l.set k t) := by
  induction l generalizing k with
  | nil => simp at h
  | cons x l ih =>
    cases k with
    | zero => rfl
    | succ k =>
      have hv : ∀ x l, va (x :: l) = .int .i64 x.a.r :: .int .i64 x.a.n :: x.vd :: .int .i64 x.a.actor :: .int .i64 x.a.kind :: .int .i64 x.a.to :: .int .i64 x.a.bucket :: .int .i64 x.a.mask :: .int .i64 x.a.gr :: .int .i64 x.a.gn :: x.vs :: va l := fun _ _ => rfl
      rw [List.set_cons_succ, hv, hv, ← ih k (by simpa using h), show (k + 1) * 11 = k * 11 + 11 from by omega]
      rfl
theorem row_set11 {w : World} {g e n cap : Nat} {l : List ActT} (h : w.ownsRow g e 11 (.slice (some ⟨g, 0, none⟩) n cap) n (va l)) (k : Nat) (hl : l.length = n) (hk : k < n) (t : ActT) :
    (((((((((((w.setCell ⟨g, k * 11, none⟩ (.int .i64 t.a.r)).setCell ⟨g, k * 11 + 1, none⟩ (.int .i64 t.a.n)).setCell ⟨g, k * 11 + 2, none⟩ t.vd).setCell ⟨g, k * 11 + 3, none⟩ (.int .i64 t.a.actor)).setCell ⟨g, k * 11 + 4, none⟩ (.int .i64 t.a.kind)).setCell ⟨g, k * 11 + 5, none⟩ (.int .i64 t.a.to)).setCell ⟨g, k * 11 + 6, none⟩ (.int .i64 t.a.bucket)).setCell ⟨g, k * 11 + 7, none⟩ (.int .i64 t.a.mask)).setCell ⟨g, k * 11 + 8, none⟩ (.int .i64 t.a.gr)).setCell ⟨g, k * 11 + 9, none⟩ (.int .i64 t.a.gn)).setCell ⟨g, k * 11 + 10, none⟩ t.vs).ownsRow g e 11 (.slice (some ⟨g, 0, none⟩) n cap) n (va (l.set k t)) := by
  rw [← va_set l k t (by omega)]
  exact (((((((((((h.stored _ _).1.stored _ _).1.stored _ _).1.stored _ _).1.stored _ _).1.stored _ _).1.stored _ _).1.stored _ _).1.stored _ _).1.stored _ _).1.stored _ _).1
theorem grown_set11 (w : World) (g : Nat) (o0 o1 o2 o3 o4 o5 o6 o7 o8 o9 o10 : Nat) (v0 v1 v2 v3 v4 v5 v6 v7 v8 v9 v10 : Value) :
    w.grownBy (((((((((((w.setCell ⟨g, o0, none⟩ v0).setCell ⟨g, o1, none⟩ v1).setCell ⟨g, o2, none⟩ v2).setCell ⟨g, o3, none⟩ v3).setCell ⟨g, o4, none⟩ v4).setCell ⟨g, o5, none⟩ v5).setCell ⟨g, o6, none⟩ v6).setCell ⟨g, o7, none⟩ v7).setCell ⟨g, o8, none⟩ v8).setCell ⟨g, o9, none⟩ v9).setCell ⟨g, o10, none⟩ v10) (some g) :=
  (grown_set g o0 v0).trans ((grown_set g o1 v1).trans ((grown_set g o2 v2).trans ((grown_set g o3 v3).trans ((grown_set g o4 v4).trans ((grown_set g o5 v5).trans ((grown_set g o6 v6).trans ((grown_set g o7 v7).trans ((grown_set g o8 v8).trans ((grown_set g o9 v9).trans (grown_set g o10 v10))))))))))

theorem cur_at (ts : List ActT) (t : ActT) (p : Nat) (h : p < ts.length) : (ts.take (p + 1) ++ t :: ts.drop (p + 1)).getD (p + 1) t0 = t ∧ (ts.take (p + 1) ++ t :: ts.drop (p + 1)).getD p t0 = ts.getD p t0 := by
  simp only [List.getD]
  constructor
  · rw [List.getElem?_append_right (by simp; omega)]; simp [Nat.min_eq_left (Nat.succ_le_of_lt h)]
  · rw [List.getElem?_append_left (by simp; omega), List.getElem?_take_of_lt (by omega)]
theorem cur_swap (ts : List ActT) (t : ActT) (p : Nat) (h : p < ts.length) : ((ts.take (p + 1) ++ t :: ts.drop (p + 1)).set (p + 1) (ts.getD p t0)).set p t = ts.take p ++ t :: ts.drop p := by
  apply List.ext_getElem?
  intro i
  simp only [List.getElem?_set, List.getElem?_append, List.length_set, List.length_append, List.length_take, List.length_cons, List.length_drop, List.getElem?_take, List.getElem?_cons, List.getElem?_drop, List.getD]
  grind
theorem cur_length (ts : List ActT) (t : ActT) (j : Nat) (h : j ≤ ts.length) : (ts.take j ++ t :: ts.drop j).length = ts.length + 1 := by simp; omega
end Go.Proofs.Ytcgncaiehdcooaa
