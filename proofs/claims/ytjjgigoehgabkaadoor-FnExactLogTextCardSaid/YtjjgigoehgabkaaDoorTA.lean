/- Touched: the reference's, the program's. -/
import Derived.Test.YtjjgigoehgabkaaDoorNC
import Derived.Test.YtjjgigoehgabkaaDoorNE
import Derived.Test.YtjjgigoehgabkaaDoorCI
import Derived.Test.YtjjgigoehgabkaaDoorMN
import Derived.Test.YtjjgigoehgabkaaDoorHG
import Derived.Test.YtjjgigoehgabkaaDoorBG
import Derived.Test.YtjjgigoehgabkaaDoorKA
import Derived.Deep.DeepCutAuto







namespace Go.Proofs.YtjjgigoehgabkaaDoor
open Go.RowKit
set_option linter.unusedVariables false

/-- the numbers of the acts beside a, from number i on -/
def touchM (a : ActM) : List ActM → Nat → List Int
  | [], _ => []
  | b :: l, i => (if (!knowsM a b && !knowsM b a) = true then [(i : Int)] else []) ++ touchM a l (i + 1)
theorem touchM_snoc (a b : ActM) : ∀ (l : List ActM) (i : Nat), touchM a (l ++ [b]) i = touchM a l i ++ (if (!knowsM a b && !knowsM b a) = true then [((i + l.length : Nat) : Int)] else [])
  | [], i => by simp [touchM]
  | c :: l, i => by
    rw [List.cons_append, touchM, touchM_snoc a b l (i + 1), touchM, List.append_assoc, List.length_cons]
    congr 3
    rw [show i + 1 + l.length = i + (l.length + 1) by omega]
theorem touchM_len (a : ActM) : ∀ (l : List ActM) (i : Nat), (touchM a l i).length ≤ l.length
  | [], _ => Nat.le_refl _
  | b :: l, i => by
    have := touchM_len a l (i + 1)
    rw [touchM, List.length_append, List.length_cons]
    split
    · simp; omega
    · simp; omega
/-- Touched -/
def touchedM (l : List ActM) (n : Int) (a : ActM) : List Int := if setOkM l n = true then touchM a l 0 else []
theorem touchedM_len (l : List ActM) (n : Int) (a : ActM) : (touchedM l n a).length ≤ 60 := by
  unfold touchedM
  split
  · rename_i h
    have := (setOk_all h).2.2.1
    have := touchM_len a l 0
    omega
  · simp
theorem src_int {w : World} (k : Int) (e : TypeId) : Src (w.alloc (.cells #[.int .i64 k] e)) 1 (.slice (some ⟨w.heap.size, 0, none⟩) 1 1) 1 [.int .i64 k] :=
  .inr ⟨_, _, rfl, rfl, fun j u hu => by
    rw [add_flat, Nat.zero_add, (Blk.new w _ e).cell j]
    exact hu⟩
theorem act_shape {w : World} {v : Value} {a : ActM} (h : ActIs w v a) : ∃ da dc ua uc, v = .agg #[.int .i64 a.r, .int .i64 a.n, .slice da a.dep.length dc, .int .i64 a.actor, .int .i64 a.kind, .int .i64 a.to, .int .i64 a.bucket, .int .i64 a.mask, .int .i64 a.gr, .int .i64 a.gn, .slice ua a.ups.length uc] := by
  obtain ⟨vd, vs, rfl, hd, hu⟩ := h
  obtain ⟨da, dc, rfl⟩ := ints_len hd
  obtain ⟨ua, uc, rfl⟩ := ups_len hu
  exact ⟨_, _, _, _, rfl⟩
theorem OwnAct.shape {w : World} {v : Value} {a : ActM} {bs : List Nat} (h : OwnAct w v a bs) : ∃ da dc ua uc, v = .agg #[.int .i64 a.r, .int .i64 a.n, .slice da a.dep.length dc, .int .i64 a.actor, .int .i64 a.kind, .int .i64 a.to, .int .i64 a.bucket, .int .i64 a.mask, .int .i64 a.gr, .int .i64 a.gn, .slice ua a.ups.length uc] := act_shape h.act

end Go.Proofs.YtjjgigoehgabkaaDoor
