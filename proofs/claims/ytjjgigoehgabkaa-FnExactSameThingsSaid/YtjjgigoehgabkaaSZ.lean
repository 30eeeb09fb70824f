/- What the shell is told of a slice of things that came in. -/
import Derived.Test.YtjjgigoehgabkaaSA
import Derived.Lib.SmallJoins
namespace Go.Proofs.Ytjjgigoehgabkaa
open Go.Joins Go.ChangeShapes Go.WideShapes Go.ChangeAt Go.RowKit Go.Deep
set_option linter.unusedVariables false

theorem bool_in {H : Type} {enc : TypeId × Value → H} {W : World} {base : Nat} {spare : Nat → Bool} {held : Bool} {n : Nat} {v : Value} {y : DataW H × List MemPlace} (h : DataW.trod enc Try.prog W base spare held n 4 [v] = some y) :
    ∃ x : Bool, v = .bool x := by
  cases n with
  | zero => simp [DataW.trod] at h
  | succ n =>
    cases v <;> simp [DataW.trod, Try.underlying4] at h ⊢
set_option maxRecDepth 100000 in
theorem things_in {H : Type} {enc : TypeId × Value → H} {W : World} {base : Nat} {n : Nat} {v : Value} {y : DataW H × List MemPlace} (h : DataW.trod enc Try.prog W base (fun _ => true) true n 60 [v] = some y) :
    ∃ l, Things W v l := by
  rcases open_slice_cells Try.underlying60 Try.underlying129 (by kernel_rfl) (by kernel_rfl) h with hcs | ⟨a, len, cap, m, hcs, hl, hm, hlm, hi⟩
  · simp only [List.cons.injEq, and_true] at hcs
    exact ⟨[], [], rfl, (fun t ht => by cases ht), .inl ⟨_, _, hcs, rfl⟩⟩
  · simp only [List.cons.injEq, and_true] at hcs
    subst hcs
    by_cases h0 : len = 0
    · subst h0
      exact ⟨[], [], rfl, (fun t ht => by cases ht), .inl ⟨_, _, rfl, rfl⟩⟩
    · have hu : ∀ i, i < len → ∃ u : ThingT, (W.cell? (a.add (i * 6 + 0)) = some (.int .i64 u.a.bucket) ∧ W.cell? (a.add (i * 6 + 1)) = some (.int .i64 u.a.key) ∧ W.cell? (a.add (i * 6 + 2)) = some (.bool u.a.has) ∧ W.cell? (a.add (i * 6 + 3)) = some (.int .i64 u.a.reg) ∧ W.cell? (a.add (i * 6 + 4)) = some (.int .i64 u.a.count) ∧ W.cell? (a.add (i * 6 + 5)) = some u.v) ∧ Ints W u.v u.a.items := by
        intro i hil
        obtain ⟨n', hf⟩ := hi i (by omega)
        obtain ⟨v0, y0, q0, t0⟩ := hf 0 _ rfl
        obtain ⟨v1, y1, q1, t1⟩ := hf 1 _ rfl
        obtain ⟨v2, y2, q2, t2⟩ := hf 2 _ rfl
        obtain ⟨v3, y3, q3, t3⟩ := hf 3 _ rfl
        obtain ⟨v4, y4, q4, t4⟩ := hf 4 _ rfl
        obtain ⟨v5, y5, q5, t5⟩ := hf 5 _ rfl
        obtain ⟨x0, rfl⟩ := int_in t0
        obtain ⟨x1, rfl⟩ := int_in t1
        obtain ⟨x2, rfl⟩ := bool_in t2
        obtain ⟨x3, rfl⟩ := int_in t3
        obtain ⟨x4, rfl⟩ := int_in t4
        obtain ⟨xs, hxs⟩ := ints_in t5
        exact ⟨⟨⟨x0, x1, x2, x3, x4, xs⟩, v5⟩, ⟨q0, q1, q2, q3, q4, q5⟩, hxs⟩
      let f : Nat → ThingT := fun i => if hil : i < len then (hu i hil).choose else tt0
      have hf : ∀ i, i < len → (W.cell? (a.add (i * 6 + 0)) = some (.int .i64 (f i).a.bucket) ∧ W.cell? (a.add (i * 6 + 1)) = some (.int .i64 (f i).a.key) ∧ W.cell? (a.add (i * 6 + 2)) = some (.bool (f i).a.has) ∧ W.cell? (a.add (i * 6 + 3)) = some (.int .i64 (f i).a.reg) ∧ W.cell? (a.add (i * 6 + 4)) = some (.int .i64 (f i).a.count) ∧ W.cell? (a.add (i * 6 + 5)) = some (f i).v) ∧ Ints W (f i).v (f i).a.items := by
        intro i hil
        have := (hu i hil).choose_spec
        simp only [f, dif_pos hil]
        exact this
      have c0 := (hf 0 (by omega)).1.1
      have hs := World.cell?_spot c0
      have hb := cell_lt c0
      obtain ⟨b, off, spot⟩ := a
      simp only [Addr.add] at hs hb
      simp at hs
      subst hs
      have hadd : ∀ k, (Addr.add ⟨b, off, none⟩ k) = ⟨b, off + k, none⟩ := by
        intro k
        unfold Addr.add; split
        · subst k; rfl
        · rfl
      refine ⟨_, (List.range len).map f, rfl, ?_, .inr ⟨b, off, cap, by simp, by simpa using hb, by simpa using hl, hm, fun i hil => ?_⟩⟩
      · intro t ht
        obtain ⟨i, hi2, rfl⟩ := List.mem_map.1 ht
        exact (hf i (List.mem_range.1 hi2)).2
      · have hil' : i < len := by simpa using hil
        have hg : ((List.range len).map f).getD i tt0 = f i := by simp [List.getD, hil']
        rw [hg]
        have := (hf i hil').1
        simp only [hadd, Nat.add_zero] at this
        exact ⟨this.1, by rw [Nat.add_assoc]; exact this.2.1, by rw [Nat.add_assoc]; exact this.2.2.1, by rw [Nat.add_assoc]; exact this.2.2.2.1, by rw [Nat.add_assoc]; exact this.2.2.2.2.1, by rw [Nat.add_assoc]; exact this.2.2.2.2.2⟩
end Go.Proofs.Ytjjgigoehgabkaa
