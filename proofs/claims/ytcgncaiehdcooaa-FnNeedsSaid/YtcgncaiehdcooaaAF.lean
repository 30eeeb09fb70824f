/- What an act that came in reads as. -/
import Derived.Test.YtcgncaiehdcooaaAE
import Derived.ProofKit
import Derived.OpenShut
namespace Go.Proofs.Ytcgncaiehdcooaa
open Go.Joins Go.ChangeShapes Go.WideShapes Go.ChangeAt Go.RowKit Go.Deep
set_option linter.unusedVariables false

theorem int_in {H : Type} {enc : TypeId × Value → H} {W : World} {base : Nat} {spare : Nat → Bool} {held : Bool} {n : Nat} {v : Value} {y : DataW H × List MemPlace} (h : DataW.trod enc Try.prog W base spare held n 3 [v] = some y) :
    ∃ x : Int, v = .int .i64 x := by
  obtain ⟨a, e0, _, _⟩ := DataW.trod_int Try.underlying3 h
  simp only [List.cons.injEq, and_true] at e0
  exact ⟨a, e0⟩

theorem ints_in {H : Type} {enc : TypeId × Value → H} {W : World} {base : Nat} {n : Nat} {v : Value} {y : DataW H × List MemPlace} (h : DataW.trod enc Try.prog W base (fun _ => true) true n 23 [v] = some y) :
    ∃ xs, Ints W v xs := by
  rcases open_ints Try.underlying23 Try.underlying3 (by kernel_rfl) h with ⟨hcs, _⟩ | ⟨x, l, c, zs, hcs, _, hl, hm, hz, _, hcell, hwz⟩
  · simp only [List.cons.injEq, and_true] at hcs
    exact ⟨[], .inl ⟨_, _, hcs, rfl⟩⟩
  · simp only [List.cons.injEq, and_true] at hcs
    subst hcs
    exact ⟨_, (ints_row W (some x) l c zs (.inr ⟨x, rfl, hl, hm, by simpa using hz, hcell, hwz⟩)).1⟩

theorem ups_in {H : Type} {enc : TypeId × Value → H} {W : World} {base : Nat} {n : Nat} {v : Value} {y : DataW H × List MemPlace} (h : DataW.trod enc Try.prog W base (fun _ => true) true n 51 [v] = some y) :
    ∃ us, Ups W v us := by
  rcases open_slice_cells Try.underlying51 Try.underlying130 (by kernel_rfl) (by kernel_rfl) h with hcs | ⟨a, len, cap, m, hcs, hl, hm, hlm, hi⟩
  · simp only [List.cons.injEq, and_true] at hcs
    exact ⟨[], .inl ⟨_, _, hcs, rfl⟩⟩
  · simp only [List.cons.injEq, and_true] at hcs
    subst hcs
    by_cases h0 : len = 0
    · subst h0
      exact ⟨[], .inl ⟨_, _, rfl, rfl⟩⟩
    · have hu : ∀ i, i < len → ∃ u : UpM, W.cell? (a.add (i * 4 + 0)) = some (.int .i64 u.kind) ∧ W.cell? (a.add (i * 4 + 1)) = some (.int .i64 u.bucket) ∧ W.cell? (a.add (i * 4 + 2)) = some (.int .i64 u.key) ∧ W.cell? (a.add (i * 4 + 3)) = some (.int .i64 u.val) := by
        intro i hil
        obtain ⟨n', hf⟩ := hi i (by omega)
        obtain ⟨v0, y0, q0, t0⟩ := hf 0 _ rfl
        obtain ⟨v1, y1, q1, t1⟩ := hf 1 _ rfl
        obtain ⟨v2, y2, q2, t2⟩ := hf 2 _ rfl
        obtain ⟨v3, y3, q3, t3⟩ := hf 3 _ rfl
        obtain ⟨x0, rfl⟩ := int_in t0
        obtain ⟨x1, rfl⟩ := int_in t1
        obtain ⟨x2, rfl⟩ := int_in t2
        obtain ⟨x3, rfl⟩ := int_in t3
        exact ⟨⟨x0, x1, x2, x3⟩, q0, q1, q2, q3⟩
      let f : Nat → UpM := fun i => if hil : i < len then (hu i hil).choose else up0
      have hf : ∀ i, i < len → W.cell? (a.add (i * 4 + 0)) = some (.int .i64 (f i).kind) ∧ W.cell? (a.add (i * 4 + 1)) = some (.int .i64 (f i).bucket) ∧ W.cell? (a.add (i * 4 + 2)) = some (.int .i64 (f i).key) ∧ W.cell? (a.add (i * 4 + 3)) = some (.int .i64 (f i).val) := by
        intro i hil
        have := (hu i hil).choose_spec
        simp only [f, dif_pos hil]
        exact this
      have c0 := (hf 0 (by omega)).1
      have hs := World.cell?_spot c0
      have hb := cell_lt c0
      obtain ⟨b, off, spot⟩ := a
      simp only [Addr.add] at hs hb
      simp at hs
      subst hs
      have hadd : ∀ k, (Addr.add ⟨b, off, none⟩ k) = ⟨b, off + k, none⟩ := by
        intro k
        unfold Addr.add; split
        · subst k; rfl
        · rfl
      refine ⟨(List.range len).map f, .inr ⟨b, off, cap, by simp, by simpa using hb, by simpa using hl, hm, fun i hil => ?_⟩⟩
      have hil' : i < len := by simpa using hil
      have hg : ((List.range len).map f).getD i up0 = f i := by simp [List.getD, hil']
      rw [hg]
      have := hf i hil'
      simp only [hadd, Nat.add_zero] at this
      exact ⟨this.1, by rw [Nat.add_assoc]; exact this.2.1, by rw [Nat.add_assoc]; exact this.2.2.1, by rw [Nat.add_assoc]; exact this.2.2.2⟩

set_option maxRecDepth 100000 in
theorem act_in {H : Type} {enc : TypeId × Value → H} {W : World} {b0 base : Nat} {r : Reach} {v : Value} {d : DataW H} {p : List MemPlace} (hv : Value.okWide Try.prog W r b0 53 v) (h : DataW.Trod enc Try.prog W base (fun _ => true) true 53 v d p) :
    ∃ a, ActIs W v a := by
  obtain ⟨v0, v1, v2, v3, v4, v5, v6, v7, v8, v9, v10, y0, y1, y2, y3, y4, y5, y6, y7, y8, y9, y10, n, rfl, h0, h1, h2, h3, h4, h5, h6, h7, h8, h9, h10⟩ := open_agg11 Try.underlying53 (by kernel_rfl) (by kernel_rfl) hv h
  obtain ⟨x0, rfl⟩ := int_in h0
  obtain ⟨x1, rfl⟩ := int_in h1
  obtain ⟨xs, hxs⟩ := ints_in h2
  obtain ⟨x3, rfl⟩ := int_in h3
  obtain ⟨x4, rfl⟩ := int_in h4
  obtain ⟨x5, rfl⟩ := int_in h5
  obtain ⟨x6, rfl⟩ := int_in h6
  obtain ⟨x7, rfl⟩ := int_in h7
  obtain ⟨x8, rfl⟩ := int_in h8
  obtain ⟨x9, rfl⟩ := int_in h9
  obtain ⟨us, hus⟩ := ups_in h10
  exact ⟨⟨x0, x1, xs, x3, x4, x5, x6, x7, x8, x9, us⟩, v2, v10, rfl, hxs, hus⟩
end Go.Proofs.Ytcgncaiehdcooaa
