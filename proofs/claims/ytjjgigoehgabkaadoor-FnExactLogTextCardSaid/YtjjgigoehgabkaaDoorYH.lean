/- An act that came in: its numbers are numbers that an int holds. -/
import Derived.Test.YtjjgigoehgabkaaDoorYD
import Derived.Test.YtjjgigoehgabkaaDoorML


namespace Go.Proofs.YtjjgigoehgabkaaDoor
open Go.RowKit
open Go.Joins Go.ChangeShapes Go.WideShapes Go.ChangeAt Go.Deep
set_option linter.unusedVariables false

theorem intB_wf {x : Int} (h : (Lit.int .i64 x).wf = true) : IntB x := by
  have : -9223372036854775808 ≤ x ∧ x ≤ 9223372036854775807 := by simpa [Lit.wf, IntKind.min, IntKind.max, IntKind.signed, IntKind.bits] using h
  exact this
theorem int_inB {H : Type} {enc : TypeId × Value → H} {W : World} {base : Nat} {spare : Nat → Bool} {held : Bool} {n : Nat} {v : Value} {y : DataW H × List MemPlace} (h : DataW.trod enc Tryd.prog W base spare held n 3 [v] = some y) :
    ∃ x : Int, v = .int .i64 x ∧ IntB x := by
  obtain ⟨a, e0, _, e2⟩ := DataW.trod_int Tryd.underlying3 h
  simp only [List.cons.injEq, and_true] at e0
  exact ⟨a, e0, intB_wf e2⟩
theorem ints_inB {H : Type} {enc : TypeId × Value → H} {W : World} {base : Nat} {n : Nat} {v : Value} {y : DataW H × List MemPlace} (h : DataW.trod enc Tryd.prog W base (fun _ => true) true n 22 [v] = some y) :
    ∃ xs, Ints W v xs ∧ ∀ x ∈ xs, IntB x := by
  rcases open_ints Tryd.underlying22 Tryd.underlying3 (by kernel_rfl) h with ⟨hcs, _⟩ | ⟨x, l, c, zs, hcs, _, hl, hm, hz, _, hcell, hwz⟩
  · simp only [List.cons.injEq, and_true] at hcs
    exact ⟨[], .inl ⟨_, _, hcs, rfl⟩, by simp⟩
  · simp only [List.cons.injEq, and_true] at hcs
    subst hcs
    exact ⟨zs.take l, (ints_row W (some x) l c zs (.inr ⟨x, rfl, hl, hm, by simpa using hz, hcell, hwz⟩)).1, fun y hy => intB_wf (hwz y (List.mem_of_mem_take hy))⟩
def UpB (u : UpM) : Prop := IntB u.kind ∧ IntB u.bucket ∧ IntB u.key ∧ IntB u.val
theorem ups_inB {H : Type} {enc : TypeId × Value → H} {W : World} {base : Nat} {n : Nat} {v : Value} {y : DataW H × List MemPlace} (h : DataW.trod enc Tryd.prog W base (fun _ => true) true n 23 [v] = some y) :
    ∃ us, Ups W v us ∧ ∀ u ∈ us, UpB u := by
  rcases open_slice_cells Tryd.underlying23 Tryd.underlying57 (by kernel_rfl) (by kernel_rfl) h with hcs | ⟨a, len, cap, m, hcs, hl, hm, hlm, hi⟩
  · simp only [List.cons.injEq, and_true] at hcs
    exact ⟨[], .inl ⟨_, _, hcs, rfl⟩, by simp⟩
  · simp only [List.cons.injEq, and_true] at hcs
    subst hcs
    by_cases h0 : len = 0
    · subst h0
      exact ⟨[], .inl ⟨_, _, rfl, rfl⟩, by simp⟩
    · have hu : ∀ i, i < len → ∃ u : UpM, W.cell? (a.add (i * 4 + 0)) = some (.int .i64 u.kind) ∧ W.cell? (a.add (i * 4 + 1)) = some (.int .i64 u.bucket) ∧ W.cell? (a.add (i * 4 + 2)) = some (.int .i64 u.key) ∧ W.cell? (a.add (i * 4 + 3)) = some (.int .i64 u.val) ∧ UpB u := by
        intro i hil
        obtain ⟨n', hf⟩ := hi i (by omega)
        obtain ⟨v0, y0, q0, t0⟩ := hf 0 _ rfl
        obtain ⟨v1, y1, q1, t1⟩ := hf 1 _ rfl
        obtain ⟨v2, y2, q2, t2⟩ := hf 2 _ rfl
        obtain ⟨v3, y3, q3, t3⟩ := hf 3 _ rfl
        obtain ⟨x0, rfl, b0⟩ := int_inB t0
        obtain ⟨x1, rfl, b1⟩ := int_inB t1
        obtain ⟨x2, rfl, b2⟩ := int_inB t2
        obtain ⟨x3, rfl, b3⟩ := int_inB t3
        exact ⟨⟨x0, x1, x2, x3⟩, q0, q1, q2, q3, b0, b1, b2, b3⟩
      let f : Nat → UpM := fun i => if hil : i < len then (hu i hil).choose else up0
      have hf : ∀ i, i < len → W.cell? (a.add (i * 4 + 0)) = some (.int .i64 (f i).kind) ∧ W.cell? (a.add (i * 4 + 1)) = some (.int .i64 (f i).bucket) ∧ W.cell? (a.add (i * 4 + 2)) = some (.int .i64 (f i).key) ∧ W.cell? (a.add (i * 4 + 3)) = some (.int .i64 (f i).val) ∧ UpB (f i) := by
        intro i hil
        have := (hu i hil).choose_spec
        simp only [f, dif_pos hil]
        exact this
      have c0 := (hf 0 (by omega)).1
      have hs := World.cell?_spot c0
      have hb := cell_lt c0
      obtain ⟨b, off, spot⟩ := a
      simp only [Addr.add] at hs hb
      simp at hs
      subst hs
      have hadd : ∀ k, (Addr.add ⟨b, off, none⟩ k) = ⟨b, off + k, none⟩ := by
        intro k
        unfold Addr.add; split
        · subst k; rfl
        · rfl
      refine ⟨(List.range len).map f, .inr ⟨b, off, cap, by simp, by simpa using hb, by simpa using hl, hm, fun i hil => ?_⟩, fun u hu2 => by
        obtain ⟨i, hi2, rfl⟩ := List.mem_map.1 hu2
        exact (hf i (List.mem_range.1 hi2)).2.2.2.2⟩
      have hil' : i < len := by simpa using hil
      have hg : ((List.range len).map f).getD i up0 = f i := by simp [List.getD, hil']
      rw [hg]
      have := hf i hil'
      simp only [hadd, Nat.add_zero] at this
      exact ⟨this.1, by rw [Nat.add_assoc]; exact this.2.1, by rw [Nat.add_assoc]; exact this.2.2.1, by rw [Nat.add_assoc]; exact this.2.2.2.1⟩
theorem act_inB {H : Type} {enc : TypeId × Value → H} {W : World} {b0 base : Nat} {r : Reach} {v : Value} {d : DataW H} {p : List MemPlace} (hv : Value.okWide Tryd.prog W r b0 25 v) (h : DataW.Trod enc Tryd.prog W base (fun _ => true) true 25 v d p) :
    ∃ a, ActIs W v a ∧ ActB a := by
  obtain ⟨v0, v1, v2, v3, v4, v5, v6, v7, v8, v9, v10, y0, y1, y2, y3, y4, y5, y6, y7, y8, y9, y10, n, rfl, h0, h1, h2, h3, h4, h5, h6, h7, h8, h9, h10⟩ := open_agg11 Tryd.underlying25 (by kernel_rfl) (by kernel_rfl) hv h
  obtain ⟨x0, rfl, b0⟩ := int_inB h0
  obtain ⟨x1, rfl, b1⟩ := int_inB h1
  obtain ⟨xs, hxs, b2⟩ := ints_inB h2
  obtain ⟨x3, rfl, b3⟩ := int_inB h3
  obtain ⟨x4, rfl, b4⟩ := int_inB h4
  obtain ⟨x5, rfl, b5⟩ := int_inB h5
  obtain ⟨x6, rfl, b6⟩ := int_inB h6
  obtain ⟨x7, rfl, b7⟩ := int_inB h7
  obtain ⟨x8, rfl, b8⟩ := int_inB h8
  obtain ⟨x9, rfl, b9⟩ := int_inB h9
  obtain ⟨us, hus, b10⟩ := ups_inB h10
  exact ⟨⟨x0, x1, xs, x3, x4, x5, x6, x7, x8, x9, us⟩, ⟨v2, v10, rfl, hxs, hus⟩, ⟨b0, b1, b2, b3, b4, b5, b6, b7, b8, b9, b10⟩⟩
theorem acts_inB {H : Type} {enc : TypeId × Value → H} {W : World} {base : Nat} {n : Nat} {v : Value} {y : DataW H × List MemPlace} (h : DataW.trod enc Tryd.prog W base (fun _ => true) true n 34 [v] = some y) :
    ∃ l, Acts W v l ∧ ∀ x ∈ l, ActB x := by
  rcases open_slice_cells Tryd.underlying34 Tryd.underlying25 (by kernel_rfl) (by kernel_rfl) h with hcs | ⟨a, len, cap, m, hcs, hl, hm, hlm, hi⟩
  · simp only [List.cons.injEq, and_true] at hcs
    subst hcs
    exact ⟨[], acts_empty _ _ _, by simp⟩
  · simp only [List.cons.injEq, and_true] at hcs
    subst hcs
    by_cases h0 : len = 0
    · subst h0
      exact ⟨[], acts_empty _ _ _, by simp⟩
    · have hu : ∀ i, i < len → ∃ t : ActT, (t.Reads W ∧ ActB t.a) ∧ W.cell? (a.add (i * 11 + 0)) = some (.int .i64 t.a.r) ∧ W.cell? (a.add (i * 11 + 1)) = some (.int .i64 t.a.n) ∧ W.cell? (a.add (i * 11 + 2)) = some t.vd ∧ W.cell? (a.add (i * 11 + 3)) = some (.int .i64 t.a.actor) ∧ W.cell? (a.add (i * 11 + 4)) = some (.int .i64 t.a.kind) ∧ W.cell? (a.add (i * 11 + 5)) = some (.int .i64 t.a.to) ∧ W.cell? (a.add (i * 11 + 6)) = some (.int .i64 t.a.bucket) ∧ W.cell? (a.add (i * 11 + 7)) = some (.int .i64 t.a.mask) ∧ W.cell? (a.add (i * 11 + 8)) = some (.int .i64 t.a.gr) ∧ W.cell? (a.add (i * 11 + 9)) = some (.int .i64 t.a.gn) ∧ W.cell? (a.add (i * 11 + 10)) = some t.vs := by
        intro i hil
        obtain ⟨n', hf⟩ := hi i (by omega)
        obtain ⟨v0, y0, q0, t0⟩ := hf 0 _ rfl
        obtain ⟨v1, y1, q1, t1⟩ := hf 1 _ rfl
        obtain ⟨v2, y2, q2, t2⟩ := hf 2 _ rfl
        obtain ⟨v3, y3, q3, t3⟩ := hf 3 _ rfl
        obtain ⟨v4, y4, q4, t4⟩ := hf 4 _ rfl
        obtain ⟨v5, y5, q5, t5⟩ := hf 5 _ rfl
        obtain ⟨v6, y6, q6, t6⟩ := hf 6 _ rfl
        obtain ⟨v7, y7, q7, t7⟩ := hf 7 _ rfl
        obtain ⟨v8, y8, q8, t8⟩ := hf 8 _ rfl
        obtain ⟨v9, y9, q9, t9⟩ := hf 9 _ rfl
        obtain ⟨v10, y10, q10, t10⟩ := hf 10 _ rfl
        obtain ⟨x0, rfl, b0⟩ := int_inB t0
        obtain ⟨x1, rfl, b1⟩ := int_inB t1
        obtain ⟨xs, hxs, b2⟩ := ints_inB t2
        obtain ⟨x3, rfl, b3⟩ := int_inB t3
        obtain ⟨x4, rfl, b4⟩ := int_inB t4
        obtain ⟨x5, rfl, b5⟩ := int_inB t5
        obtain ⟨x6, rfl, b6⟩ := int_inB t6
        obtain ⟨x7, rfl, b7⟩ := int_inB t7
        obtain ⟨x8, rfl, b8⟩ := int_inB t8
        obtain ⟨x9, rfl, b9⟩ := int_inB t9
        obtain ⟨us, hus, b10⟩ := ups_inB t10
        exact ⟨⟨⟨x0, x1, xs, x3, x4, x5, x6, x7, x8, x9, us⟩, v2, v10⟩, ⟨⟨hxs, hus⟩, ⟨b0, b1, b2, b3, b4, b5, b6, b7, b8, b9, b10⟩⟩, q0, q1, q2, q3, q4, q5, q6, q7, q8, q9, q10⟩
      let f : Nat → ActT := fun i => if hil : i < len then (hu i hil).choose else t0
      have hf : ∀ i, i < len → ((f i).Reads W ∧ ActB (f i).a) ∧ W.cell? (a.add (i * 11 + 0)) = some (.int .i64 (f i).a.r) ∧ W.cell? (a.add (i * 11 + 1)) = some (.int .i64 (f i).a.n) ∧ W.cell? (a.add (i * 11 + 2)) = some (f i).vd ∧ W.cell? (a.add (i * 11 + 3)) = some (.int .i64 (f i).a.actor) ∧ W.cell? (a.add (i * 11 + 4)) = some (.int .i64 (f i).a.kind) ∧ W.cell? (a.add (i * 11 + 5)) = some (.int .i64 (f i).a.to) ∧ W.cell? (a.add (i * 11 + 6)) = some (.int .i64 (f i).a.bucket) ∧ W.cell? (a.add (i * 11 + 7)) = some (.int .i64 (f i).a.mask) ∧ W.cell? (a.add (i * 11 + 8)) = some (.int .i64 (f i).a.gr) ∧ W.cell? (a.add (i * 11 + 9)) = some (.int .i64 (f i).a.gn) ∧ W.cell? (a.add (i * 11 + 10)) = some (f i).vs := by
        intro i hil
        have := (hu i hil).choose_spec
        simp only [f, dif_pos hil]
        exact this
      have c0 := (hf 0 (by omega)).2.1
      have hs := World.cell?_spot c0
      have hb := cell_lt c0
      obtain ⟨b, off, spot⟩ := a
      simp only [Addr.add] at hs hb
      simp at hs
      subst hs
      have hadd : ∀ k, (Addr.add ⟨b, off, none⟩ k) = ⟨b, off + k, none⟩ := by
        intro k
        unfold Addr.add; split
        · subst k; rfl
        · rfl
      refine ⟨((List.range len).map f).map ActT.a, ⟨(List.range len).map f, rfl, fun t ht => ?_, .inr ⟨b, off, cap, by simp, by simpa using hb, by simpa using hl, hm, fun i hil => ?_⟩⟩, fun x hx => by
        obtain ⟨t, ht, rfl⟩ := List.mem_map.1 hx
        obtain ⟨i, hi2, rfl⟩ := List.mem_map.1 ht
        exact (hf i (by simpa using hi2)).1.2⟩
      · obtain ⟨i, hi, rfl⟩ := List.mem_map.1 ht
        exact (hf i (by simpa using hi)).1.1
      · have hil' : i < len := by simpa using hil
        have hg : ((List.range len).map f).getD i t0 = f i := by simp [List.getD, hil']
        rw [hg]
        obtain ⟨_, k0, k1, k2, k3, k4, k5, k6, k7, k8, k9, k10⟩ := hf i hil'
        simp only [hadd, Nat.add_zero] at k0 k1 k2 k3 k4 k5 k6 k7 k8 k9 k10
        exact ⟨k0, by rw [Nat.add_assoc]; exact k1, by rw [Nat.add_assoc]; exact k2, by rw [Nat.add_assoc]; exact k3, by rw [Nat.add_assoc]; exact k4, by rw [Nat.add_assoc]; exact k5, by rw [Nat.add_assoc]; exact k6, by rw [Nat.add_assoc]; exact k7, by rw [Nat.add_assoc]; exact k8, by rw [Nat.add_assoc]; exact k9, by rw [Nat.add_assoc]; exact k10⟩
end Go.Proofs.YtjjgigoehgabkaaDoor
