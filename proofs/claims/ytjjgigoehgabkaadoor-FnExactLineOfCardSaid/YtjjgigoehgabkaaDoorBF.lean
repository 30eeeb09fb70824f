/- slices.Equal of ints and of ups; the program's SameAct. -/
import Derived.Test.YtjjgigoehgabkaaDoorAK
import Derived.Test.YtjjgigoehgabkaaDoorMI
import Derived.BigQuiet
import Derived.Deep.QuietTactic




namespace Go.Proofs.YtjjgigoehgabkaaDoor
open Go.RowKit
set_option linter.unusedVariables false

theorem ups_ne {us vs : List UpM} (h : us.length ≠ vs.length) : decide (us = vs) = false := by
  have : us ≠ vs := by intro e; exact h (by rw [e])
  simp [this]
def sameB (a b : ActM) : Bool := (a.r == b.r) && (a.n == b.n) && eqB a.dep b.dep && (a.actor == b.actor) && (a.kind == b.kind) && (a.to == b.to) && (a.bucket == b.bucket) && (a.mask == b.mask) && (a.gr == b.gr) && (a.gn == b.gn) && decide (a.ups = b.ups)
theorem sameM_eq (a b : ActM) : sameM a b = sameB a b := by
  rw [Bool.eq_iff_iff]
  obtain ⟨r, n, dep, actor, kind, dst, bucket, mask, gr, gn, ups⟩ := a
  obtain ⟨r', n', dep', actor', kind', dst', bucket', mask', gr', gn', ups'⟩ := b
  simp only [sameM, sameB, eqB, decide_eq_true_eq, ActM.mk.injEq, Bool.and_eq_true, beq_iff_eq]
  constructor
  · rintro ⟨h0, h1, h2, h3, h4, h5, h6, h7, h8, h9, h10⟩
    exact ⟨⟨⟨⟨⟨⟨⟨⟨⟨⟨h0, h1⟩, h2⟩, h3⟩, h4⟩, h5⟩, h6⟩, h7⟩, h8⟩, h9⟩, h10⟩
  · rintro ⟨⟨⟨⟨⟨⟨⟨⟨⟨⟨h0, h1⟩, h2⟩, h3⟩, h4⟩, h5⟩, h6⟩, h7⟩, h8⟩, h9⟩, h10⟩
    exact ⟨h0, h1, h2, h3, h4, h5, h6, h7, h8, h9, h10⟩

end Go.Proofs.YtjjgigoehgabkaaDoor
