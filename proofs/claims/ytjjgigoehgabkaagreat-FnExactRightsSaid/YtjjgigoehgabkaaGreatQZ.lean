/- What the shell is told of an eye that came in. -/
import Derived.Test.YtjjgigoehgabkaaGreatGA
import Derived.Lib.SmallJoins


namespace Go.Proofs.YtjjgigoehgabkaaGreat
open Go.Joins Go.ChangeShapes Go.WideShapes Go.ChangeAt Go.RowKit Go.Deep
set_option linter.unusedVariables false

set_option maxRecDepth 100000 in
theorem eye_in {H : Type} {enc : TypeId × Value → H} {W : World} {b0 base : Nat} {r : Reach} {v : Value} {d : DataW H} {p : List MemPlace} (hv : Value.okWide Tryz.prog W r b0 25 v) (h : DataW.Trod enc Tryz.prog W base (fun _ => true) true 25 v d p) :
    ∃ x0 x1 u xs, v = .agg #[.int .i64 x0, .int .i64 x1, u] ∧ Ints W u xs := by
  obtain ⟨v0, v1, v2, y0, y1, y2, n, rfl, _, _, h0, h1, h2⟩ := open_agg3 Tryz.underlying25 (by kernel_rfl) (by kernel_rfl) hv h
  obtain ⟨x0, rfl⟩ := int_in h0
  obtain ⟨x1, rfl⟩ := int_in h1
  obtain ⟨xs, hxs⟩ := ints_in h2
  exact ⟨x0, x1, v2, xs, rfl, hxs⟩
end Go.Proofs.YtjjgigoehgabkaaGreat
