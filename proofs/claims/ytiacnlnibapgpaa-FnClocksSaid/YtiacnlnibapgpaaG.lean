/- leq, sum, list. -/
import Derived.Test.YtiacnlnibapgpaaF
import Derived.Deep.RegionWith
import Derived.Deep.RegionHeld3
namespace Go.Proofs.Ytiacnlnibapgpaa
open Go.RowKit
set_option linter.unusedVariables false

theorem bcell {W w1 : World} (hb : Below W.heap.size W w1) : (∀ b o, b < W.heap.size → w1.cell? ⟨b, o, none⟩ = W.cell? ⟨b, o, none⟩) ∧ (∀ b o, b < W.heap.size → w1.frozen? ⟨b, o, none⟩ = W.frozen? ⟨b, o, none⟩) :=
  ⟨fun b o h => hb.cell (p := ⟨b, o, none⟩) h, fun b o h => hb.frozen (p := ⟨b, o, none⟩) h⟩
theorem part40 (a b c d : Int) (w : World) : (part 3 #[.int .i64 a, .int .i64 b, .int .i64 c, .int .i64 d] 0).run Try.prog w = .ok (.int .i64 a) w := by kernel_rfl
theorem part41 (a b c d : Int) (w : World) : (part 3 #[.int .i64 a, .int .i64 b, .int .i64 c, .int .i64 d] 1).run Try.prog w = .ok (.int .i64 b) w := by kernel_rfl
theorem part42 (a b c d : Int) (w : World) : (part 3 #[.int .i64 a, .int .i64 b, .int .i64 c, .int .i64 d] 2).run Try.prog w = .ok (.int .i64 c) w := by kernel_rfl
theorem part43 (a b c d : Int) (w : World) : (part 3 #[.int .i64 a, .int .i64 b, .int .i64 c, .int .i64 d] 3).run Try.prog w = .ok (.int .i64 d) w := by kernel_rfl
theorem run_eqarr (d : Nat) (a0 a1 a2 a3 b0 b1 b2 b3 : Int) (w : World) : (Op.equalIn (d + 2) 34 (.agg #[.int .i64 a0, .int .i64 a1, .int .i64 a2, .int .i64 a3]) (.agg #[.int .i64 b0, .int .i64 b1, .int .i64 b2, .int .i64 b3])).run Try.prog w = .ok (eqB [a0, a1, a2, a3] [b0, b1, b2, b3]) w := by
  have e (x y : Int) : (Op.equalIn (d + 1) 3 (.int .i64 x) (.int .i64 y)).run Try.prog w = .ok (x == y) w := run_equalIn_int w d 3 .i64 .i64 x y Try.underlying3
  rw [Op.equalIn]
  simp [run_underlying Try.underlying34, List.range', part40, part41, part42, part43, e, eqB]
  by_cases h0 : a0 = b0 <;> by_cases h1 : a1 = b1 <;> by_cases h2 : a2 = b2 <;> by_cases h3 : a3 = b3 <;> simp [h0, h1, h2, h3]
theorem run_counts (n a b c d : Int) (w : World) : (Instr.field 36 (.agg #[.int .i64 n, .int .i64 a, .int .i64 b, .int .i64 c, .int .i64 d]) 1).run Try.prog w = .ok (.agg #[.int .i64 a, .int .i64 b, .int .i64 c, .int .i64 d]) w := by kernel_rfl
set_option maxHeartbeats 400000 in
theorem leq_any (n c0 c1 c2 c3 d0 d1 d2 d3 m : Int) (w : World) (h0 : 0 ≤ n) (h4 : n ≤ 4) :
    Calls Try.prog 37 #[.agg #[.int .i64 n, .int .i64 c0, .int .i64 c1, .int .i64 c2, .int .i64 c3], .agg #[.int .i64 m, .int .i64 d0, .int .i64 d1, .int .i64 d2, .int .i64 d3]] w fun e w' =>
      e = .returned (.bool (eqB ((mxk n c0 c1 c2 c3 d0 d1 d2 d3 n.toNat).drop 1) [d0, d1, d2, d3])) ∧ Below w.heap.size w w' := by
  obtain ⟨x0, x1, x2, x3, hm⟩ : ∃ x0 x1 x2 x3, mxk n c0 c1 c2 c3 d0 d1 d2 d3 n.toNat = [n, x0, x1, x2, x3] := ⟨_, _, _, _, rfl⟩
  have hg : ∀ w, Calls Try.prog 33 #[.agg #[.int .i64 n, .int .i64 c0, .int .i64 c1, .int .i64 c2, .int .i64 c3], .agg #[.int .i64 m, .int .i64 d0, .int .i64 d1, .int .i64 d2, .int .i64 d3]] w fun e w' =>
      e = .returned (.agg #[.int .i64 n, .int .i64 x0, .int .i64 x1, .int .i64 x2, .int .i64 x3]) ∧ Below w.heap.size w w' := fun w => greater_any n c0 c1 c2 c3 d0 d1 d2 d3 m _ (by rw [hm]; rfl) w h0 h4
  rw [hm]
  have HG := Lib.hid hg
  clear hg hm
  have rc := run_counts n x0 x1 x2 x3
  have rq := run_eqarr 9998 x0 x1 x2 x3 d0 d1 d2 d3
  have hr : Hid (eqB (List.drop 1 [n, x0, x1, x2, x3]) [d0, d1, d2, d3] = eqB [x0, x1, x2, x3] [d0, d1, d2, d3]) := rfl
  have bb := Lib.hid (((Below.refl w.heap.size w).alloc (Nat.le_refl _) (.cells #[.int .i64 n, .int .i64 c0, .int .i64 c1, .int .i64 c2, .int .i64 c3] 36)).alloc (by simp) (.cells #[.int .i64 m, .int .i64 d0, .int .i64 d1, .int .i64 d2, .int .i64 d3] 36))
  go_enter Try.func37, Try.ntmps37
  go_wp2_with fail
  go_region_with (go_at_call 33; refine (HG.out _).mono ?_; rintro e w' ⟨rfl, hb⟩; obtain ⟨hc, hf⟩ := bcell hb; have HB := Lib.hid (bb.out.drew.trans (hb.mono (by simp; omega))); clear hb)
  all_goals go_wp2
  all_goals go_ret
  all_goals (refine ⟨ret_bool hr.out.symm, ?_⟩)
  all_goals exact HB.out
end Go.Proofs.Ytiacnlnibapgpaa
