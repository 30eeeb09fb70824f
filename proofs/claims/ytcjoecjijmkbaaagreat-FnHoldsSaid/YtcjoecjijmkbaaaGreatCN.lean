/- The reference's draws: l1Once, l2up. -/
import Derived.Test.YtcjoecjijmkbaaaGreatS
import Derived.Test.YtcjoecjijmkbaaaGreatMC

namespace Go.Proofs.YtcjoecjijmkbaaaGreat
open Go.RowKit
set_option linter.unusedVariables false
def DrawnBool (w : World) (B : Nat) (e : Ending) (w' : World) : Prop := ∃ b : Bool, e = .returned (.bool b) ∧ Cur w' B ∧ w.grownBy w' (some B)
set_option maxHeartbeats 400000 in
theorem once_any (B : Nat) (n : Int) (w : World) (h : Cur w B) (hn : n ≤ 256) : Calls Tryz.prog 51 #[.pointer (some ⟨B, 0, none⟩), .int .i64 n] w (DrawnBool w B) := by
 have HC := Lib.hid h
 clear h
 go_enter Tryz.func51, Tryz.ntmps51
 go_wp2_with fail
 refine (below_any B n _ HC.out hn).mono ?_
 rintro e w1 ⟨x, rfl, _, _, _, hc1, hg1⟩
 have C1 := Lib.hid hc1
 have G1 := Lib.hid hg1
 clear hc1 hg1
 go_wp2_with fail
 go_ret
 exact ⟨_, rfl, C1.out, G1.out⟩
def DrawnUp (w : World) (B : Nat) (e : Ending) (w' : World) : Prop := ∃ u : UpM, e = .returned (.agg #[.int .i64 u.kind, .int .i64 u.bucket, .int .i64 u.key, .int .i64 u.val]) ∧ Cur w' B ∧ w.grownBy w' (some B)
set_option maxHeartbeats 1600000 in
theorem l2up_any (B : Nat) (w : World) (h : Cur w B) : Calls Tryz.prog 111 #[.pointer (some ⟨B, 0, none⟩)] w (DrawnUp w B) := by
 have hB := h.lt
 have K0 := Lib.hid (Blk.new w #[.int .i64 0, .int .i64 0, .int .i64 0, .int .i64 0] 111)
 have G0 := Lib.hid (grown_alloc w (.cells #[.int .i64 0, .int .i64 0, .int .i64 0, .int .i64 0] 111) (some B))
 have C0 := Lib.hid (h.grown (grown_alloc w (.cells #[.int .i64 0, .int .i64 0, .int .i64 0, .int .i64 0] 111) none) (fun g e => by cases e))
 clear h
 go_enter Tryz.func111, Tryz.ntmps111
 go_wp2_with fail
 refine (below_any B 4 _ C0.out (by omega)).mono ?_
 rintro e w1 ⟨x1, rfl, a1, _, q1, hc1, hg1⟩
 have u1 := q1 (by omega)
 have C1 := Lib.hid hc1
 have K1 := Lib.hid (K0.out.grown hg1 (by omega))
 have G1 := Lib.hid (grown_then G0.out hg1 (fun g e => .inl (by cases e; rfl)))
 clear hc1 hg1 q1
 go_wp2_with fail
 refine (below_any B 2 _ C1.out (by omega)).mono ?_
 rintro e w2 ⟨x2, rfl, _, _, _, hc2, hg2⟩
 have C2 := Lib.hid hc2
 have K2 := Lib.hid (K1.out.grown hg2 (by omega))
 have G2 := Lib.hid (grown_then G1.out hg2 (fun g e => .inl (by cases e; rfl)))
 clear hc2 hg2
 go_wp2_with fail
 refine (below_any B 2 _ C2.out (by omega)).mono ?_
 rintro e w3 ⟨x3, rfl, _, _, _, hc3, hg3⟩
 have C3 := Lib.hid hc3
 have K3 := Lib.hid (K2.out.grown hg3 (by omega))
 have G3 := Lib.hid (grown_then G2.out hg3 (fun g e => .inl (by cases e; rfl)))
 clear hc3 hg3
 go_wp2_with fail
 refine (below_any B 4 _ C3.out (by omega)).mono ?_
 rintro e w4 ⟨x4, rfl, _, _, _, hc4, hg4⟩
 have C4 := Lib.hid hc4
 have K4 := Lib.hid (K3.out.grown hg4 (by omega))
 have G4 := Lib.hid (grown_then G3.out hg4 (fun g e => .inl (by cases e; rfl)))
 clear hc4 hg4
 have c := K4.out.cell
 have f := K4.out.free
 go_wp2_with fail
 refine bodyPost_ret (v := .agg #[.int .i64 (1 + x1), .int .i64 x2, .int .i64 x3, .int .i64 x4]) (by simp [results, Tryz.results111, go_sem, c]) rfl ⟨⟨1 + x1, x2, x3, x4⟩, rfl, ?_, ?_⟩
 ·have GS := (grown_set (w := w4) w.heap.size 0 (.int .i64 (1 + x1))).trans ((grown_set w.heap.size 1 (.int .i64 x2)).trans ((grown_set w.heap.size 2 (.int .i64 x3)).trans (grown_set w.heap.size 3 (.int .i64 x4))))
  exact C4.out.grown GS (fun g e => by cases e; exact hB)
 ·have GS := (grown_set (w := w4) w.heap.size 0 (.int .i64 (1 + x1))).trans ((grown_set w.heap.size 1 (.int .i64 x2)).trans ((grown_set w.heap.size 2 (.int .i64 x3)).trans (grown_set w.heap.size 3 (.int .i64 x4))))
  exact grown_then G4.out GS (fun g e => .inr (by cases e; exact Nat.le_refl _))
end Go.Proofs.YtcjoecjijmkbaaaGreat
