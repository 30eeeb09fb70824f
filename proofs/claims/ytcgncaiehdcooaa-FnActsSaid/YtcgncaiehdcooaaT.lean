/- The reference's draws: l1PickInt. -/
import Derived.Test.YtcgncaiehdcooaaS
namespace Go.Proofs.Ytcgncaiehdcooaa
open Go.RowKit
set_option linter.unusedVariables false

set_option maxHeartbeats 400000 in
/-- l1PickInt of a list that is not empty: one of its ints -/
theorem pick_any (B g cap n : Nat) (xs : List Int) (w : World) (hnn : xs.length = n) (h : Cur w B) (hn : 0 < n) (hm : n ≤ 256) (hg : B < g) (hgl : g < w.heap.size) (hc : ∀ i, i < n → w.cell? ⟨g, i, none⟩ = some (.int .i64 (xs.getD i 0))) :
    Calls Try.prog 96 #[.pointer (some ⟨B, 0, none⟩), .slice (some ⟨g, 0, none⟩) n cap] w fun e w' => ∃ x, e = .returned (.int .i64 x) ∧ x ∈ xs ∧ Cur w' B ∧ w.grownBy w' (some B) := by
  have HC := Lib.hid h
  have HX := Lib.hid hc
  have HN := Lib.hid hnn
  have hB := h.lt
  clear h hc hnn
  go_enter Try.func96, Try.ntmps96
  go_wp2_with fail
  refine (below_any B n _ HC.out (by omega)).mono ?_
  rintro e w1 ⟨x, rfl, x0, _, x1, hc1, hg1⟩
  have x2 := x1 (by omega)
  obtain ⟨j, rfl⟩ := Int.eq_ofNat_of_zero_le x0
  have q : w1.cell? ⟨g, j, none⟩ = some (.int .i64 (xs.getD j 0)) := (World.cell?_of_block (a := ⟨g, j, none⟩) (hg1.block g hgl (fun e => by cases e; omega))).trans (HX.out j (by omega))
  have hj : j < xs.length := by rw [HN.out]; omega
  have hmem : Hid (xs.getD j 0 ∈ xs) := by
    show _ ∈ _
    simp [List.getD, hj]
  have HC1 := Lib.hid hc1
  have HG1 := Lib.hid hg1
  clear hc1 hg1 x1 hj
  generalize xs.getD j 0 = z at *
  go_wp2
  go_ret
  exact ⟨z, rfl, hmem.out, HC1.out, HG1.out⟩
end Go.Proofs.Ytcgncaiehdcooaa
