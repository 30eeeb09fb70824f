/- The method lesser of a clock. -/
import Derived.Test.YtjjgigoehgabkaaMH
namespace Go.Proofs.Ytjjgigoehgabkaa
open Go.RowKit
set_option linter.unusedVariables false
def mn (x y : Int) : Int := if y < x then y else x
/-- the cells of the lesser clock behind k rounds -/
def mnk (n c0 c1 c2 c3 d0 d1 d2 d3 : Int) (k : Nat) : List Int :=
  [n, if 0 < k then mn c0 d0 else c0, if 1 < k then mn c1 d1 else c1, if 2 < k then mn c2 d2 else c2, if 3 < k then mn c3 d3 else c3]

theorem mnk_step (n c0 c1 c2 c3 d0 d1 d2 d3 m : Int) (k : Nat) (hk : k < 4) : ∃ x y, (vi (mnk n c0 c1 c2 c3 d0 d1 d2 d3 k))[1 + k]? = some (.int .i64 x) ∧ (vi [m, d0, d1, d2, d3])[1 + k]? = some (.int .i64 y) ∧
    (vi (mnk n c0 c1 c2 c3 d0 d1 d2 d3 k)).set (1 + k) (.int .i64 (mn x y)) = vi (mnk n c0 c1 c2 c3 d0 d1 d2 d3 (k + 1)) := by
  match k, hk with
  | 0, _ => exact ⟨c0, d0, rfl, rfl, rfl⟩
  | 1, _ => exact ⟨c1, d1, rfl, rfl, rfl⟩
  | 2, _ => exact ⟨c2, d2, rfl, rfl, rfl⟩
  | 3, _ => exact ⟨c3, d3, rfl, rfl, rfl⟩
  | k + 4, h => omega

set_option maxHeartbeats 400000 in
theorem lesser_any (n c0 c1 c2 c3 d0 d1 d2 d3 m : Int) (V : Value) (hV : V = .agg ((vi (mnk n c0 c1 c2 c3 d0 d1 d2 d3 n.toNat)).toArray)) (w : World) (h0 : 0 ≤ n) (h4 : n ≤ 4) :
    Calls Try.prog 174 #[.agg #[.int .i64 n, .int .i64 c0, .int .i64 c1, .int .i64 c2, .int .i64 c3], .agg #[.int .i64 m, .int .i64 d0, .int .i64 d1, .int .i64 d2, .int .i64 d3]] w fun e w' =>
      e = .returned V ∧ Below w.heap.size w w' := by
  have b1 : Blk (w.alloc (.cells #[.int .i64 n, .int .i64 c0, .int .i64 c1, .int .i64 c2, .int .i64 c3] 97)) w.heap.size (vi (mnk n c0 c1 c2 c3 d0 d1 d2 d3 0)) := by simpa [vi, mnk] using Blk.new w #[.int .i64 n, .int .i64 c0, .int .i64 c1, .int .i64 c2, .int .i64 c3] 97
  have b2 : Blk ((w.alloc (.cells #[.int .i64 n, .int .i64 c0, .int .i64 c1, .int .i64 c2, .int .i64 c3] 97)).alloc (.cells #[.int .i64 m, .int .i64 d0, .int .i64 d1, .int .i64 d2, .int .i64 d3] 97)) (w.heap.size + 1) (vi [m, d0, d1, d2, d3]) := by simpa [vi] using Blk.new (w.alloc (.cells #[.int .i64 n, .int .i64 c0, .int .i64 c1, .int .i64 c2, .int .i64 c3] 97)) #[.int .i64 m, .int .i64 d0, .int .i64 d1, .int .i64 d2, .int .i64 d3] 97
  have b3 : Blk (((w.alloc (.cells #[.int .i64 n, .int .i64 c0, .int .i64 c1, .int .i64 c2, .int .i64 c3] 97)).alloc (.cells #[.int .i64 m, .int .i64 d0, .int .i64 d1, .int .i64 d2, .int .i64 d3] 97)).alloc (.cells #[.int .i64 0, .int .i64 0, .int .i64 0, .int .i64 0, .int .i64 0] 97)) (w.heap.size + 1 + 1) (vi [0, 0, 0, 0, 0]) := by simpa [vi] using Blk.new ((w.alloc (.cells #[.int .i64 n, .int .i64 c0, .int .i64 c1, .int .i64 c2, .int .i64 c3] 97)).alloc (.cells #[.int .i64 m, .int .i64 d0, .int .i64 d1, .int .i64 d2, .int .i64 d3] 97)) #[.int .i64 0, .int .i64 0, .int .i64 0, .int .i64 0, .int .i64 0] 97
  have B1 := Lib.hid ((b1.alloc (.cells #[.int .i64 m, .int .i64 d0, .int .i64 d1, .int .i64 d2, .int .i64 d3] 97)).alloc (.cells #[.int .i64 0, .int .i64 0, .int .i64 0, .int .i64 0, .int .i64 0] 97))
  have B2 := Lib.hid (b2.alloc (.cells #[.int .i64 0, .int .i64 0, .int .i64 0, .int .i64 0, .int .i64 0] 97))
  have B3 := Lib.hid b3
  have bb := Lib.hid ((((Below.refl w.heap.size w).alloc (Nat.le_refl _) (.cells #[.int .i64 n, .int .i64 c0, .int .i64 c1, .int .i64 c2, .int .i64 c3] 97)).alloc (by simp) (.cells #[.int .i64 m, .int .i64 d0, .int .i64 d1, .int .i64 d2, .int .i64 d3] 97)).alloc (by simp; omega) (.cells #[.int .i64 0, .int .i64 0, .int .i64 0, .int .i64 0, .int .i64 0] 97))
  have HV0 := Lib.hid hV
  clear b1 b2 b3 hV
  go_enter Try.func174, Try.ntmps174
  go_wp2
  go_loopw [8] (fun i wr => ∃ k : Nat, (k : Int) ≤ n ∧ i = .int .i64 k ∧ Hid (Blk wr w.heap.size (vi (mnk n c0 c1 c2 c3 d0 d1 d2 d3 k))) ∧ Hid (Blk wr (w.heap.size + 1) (vi [m, d0, d1, d2, d3])) ∧ Hid (Blk wr (w.heap.size + 1 + 1) (vi [0, 0, 0, 0, 0])) ∧ Hid (Below w.heap.size w wr)) (fun i _ => n.toNat - (intOf i).toNat)
  case atStart => exact ⟨0, h0, rfl, B1, B2, B3, bb⟩
  case round =>
    obtain ⟨k, hk, rfl, g1, g2, g3, gb⟩ := hrel
    clear B1 B2 B3 bb
    by_cases hlt : (k : Int) < n
    · obtain ⟨x, y, hx, hy, hst⟩ := mnk_step n c0 c1 c2 c3 d0 d1 d2 d3 m k (by omega)
      have q1 := (g1.out.cell (1 + k)).trans hx
      have q2 := (g2.out.cell (1 + k)).trans hy
      have q3 := g1.out.free (1 + k)
      have G1 : Blk (wr.setCell ⟨w.heap.size, 1 + k, none⟩ (.int .i64 (if y < x then y else x))) w.heap.size (vi (mnk n c0 c1 c2 c3 d0 d1 d2 d3 (k + 1))) := by
        have := g1.out.set (j := 1 + k) (by simp [vi, mnk]; omega) (.int .i64 (mn x y))
        rw [hst] at this
        exact this
      have H1 := Lib.hid G1
      clear hx hy hst G1
      have k0 : (0 : Int) ≤ k := by omega
      have k4 : (k : Int) < 4 := by omega
      go_wp2
      go_region
      all_goals go_wp2
      all_goals go_roundw
      case rel => exact ⟨k + 1, by omega, by go_num, H1.out.drew, (g2.out.other (p := ⟨w.heap.size, 1 + k, none⟩) (by simp) _).drew, (g3.out.other (p := ⟨w.heap.size, 1 + k, none⟩) (by simp; omega) _).drew, (gb.out.setCell (p := ⟨w.heap.size, 1 + k, none⟩) (Nat.le_refl _) _).drew⟩
      case measure => simp [intOf]; omega
    · have hkn : n = k := by omega
      subst hkn
      have q0 := g1.out.cell 0
      have q1 := g1.out.cell 1
      have q2 := g1.out.cell 2
      have q3 := g1.out.cell 3
      have q4 := g1.out.cell 4
      have r0 := g3.out.cell 0
      have r1 := g3.out.cell 1
      have r2 := g3.out.cell 2
      have r3 := g3.out.cell 3
      have r4 := g3.out.cell 4
      have rf := g3.out.free
      have ek : ((k : Int)).toNat = k := by simp
      have EK := Lib.hid ek
      clear ek
      simp only [vi, mnk, List.map_cons, List.map_nil, List.getElem?_cons_zero, List.getElem?_cons_succ] at q0 q1 q2 q3 q4 r0 r1 r2 r3 r4
      have hv : Hid (.agg ((vi (mnk k c0 c1 c2 c3 d0 d1 d2 d3 k)).toArray) = Value.agg #[.int .i64 k, .int .i64 (if 0 < k then mn c0 d0 else c0), .int .i64 (if 1 < k then mn c1 d1 else c1), .int .i64 (if 2 < k then mn c2 d2 else c2), .int .i64 (if 3 < k then mn c3 d3 else c3)]) := rfl
      have HV : Hid (V = Value.agg #[.int .i64 k, .int .i64 (if 0 < k then mn c0 d0 else c0), .int .i64 (if 1 < k then mn c1 d1 else c1), .int .i64 (if 2 < k then mn c2 d2 else c2), .int .i64 (if 3 < k then mn c3 d3 else c3)]) := by
        show V = _
        rw [HV0.out, EK.out]
        exact hv.out
      clear hv HV0
      generalize (if 0 < k then mn c0 d0 else c0) = x0 at *
      generalize (if 1 < k then mn c1 d1 else c1) = x1 at *
      generalize (if 2 < k then mn c2 d2 else c2) = x2 at *
      generalize (if 3 < k then mn c3 d3 else c3) = x3 at *
      go_wp2
      exact bodyPost_ret (v := .agg #[.int .i64 k, .int .i64 x0, .int .i64 x1, .int .i64 x2, .int .i64 x3]) (by simp [results, Try.results174, go_sem, r0, r1, r2, r3, r4]) rfl ⟨by rw [HV.out], ((((gb.out.setCell (by simp; omega) _).setCell (by simp; omega) _).setCell (by simp; omega) _).setCell (by simp; omega) _).setCell (by simp; omega) _⟩
end Go.Proofs.Ytjjgigoehgabkaa
