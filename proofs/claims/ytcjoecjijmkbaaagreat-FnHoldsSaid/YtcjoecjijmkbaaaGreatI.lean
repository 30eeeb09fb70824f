/- The method list of a clock. -/
import Derived.Test.YtcjoecjijmkbaaaGreatMH
import Derived.Laws.CopyOwn

namespace Go.Proofs.YtcjoecjijmkbaaaGreat
open Go.RowKit
set_option linter.unusedVariables false
theorem splice_all (l cs : List Value) (h : cs.length = l.length) : splice l 0 cs = cs := by
 simp [splice, h]
def IsBlk (w : World) (g : Nat) (xs : List Int) : Prop := w.heap[g]? = some (.cells (vi xs).toArray 3 (0, 0))
set_option maxHeartbeats 400000 in
theorem list_any (n : Nat) (c0 c1 c2 c3 : Int) (w : World) (h4 : n ≤ 4) :
  Calls Tryz.prog 76 #[.agg #[.int .i64 n, .int .i64 c0, .int .i64 c1, .int .i64 c2, .int .i64 c3]] w fun e w' =>
   e = .returned (.slice (some ⟨w.heap.size + 1, 0, none⟩) n n) ∧ IsBlk w' (w.heap.size + 1) ([c0, c1, c2, c3].take n) ∧ Below w.heap.size w w' := by
 obtain ⟨i0, hi, hz0, hz1, hz2⟩ := info_parts Tryz.info3
 have hmk : ∀ w : World, (Instr.makeSlice 24 (.int .i64 (n : Int)) (.int .i64 (n : Int))).run Tryz.prog w = .ok (.slice (some ⟨w.heap.size, 0, none⟩) n n) (w.alloc (.cells (vi (List.replicate n (0:Int))).toArray 3)) := by
  intro w
  have h := run_make (P := Tryz.prog) w 24 3 i0 (.int .i64 0) Tryz.underlying24 hi hz0 .i64 .i64 n n (by omega) (by omega) (by rw [hz2]; omega) (by omega)
  rw [hz1] at h
  simp only [Int.toNat_natCast] at h
  rw [made] at h
  exact h
 clear hi hz0 hz1 hz2 i0
 have b1 : Blk (w.alloc (.cells #[.int .i64 n, .int .i64 c0, .int .i64 c1, .int .i64 c2, .int .i64 c3] 56)) w.heap.size (vi [n, c0, c1, c2, c3]) := by simpa [vi] using Blk.new w #[.int .i64 n, .int .i64 c0, .int .i64 c1, .int .i64 c2, .int .i64 c3] 56
 have B1 := Lib.hid (b1.alloc (.cells (vi (List.replicate n (0:Int))).toArray 3))
 have hg : ((w.alloc (.cells #[.int .i64 n, .int .i64 c0, .int .i64 c1, .int .i64 c2, .int .i64 c3] 56)).alloc (.cells (vi (List.replicate n (0:Int))).toArray 3)).heap[w.heap.size + 1]? = some (.cells (vi (List.replicate n (0:Int))).toArray 3 (0, 0)) := by
  have := heap_alloc_new (w.alloc (.cells #[.int .i64 n, .int .i64 c0, .int .i64 c1, .int .i64 c2, .int .i64 c3] 56)) (.cells (vi (List.replicate n (0:Int))).toArray 3)
  simpa using this
 have bb := Lib.hid (((Below.refl w.heap.size w).alloc (Nat.le_refl _) (.cells #[.int .i64 n, .int .i64 c0, .int .i64 c1, .int .i64 c2, .int .i64 c3] 56)).alloc (by simp) (.cells (vi (List.replicate n (0:Int))).toArray 3))
 have HG := Lib.hid hg
 clear b1 hg
 go_enter Tryz.func76, Tryz.ntmps76
 have hlen : ([c0, c1, c2, c3].take n).length = n := by simp; omega
 have HL := Lib.hid hlen
 clear hlen
 go_wp2_with (with_reducible refine wpList_copy_splice rfl (.tmp 7) (.tmp 9) 24 24 rfl 3 Tryz.underlying24 (by kernel_rfl) (some ⟨w.heap.size + 1, 0, none⟩) (some ⟨w.heap.size, 1, none⟩) n n 4 4 rfl rfl (w.heap.size + 1) 0 (vi (List.replicate n (0:Int))) 3 HG.out (vi ([c0, c1, c2, c3].take n)) ?c1 ?c2 ?c3 ?c4 w.heap.size w bb.out (by omega) ?_)
 case c1 =>
  rw [vi, List.length_map, HL.out]
  show n = min 4 n
  omega
 case c2 =>
  intro _ j v hj
  have hjn : j < n := by
   have := (List.getElem?_eq_some_iff.1 hj).1
   rw [vi, List.length_map, HL.out] at this
   exact this
  rw [← hj]
  simp only [vi, List.map_take, List.map_cons, List.map_nil]
  rw [Nat.add_comm 1 j, List.getElem?_cons_succ, List.getElem?_take_of_lt hjn]
 case c3 => rw [vi, List.length_map, HL.out]; simp [vi]
 case c4 =>
  intro v hv
  simp only [vi, List.mem_map] at hv
  obtain ⟨x, _, rfl⟩ := hv
  rfl
 intro w' hw' hb'
 have HW := Lib.hid hw'.out
 have HBB := Lib.hid hb'
 clear hw' hb'
 go_wp2
 go_ret
 refine ⟨rfl, ?_, HBB.out⟩
 have := HW.out
 rw [splice_all _ _ (by rw [vi, List.length_map, HL.out]; simp [vi])] at this
 exact this
end Go.Proofs.YtcjoecjijmkbaaaGreat
