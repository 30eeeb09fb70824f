/- readPair. -/
import Derived.Test.YtiacnlnibapgpaaG
import Derived.Deep.RegionWith
namespace Go.Proofs.Ytiacnlnibapgpaa
open Go.RowKit
set_option linter.unusedVariables false

/-- the value that readClock gives as a clock -/
abbrev zeroClk : Value := .agg #[.int .i64 0, .int .i64 0, .int .i64 0, .int .i64 0, .int .i64 0]
def ClkIs (xs : List Int) (n c0 c1 c2 c3 : Int) : Prop := n = cn xs ∧ c0 = cx xs 0 ∧ c1 = cx xs 1 ∧ c2 = cx xs 2 ∧ c3 = cx xs 3

theorem Blk.five {w : World} {B : Nat} {a b c d e : Int} (h : Blk w B (vi [a, b, c, d, e])) : w.cell? ⟨B, 0, none⟩ = some (.int .i64 a) ∧ w.cell? ⟨B, 1, none⟩ = some (.int .i64 b) ∧ w.cell? ⟨B, 2, none⟩ = some (.int .i64 c) ∧ w.cell? ⟨B, 3, none⟩ = some (.int .i64 d) ∧ w.cell? ⟨B, 4, none⟩ = some (.int .i64 e) ∧ (∀ j, w.frozen? ⟨B, j, none⟩ = false) ∧ B < w.heap.size :=
  ⟨h.cell 0, h.cell 1, h.cell 2, h.cell 3, h.cell 4, h.free, h.lt⟩
theorem Blk.clk (w : World) (a b c d e : Int) : Blk (w.alloc (.cells #[.int .i64 a, .int .i64 b, .int .i64 c, .int .i64 d, .int .i64 e] 36)) w.heap.size (vi [a, b, c, d, e]) := by
  simpa [vi] using Blk.new w #[.int .i64 a, .int .i64 b, .int .i64 c, .int .i64 d, .int .i64 e] 36

set_option maxHeartbeats 800000 in
theorem readPair_any (v v' : Value) (xs ys : List Int) (w : World) (h : Ints w v xs) (h' : Ints w v' ys) (n c0 c1 c2 c3 m d0 d1 d2 d3 : Int) (hc : ClkIs xs n c0 c1 c2 c3) (hd : ClkIs ys m d0 d1 d2 d3) (hb : bothB xs ys = true) :
    Calls Try.prog 32 #[v, v'] w fun e w' => e = .returned (.tuple #[.agg #[.int .i64 n, .int .i64 c0, .int .i64 c1, .int .i64 c2, .int .i64 c3], .agg #[.int .i64 m, .int .i64 d0, .int .i64 d1, .int .i64 d2, .int .i64 d3], .bool true]) ∧ Below w.heap.size w w' := by
  simp only [bothB, Bool.and_eq_true, decide_eq_true_eq] at hb
  obtain ⟨⟨o1, o2⟩, ol⟩ := hb
  have r1 := fun w1 h => readClock_any v xs w1 h
  have r2 := fun w1 h => readClock_any v' ys w1 h
  obtain ⟨rfl, rfl, rfl, rfl, rfl⟩ := hc
  obtain ⟨rfl, rfl, rfl, rfl, rfl⟩ := hd
  simp only [o1] at r1
  simp only [o2] at r2
  have R1 := Lib.hid r1
  have R2 := Lib.hid r2
  have HI := Lib.hid h
  have HI' := Lib.hid h'
  have en : cn xs = cn ys := by simp [cn, o1, o2, ol]
  clear r1 r2 h h' o1 o2 ol
  have e1 : (cn xs == cn ys) = true := by simp [en]
  have e2 : (cn xs != cn ys) = false := by simp [en]
  clear en
  generalize cn xs = n at *
  generalize cx xs 0 = c0 at *
  generalize cx xs 1 = c1 at *
  generalize cx xs 2 = c2 at *
  generalize cx xs 3 = c3 at *
  generalize cn ys = m at *
  generalize cx ys 0 = d0 at *
  generalize cx ys 1 = d1 at *
  generalize cx ys 2 = d2 at *
  generalize cx ys 3 = d3 at *
  have B0 := Lib.hid (((Below.refl w.heap.size w).alloc (Nat.le_refl _) (.cells #[.int .i64 0, .int .i64 0, .int .i64 0, .int .i64 0, .int .i64 0] 36)).alloc (by simp) (.cells #[.int .i64 0, .int .i64 0, .int .i64 0, .int .i64 0, .int .i64 0] 36))
  have Z0 : Hid (Blk ((w.alloc (.cells #[.int .i64 0, .int .i64 0, .int .i64 0, .int .i64 0, .int .i64 0] 36)).alloc (.cells #[.int .i64 0, .int .i64 0, .int .i64 0, .int .i64 0, .int .i64 0] 36)) w.heap.size (vi [0, 0, 0, 0, 0])) := (Blk.clk w 0 0 0 0 0).alloc _
  have Z1 : Hid (Blk ((w.alloc (.cells #[.int .i64 0, .int .i64 0, .int .i64 0, .int .i64 0, .int .i64 0] 36)).alloc (.cells #[.int .i64 0, .int .i64 0, .int .i64 0, .int .i64 0, .int .i64 0] 36)) (w.heap.size + 1) (vi [0, 0, 0, 0, 0])) := by
    have := Blk.clk (w.alloc (.cells #[.int .i64 0, .int .i64 0, .int .i64 0, .int .i64 0, .int .i64 0] 36)) 0 0 0 0 0
    simpa [Hid] using this
  go_enter Try.func32, Try.ntmps32
  go_wp2_with fail
  refine (R1.out _ (HI.out.below (B := 0) B0.out)).mono ?_
  rintro e w1 ⟨rfl, hb1⟩
  have Y0 := Lib.hid ((Z0.out.below hb1 (by simp; omega)).alloc (.cells #[.int .i64 n, .int .i64 c0, .int .i64 c1, .int .i64 c2, .int .i64 c3] 36))
  have Y1 := Lib.hid ((Z1.out.below hb1 (by simp)).alloc (.cells #[.int .i64 n, .int .i64 c0, .int .i64 c1, .int .i64 c2, .int .i64 c3] 36))
  have K1 := Lib.hid (Blk.clk w1 n c0 c1 c2 c3)
  have B1 := Lib.hid (B0.out.trans (hb1.mono B0.out.size))
  clear hb1
  go_wp2_with fail
  refine (R2.out _ (HI'.out.below (B := 0) (B1.out.alloc B1.out.size _))).mono ?_
  rintro e w2 ⟨rfl, hb2⟩
  obtain ⟨y00, y01, y02, y03, y04, y0f, y0l⟩ := (Y0.out.below hb2 Y0.out.lt).five
  obtain ⟨y10, y11, y12, y13, y14, y1f, y1l⟩ := (Y1.out.below hb2 Y1.out.lt).five
  obtain ⟨k10, k11, k12, k13, k14, k1f, k1l⟩ := (K1.out.below hb2 K1.out.lt).five
  have B2 := Lib.hid ((B1.out.alloc B1.out.size _).trans (hb2.mono (B1.out.alloc B1.out.size (.cells #[.int .i64 n, .int .i64 c0, .int .i64 c1, .int .i64 c2, .int .i64 c3] 36)).size))
  clear hb2 Y0 Y1 Z0 Z1 K1 R1 R2 HI HI' B0
  go_wp2
  go_region
  all_goals go_wp2
  have hB : Below w.heap.size w w2 := B2.out
  have hS := hB.size
  refine bodyPost_ret (v := .tuple #[.agg #[.int .i64 n, .int .i64 c0, .int .i64 c1, .int .i64 c2, .int .i64 c3], .agg #[.int .i64 m, .int .i64 d0, .int .i64 d1, .int .i64 d2, .int .i64 d3], .bool true])
    (by simp [results, Try.results32, go_sem, y00, y01, y02, y03, y04, y10, y11, y12, y13, y14, y0l, y1l]) rfl
    ⟨rfl, ?_⟩
  with_reducible refine Below.drew ?_
  with_reducible refine Below.alloc ?_ ?_ _
  · repeat (first | (with_reducible exact hB) | (with_reducible refine Below.setCell ?_ ?_ _))
    all_goals simp
  · simpa using hS
set_option maxHeartbeats 800000 in
theorem readPair_no (v v' : Value) (xs ys : List Int) (w : World) (h : Ints w v xs) (h' : Ints w v' ys) (n c0 c1 c2 c3 m d0 d1 d2 d3 : Int) (hc : ClkIs xs n c0 c1 c2 c3) (hd : ClkIs ys m d0 d1 d2 d3) (hb : bothB xs ys = false) :
    Calls Try.prog 32 #[v, v'] w fun e w' => e = .returned (.tuple #[.agg #[.int .i64 0, .int .i64 0, .int .i64 0, .int .i64 0, .int .i64 0], .agg #[.int .i64 0, .int .i64 0, .int .i64 0, .int .i64 0, .int .i64 0], .bool false]) ∧ Below w.heap.size w w' := by
  have r1 := fun w1 h => readClock_any v xs w1 h
  have r2 := fun w1 h => readClock_any v' ys w1 h
  obtain ⟨rfl, rfl, rfl, rfl, rfl⟩ := hc
  obtain ⟨rfl, rfl, rfl, rfl, rfl⟩ := hd
  have hcase : okB xs = false ∨ (okB xs = true ∧ okB ys = false) ∨ (okB xs = true ∧ okB ys = true ∧ ¬ cn xs = cn ys) := by
    cases o1 : okB xs
    · exact .inl rfl
    · cases o2 : okB ys
      · exact .inr (.inl ⟨rfl, rfl⟩)
      · refine .inr (.inr ⟨rfl, rfl, ?_⟩)
        simp only [bothB, o1, o2, Bool.and_self, Bool.true_and, decide_eq_false_iff_not] at hb
        simp [cn, o1, o2]
        omega
  have R1 := Lib.hid r1
  have R2 := Lib.hid r2
  have HI := Lib.hid h
  have HI' := Lib.hid h'
  clear r1 r2 h h' hb
  generalize cn xs = n at *
  generalize cx xs 0 = c0 at *
  generalize cx xs 1 = c1 at *
  generalize cx xs 2 = c2 at *
  generalize cx xs 3 = c3 at *
  generalize cn ys = m at *
  generalize cx ys 0 = d0 at *
  generalize cx ys 1 = d1 at *
  generalize cx ys 2 = d2 at *
  generalize cx ys 3 = d3 at *
  obtain ⟨o1, ho1⟩ : ∃ o, okB xs = o := ⟨_, rfl⟩
  obtain ⟨o2, ho2⟩ : ∃ o, okB ys = o := ⟨_, rfl⟩
  rw [ho1] at R1 hcase
  rw [ho2] at R2 hcase
  clear ho1 ho2
  have hq : (o1 = false) ∨ (o1 = true ∧ o2 = false) ∨ (o1 = true ∧ o2 = true ∧ (n == m) = false ∧ (n != m) = true) := by
    rcases hcase with h | h | h
    · exact .inl h
    · exact .inr (.inl h)
    · exact .inr (.inr ⟨h.1, h.2.1, by simpa using h.2.2, by simpa using h.2.2⟩)
  clear hcase
  have B0 := Lib.hid (((Below.refl w.heap.size w).alloc (Nat.le_refl _) (.cells #[.int .i64 0, .int .i64 0, .int .i64 0, .int .i64 0, .int .i64 0] 36)).alloc (by simp) (.cells #[.int .i64 0, .int .i64 0, .int .i64 0, .int .i64 0, .int .i64 0] 36))
  have Z0 : Hid (Blk ((w.alloc (.cells #[.int .i64 0, .int .i64 0, .int .i64 0, .int .i64 0, .int .i64 0] 36)).alloc (.cells #[.int .i64 0, .int .i64 0, .int .i64 0, .int .i64 0, .int .i64 0] 36)) w.heap.size (vi [0, 0, 0, 0, 0])) := (Blk.clk w 0 0 0 0 0).alloc _
  have Z1 : Hid (Blk ((w.alloc (.cells #[.int .i64 0, .int .i64 0, .int .i64 0, .int .i64 0, .int .i64 0] 36)).alloc (.cells #[.int .i64 0, .int .i64 0, .int .i64 0, .int .i64 0, .int .i64 0] 36)) (w.heap.size + 1) (vi [0, 0, 0, 0, 0])) := by
    have := Blk.clk (w.alloc (.cells #[.int .i64 0, .int .i64 0, .int .i64 0, .int .i64 0, .int .i64 0] 36)) 0 0 0 0 0
    simpa [Hid] using this
  rcases hq with rfl | ⟨rfl, rfl⟩ | ⟨rfl, rfl, e1, e2⟩
  all_goals
    go_enter Try.func32, Try.ntmps32
    go_wp2_with fail
    refine (R1.out _ (HI.out.below (B := 0) B0.out)).mono ?_
    rintro e w1 ⟨rfl, hb1⟩
    have Y0 := Lib.hid ((Z0.out.below hb1 (by simp; omega)).alloc (.cells #[.int .i64 n, .int .i64 c0, .int .i64 c1, .int .i64 c2, .int .i64 c3] 36))
    have Y1 := Lib.hid ((Z1.out.below hb1 (by simp)).alloc (.cells #[.int .i64 n, .int .i64 c0, .int .i64 c1, .int .i64 c2, .int .i64 c3] 36))
    have K1 := Lib.hid (Blk.clk w1 n c0 c1 c2 c3)
    have B1 := Lib.hid (B0.out.trans (hb1.mono B0.out.size))
    clear hb1
    go_wp2_with fail
    refine (R2.out _ (HI'.out.below (B := 0) (B1.out.alloc B1.out.size _))).mono ?_
    rintro e w2 ⟨rfl, hb2⟩
    obtain ⟨y00, y01, y02, y03, y04, y0f, y0l⟩ := (Y0.out.below hb2 Y0.out.lt).five
    obtain ⟨y10, y11, y12, y13, y14, y1f, y1l⟩ := (Y1.out.below hb2 Y1.out.lt).five
    obtain ⟨k10, k11, k12, k13, k14, k1f, k1l⟩ := (K1.out.below hb2 K1.out.lt).five
    have B2 := Lib.hid ((B1.out.alloc B1.out.size _).trans (hb2.mono (B1.out.alloc B1.out.size (.cells #[.int .i64 n, .int .i64 c0, .int .i64 c1, .int .i64 c2, .int .i64 c3] 36)).size))
    clear hb2 Y0 Y1 Z0 Z1 K1 R1 R2 HI HI' B0
    go_wp2
    have hB : Below w.heap.size w w2 := B2.out
    have hS := hB.size
    refine bodyPost_ret (v := .tuple #[.agg #[.int .i64 0, .int .i64 0, .int .i64 0, .int .i64 0, .int .i64 0], .agg #[.int .i64 0, .int .i64 0, .int .i64 0, .int .i64 0, .int .i64 0], .bool false])
      (by simp [results, Try.results32, go_sem, y00, y01, y02, y03, y04, y10, y11, y12, y13, y14, y0l, y1l]) rfl
      ⟨rfl, ?_⟩
    with_reducible refine Below.alloc ?_ ?_ _
    · repeat (first | (with_reducible exact hB) | (with_reducible refine Below.setCell ?_ ?_ _))
      all_goals simp
    · simpa using hS
end Go.Proofs.Ytiacnlnibapgpaa
