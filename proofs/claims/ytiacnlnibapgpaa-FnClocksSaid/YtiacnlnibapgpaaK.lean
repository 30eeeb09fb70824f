/- ClockLeq, Beside. -/
import Derived.Test.YtiacnlnibapgpaaJ
namespace Go.Proofs.Ytiacnlnibapgpaa
open Go.RowKit
set_option linter.unusedVariables false

theorem getD_out (xs : List Int) (i : Nat) (h : xs.length ≤ i) : xs.getD i 0 = 0 := by
  simp [List.getD, List.getElem?_eq_none h]
theorem mx_eq (x y : Int) : mx x y = y ↔ x ≤ y := by
  unfold mx; split <;> omega
theorem leq_math (xs ys : List Int) (hb : bothB xs ys = true) :
    eqB ((mxk (cn xs) (cx xs 0) (cx xs 1) (cx xs 2) (cx xs 3) (cx ys 0) (cx ys 1) (cx ys 2) (cx ys 3) (cn xs).toNat).drop 1) [cx ys 0, cx ys 1, cx ys 2, cx ys 3] = leqB xs ys := by
  simp only [bothB, Bool.and_eq_true, decide_eq_true_eq] at hb
  obtain ⟨⟨o1, o2⟩, ol⟩ := hb
  have k1 := (okB_iff xs).1 o1
  simp only [cn, cx, o1, o2, if_true, Int.toNat_natCast]
  rw [Bool.eq_iff_iff, leqB_iff]
  simp only [eqB, mxk, decide_eq_true_eq, List.drop_succ_cons, List.drop_zero, List.cons.injEq, and_true]
  have key : ∀ i, (if i < xs.length then mx (xs.getD i 0) (ys.getD i 0) else xs.getD i 0) = ys.getD i 0 ↔ (i < xs.length → xs.getD i 0 ≤ ys.getD i 0) := by
    intro i
    by_cases hi : i < xs.length
    · rw [if_pos hi, mx_eq]; exact ⟨fun h _ => h, fun h => h hi⟩
    · rw [if_neg hi, getD_out xs i (by omega), getD_out ys i (by omega)]; exact ⟨fun _ h => absurd h hi, fun _ => rfl⟩
  rw [key 0, key 1, key 2, key 3]
  constructor
  · rintro ⟨h0, h1, h2, h3⟩ i hi
    match i with
    | 0 => exact h0 hi
    | 1 => exact h1 hi
    | 2 => exact h2 hi
    | 3 => exact h3 hi
    | i + 4 => omega
  · intro h
    exact ⟨h 0, h 1, h 2, h 3⟩
theorem cn_range (xs : List Int) : 0 ≤ cn xs ∧ cn xs ≤ 4 := by
  unfold cn
  split
  · rename_i h
    have := (okB_iff xs).1 h
    omega
  · omega

set_option maxHeartbeats 800000 in
theorem ClockLeq_any (v v' : Value) (xs ys : List Int) (w : World) (h : Ints w v xs) (h' : Ints w v' ys) :
    Calls Try.prog 16 #[v, v'] w fun e w' => e = .returned (.bool (spLeq xs ys)) ∧ Below w.heap.size w w' := by
  cases hb : bothB xs ys with
  | false =>
    have HP := Lib.hid (readPair_no v v' xs ys w h h' _ _ _ _ _ _ _ _ _ _ ⟨rfl, rfl, rfl, rfl, rfl⟩ ⟨rfl, rfl, rfl, rfl, rfl⟩ hb)
    have HR := Lib.hid (show spLeq xs ys = false by simp [spLeq, hb])
    clear h h' hb
    go_enter Try.func16, Try.ntmps16
    go_wp2_with fail
    refine HP.out.mono ?_
    rintro e w1 ⟨rfl, hb1⟩
    have B1 := Lib.hid hb1
    clear hb1
    go_wp2
    go_ret
    refine ⟨ret_bool HR.out.symm, ?_⟩
    exact (B1.out.alloc B1.out.size _).alloc (by have := B1.out.size; simp; omega) _
  | true =>
    have HP := Lib.hid (readPair_any v v' xs ys w h h' _ _ _ _ _ _ _ _ _ _ ⟨rfl, rfl, rfl, rfl, rfl⟩ ⟨rfl, rfl, rfl, rfl, rfl⟩ hb)
    have HR := Lib.hid (show spLeq xs ys = leqB xs ys by simp [spLeq, hb])
    have hl := fun w => leq_any (cn xs) (cx xs 0) (cx xs 1) (cx xs 2) (cx xs 3) (cx ys 0) (cx ys 1) (cx ys 2) (cx ys 3) (cn ys) w (cn_range xs).1 (cn_range xs).2
    simp only [leq_math xs ys hb] at hl
    have HL := Lib.hid hl
    clear h h' hb hl
    generalize leqB xs ys = r at *
    generalize cn xs = n at *
    generalize cx xs 0 = c0 at *
    generalize cx xs 1 = c1 at *
    generalize cx xs 2 = c2 at *
    generalize cx xs 3 = c3 at *
    generalize cn ys = m at *
    generalize cx ys 0 = d0 at *
    generalize cx ys 1 = d1 at *
    generalize cx ys 2 = d2 at *
    generalize cx ys 3 = d3 at *
    go_enter Try.func16, Try.ntmps16
    go_wp2_with fail
    refine HP.out.mono ?_
    rintro e w1 ⟨rfl, hb1⟩
    have B1 := Lib.hid ((hb1.alloc hb1.size (.cells #[.int .i64 n, .int .i64 c0, .int .i64 c1, .int .i64 c2, .int .i64 c3] 36)).alloc (by have := hb1.size; simp; omega) (.cells #[.int .i64 m, .int .i64 d0, .int .i64 d1, .int .i64 d2, .int .i64 d3] 36))
    clear hb1
    go_wp2_with fail
    refine (HL.out _).mono ?_
    rintro e w2 ⟨rfl, hb2⟩
    have B2 := Lib.hid (B1.out.trans (hb2.mono B1.out.size))
    clear hb2
    go_wp2
    go_ret
    exact ⟨ret_bool HR.out.symm, B2.out⟩

set_option maxHeartbeats 800000 in
theorem Beside_any (v v' : Value) (xs ys : List Int) (w : World) (h : Ints w v xs) (h' : Ints w v' ys) :
    Calls Try.prog 20 #[v, v'] w fun e w' => e = .returned (.bool (spBeside xs ys)) ∧ Below w.heap.size w w' := by
  cases hb : bothB xs ys with
  | false =>
    have HP := Lib.hid (readPair_no v v' xs ys w h h' _ _ _ _ _ _ _ _ _ _ ⟨rfl, rfl, rfl, rfl, rfl⟩ ⟨rfl, rfl, rfl, rfl, rfl⟩ hb)
    have HR := Lib.hid (show spBeside xs ys = false by simp [spBeside, hb])
    clear h h' hb
    go_enter Try.func20, Try.ntmps20
    go_wp2_with fail
    refine HP.out.mono ?_
    rintro e w1 ⟨rfl, hb1⟩
    have B1 := Lib.hid hb1
    clear hb1
    go_wp2
    go_ret
    refine ⟨ret_bool HR.out.symm, ?_⟩
    exact (B1.out.alloc B1.out.size _).alloc (by have := B1.out.size; simp; omega) _
  | true =>
    have HP := Lib.hid (readPair_any v v' xs ys w h h' _ _ _ _ _ _ _ _ _ _ ⟨rfl, rfl, rfl, rfl, rfl⟩ ⟨rfl, rfl, rfl, rfl, rfl⟩ hb)
    have HR := Lib.hid (show spBeside xs ys = (!leqB xs ys && !leqB ys xs) by simp [spBeside, hb])
    have hl := fun w => leq_any (cn xs) (cx xs 0) (cx xs 1) (cx xs 2) (cx xs 3) (cx ys 0) (cx ys 1) (cx ys 2) (cx ys 3) (cn ys) w (cn_range xs).1 (cn_range xs).2
    have hl2 := fun w => leq_any (cn ys) (cx ys 0) (cx ys 1) (cx ys 2) (cx ys 3) (cx xs 0) (cx xs 1) (cx xs 2) (cx xs 3) (cn xs) w (cn_range ys).1 (cn_range ys).2
    simp only [leq_math xs ys hb] at hl
    simp only [leq_math ys xs (by rw [bothB_symm]; exact hb)] at hl2
    have HL := Lib.hid hl
    have HL2 := Lib.hid hl2
    clear h h' hb hl hl2
    generalize leqB ys xs = r2 at *
    generalize cn xs = n at *
    generalize cx xs 0 = c0 at *
    generalize cx xs 1 = c1 at *
    generalize cx xs 2 = c2 at *
    generalize cx xs 3 = c3 at *
    generalize cn ys = m at *
    generalize cx ys 0 = d0 at *
    generalize cx ys 1 = d1 at *
    generalize cx ys 2 = d2 at *
    generalize cx ys 3 = d3 at *
    cases hr : leqB xs ys with
    | true =>
      rw [hr] at HL HR
      clear hr
      go_enter Try.func20, Try.ntmps20
      go_wp2_with fail
      refine HP.out.mono ?_
      rintro e w1 ⟨rfl, hb1⟩
      have B1 := Lib.hid ((hb1.alloc hb1.size (.cells #[.int .i64 n, .int .i64 c0, .int .i64 c1, .int .i64 c2, .int .i64 c3] 36)).alloc (by have := hb1.size; simp; omega) (.cells #[.int .i64 m, .int .i64 d0, .int .i64 d1, .int .i64 d2, .int .i64 d3] 36))
      clear hb1
      go_wp2_with fail
      refine (HL.out _).mono ?_
      rintro e w2 ⟨rfl, hb2⟩
      have B2 := Lib.hid (B1.out.trans (hb2.mono B1.out.size))
      clear hb2
      go_wp2
      go_ret
      exact ⟨ret_bool (by rw [HR.out]; simp), B2.out⟩
    | false =>
      rw [hr] at HL HR
      clear hr
      go_enter Try.func20, Try.ntmps20
      go_wp2_with fail
      refine HP.out.mono ?_
      rintro e w1 ⟨rfl, hb1⟩
      have K1 := Lib.hid ((Blk.clk w1 n c0 c1 c2 c3).alloc (.cells #[.int .i64 m, .int .i64 d0, .int .i64 d1, .int .i64 d2, .int .i64 d3] 36))
      have K2 : Hid (Blk ((w1.alloc (.cells #[.int .i64 n, .int .i64 c0, .int .i64 c1, .int .i64 c2, .int .i64 c3] 36)).alloc (.cells #[.int .i64 m, .int .i64 d0, .int .i64 d1, .int .i64 d2, .int .i64 d3] 36)) (w1.heap.size + 1) (vi [m, d0, d1, d2, d3])) := by
        have := Blk.clk (w1.alloc (.cells #[.int .i64 n, .int .i64 c0, .int .i64 c1, .int .i64 c2, .int .i64 c3] 36)) m d0 d1 d2 d3
        simpa [Hid] using this
      have B1 := Lib.hid ((hb1.alloc hb1.size (.cells #[.int .i64 n, .int .i64 c0, .int .i64 c1, .int .i64 c2, .int .i64 c3] 36)).alloc (by have := hb1.size; simp; omega) (.cells #[.int .i64 m, .int .i64 d0, .int .i64 d1, .int .i64 d2, .int .i64 d3] 36))
      clear hb1
      go_wp2_with fail
      refine (HL.out _).mono ?_
      rintro e w2 ⟨rfl, hb2⟩
      have B2 := Lib.hid (B1.out.trans (hb2.mono B1.out.size))
      obtain ⟨k10, k11, k12, k13, k14, k1f, k1l⟩ := (K1.out.below hb2 K1.out.lt).five
      obtain ⟨k20, k21, k22, k23, k24, k2f, k2l⟩ := (K2.out.below hb2 K2.out.lt).five
      clear hb2 K1 K2
      go_wp2_with fail
      refine (HL2.out _).mono ?_
      rintro e w3 ⟨rfl, hb3⟩
      have B3 := Lib.hid (B2.out.trans (hb3.mono B2.out.size))
      clear hb3
      go_wp2
      go_ret
      exact ⟨ret_bool (by rw [HR.out]; simp), B3.out⟩

end Go.Proofs.Ytiacnlnibapgpaa
