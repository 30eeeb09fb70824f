/- ClockMax and ClockMin of the program. -/
import Derived.Test.YtkcfcmigcphjlaaGreatOM
import Derived.Test.YtkcfcmigcphjlaaGreatGC


namespace Go.Proofs.YtkcfcmigcphjlaaGreat
open Go.RowKit
set_option linter.unusedVariables false

theorem max_math (xs ys : List Int) (hb : bothB xs ys = true) : ∃ (n : Nat) (x0 x1 x2 x3 : Int), n ≤ 4 ∧ 1 ≤ n ∧ cn xs = n ∧ mxk (cn xs) (cx xs 0) (cx xs 1) (cx xs 2) (cx xs 3) (cx ys 0) (cx ys 1) (cx ys 2) (cx ys 3) (cn xs).toNat = [(n : Int), x0, x1, x2, x3] ∧ [x0, x1, x2, x3].take n = List.zipWith mx xs ys ∧ (List.zipWith mx xs ys).length = n := by
  simp only [bothB, Bool.and_eq_true, decide_eq_true_eq] at hb
  obtain ⟨⟨o1, o2⟩, ol⟩ := hb
  have k1 := (okB_iff xs).1 o1
  refine ⟨xs.length, _, _, _, _, k1.2.1, k1.1, by simp [cn, o1], by simp only [mxk, cn, o1, if_true]; rfl, ?_, by simp; omega⟩
  simp only [cx, o1, o2, if_true, Int.toNat_natCast]
  match xs, ys, ol, k1 with
  | [], _, _, k => simp at k
  | [a], [a'], _, _ => simp
  | [a, b], [a', b'], _, _ => simp
  | [a, b, c], [a', b', c'], _, _ => simp
  | [a, b, c, d], [a', b', c', d'], _, _ => simp
  | a :: b :: c :: d :: e :: r, _, _, k => simp at k

set_option maxHeartbeats 800000 in
theorem ClockMax_any (v v' : Value) (xs ys : List Int) (w : World) (h : Ints w v xs) (h' : Ints w v' ys) :
    Calls Tryz.prog 25 #[v, v'] w (Made w (spMax xs ys)) := by
  cases hb : bothB xs ys with
  | false =>
    have HP := Lib.hid (readPair_no v v' xs ys w h h' _ _ _ _ _ _ _ _ _ _ ⟨rfl, rfl, rfl, rfl, rfl⟩ ⟨rfl, rfl, rfl, rfl, rfl⟩ hb)
    rw [show spMax xs ys = [] by rw [spMax, if_neg (by simp [hb])]]
    clear h h' hb
    go_enter Tryz.func25, Tryz.ntmps25
    go_wp2_with fail
    refine HP.out.mono ?_
    rintro e w1 ⟨rfl, hb1⟩
    have B1 := Lib.hid hb1
    clear hb1
    go_wp2
    go_ret
    exact ⟨w.heap.size, _, rfl, Nat.le_refl _, .inl ⟨_, _, rfl, rfl⟩, (B1.out.alloc B1.out.size _).alloc (by have := B1.out.size; simp; omega) _⟩
  | true =>
    have HP := Lib.hid (readPair_any v v' xs ys w h h' _ _ _ _ _ _ _ _ _ _ ⟨rfl, rfl, rfl, rfl, rfl⟩ ⟨rfl, rfl, rfl, rfl, rfl⟩ hb)
    rw [show spMax xs ys = List.zipWith mx xs ys by rw [spMax, if_pos hb]]
    obtain ⟨n, x0, x1, x2, x3, h4, h1, hn, hm, ht, hlen⟩ := max_math xs ys hb
    have hg := fun w => greater_any (cn xs) (cx xs 0) (cx xs 1) (cx xs 2) (cx xs 3) (cx ys 0) (cx ys 1) (cx ys 2) (cx ys 3) (cn ys) (.agg #[.int .i64 n, .int .i64 x0, .int .i64 x1, .int .i64 x2, .int .i64 x3]) (by rw [hm]; rfl) w (cn_range xs).1 (cn_range xs).2
    have hl := fun w => list_any n x0 x1 x2 x3 w h4
    rw [ht] at hl
    have HG := Lib.hid hg
    have HL := Lib.hid hl
    have HLEN := Lib.hid hlen
    clear h h' hb hg hl hm ht hn hlen
    generalize List.zipWith mx xs ys = M at *
    generalize cn xs = p at *
    generalize cx xs 0 = c0 at *
    generalize cx xs 1 = c1 at *
    generalize cx xs 2 = c2 at *
    generalize cx xs 3 = c3 at *
    generalize cn ys = m at *
    generalize cx ys 0 = d0 at *
    generalize cx ys 1 = d1 at *
    generalize cx ys 2 = d2 at *
    generalize cx ys 3 = d3 at *
    go_enter Tryz.func25, Tryz.ntmps25
    go_wp2_with fail
    refine HP.out.mono ?_
    rintro e w1 ⟨rfl, hb1⟩
    have B1 := Lib.hid ((hb1.alloc hb1.size (.cells #[.int .i64 p, .int .i64 c0, .int .i64 c1, .int .i64 c2, .int .i64 c3] 55)).alloc (by have := hb1.size; simp; omega) (.cells #[.int .i64 m, .int .i64 d0, .int .i64 d1, .int .i64 d2, .int .i64 d3] 55))
    clear hb1
    go_wp2_with fail
    refine (HG.out _).mono ?_
    rintro e w2 ⟨rfl, hb2⟩
    have B2 := Lib.hid (B1.out.trans (hb2.mono B1.out.size))
    clear hb2
    go_wp2_with fail
    refine (HL.out _).mono ?_
    rintro e w3 ⟨rfl, ho, hb3⟩
    have B3 := Lib.hid (B2.out.trans (hb3.mono B2.out.size))
    have HO := Lib.hid ho
    clear hb3 ho
    go_wp2
    go_ret
    have hlen := HLEN.out
    subst hlen
    refine ⟨w2.heap.size + 1, _, rfl, by have := B2.out.size; omega, .inr ⟨by omega, M.length, rfl, ?_⟩, B3.out⟩
    exact ⟨by simp [vi], .inr ⟨_, _, _, rfl, Nat.le_refl _, HO.out, Nat.le_refl _, by unfold maxLen; omega, by simp [vi], by simp only [vi]; exact List.take_of_length_le (by simp)⟩⟩
end Go.Proofs.YtkcfcmigcphjlaaGreat
