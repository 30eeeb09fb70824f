/- ClockSum of both sides; the law FnExactClockSum. -/
import Derived.Test.YtiacnlnibapgpaaH
import Derived.Test.YtiacnlnibapgpaaL
namespace Go.Proofs.Ytiacnlnibapgpaa
open Go.RowKit
set_option linter.unusedVariables false

def sumTo (xs : List Int) (k : Nat) : Int := (xs.take k).sum
def spSum (xs : List Int) : Int := if okB xs = true then xs.sum else -1
theorem sumTo_step (xs : List Int) (k : Nat) (hk : k < xs.length) : sumTo xs (k + 1) = sumTo xs k + xs.getD k 0 := by
  unfold sumTo
  rw [List.take_succ_eq_append_getElem hk, List.sum_append]
  simp [List.getD, hk]
theorem getD_good (xs : List Int) (k : Nat) (h : okB xs = true) (hk : k < xs.length) : 0 ≤ xs.getD k 0 ∧ xs.getD k 0 ≤ 100000 := by
  have := ((okB_iff xs).1 h).2.2 xs[k] (List.getElem_mem _)
  simpa [List.getD, hk] using this

set_option maxHeartbeats 400000 in
theorem specSum_some (b off cap n : Nat) (xs : List Int) (w : World) (hn : xs.length = n) (hi : Ints w (.slice (some ⟨b, off, none⟩) n cap) xs) (hok : okB xs = true)
    (hc : ∀ i, i < n → w.cell? ⟨b, off + i, none⟩ = some (.int .i64 (xs.getD i 0))) :
    Calls Try.prog 30 #[.slice (some ⟨b, off, none⟩) n cap] w fun e w' => e = .returned (.int .i64 (spSum xs)) ∧ w' = w := by
  have k1 := (okB_iff xs).1 hok
  have h4 : n ≤ 4 := by omega
  have hs := specOk_any _ xs w hi
  rw [hok] at hs
  have HS := Lib.hid hs
  have HN := Lib.hid hn
  have HO := Lib.hid hok
  clear hs hn hok k1 hi
  go_enter Try.func30, Try.ntmps30
  go_wp2_with fail
  refine HS.out.mono ?_
  rintro e w' ⟨rfl, rfl⟩
  go_wp2
  go_loop [3, 4] (fun t i => ∃ k : Nat, k ≤ n ∧ i = .int .i64 k ∧ ∃ s : Int, t = .int .i64 s ∧ Hid (s = sumTo xs k) ∧ 0 ≤ s ∧ s ≤ k * 100000) (fun _ i => n - (intOf i).toNat)
  case atStart => exact ⟨0, Nat.zero_le _, rfl, 0, rfl, by simp [Hid, sumTo], by omega, by omega⟩
  case round =>
    obtain ⟨k, hk, rfl, s, rfl, hs, s0, s1⟩ := hrel
    by_cases hlt : k < n
    · have hc1 := hc k hlt
      obtain ⟨x0, x1⟩ := getD_good xs k HO.out (by rw [HN.out]; exact hlt)
      have hst := sumTo_step xs k (by rw [HN.out]; exact hlt)
      obtain ⟨x, hx⟩ : ∃ x, xs.getD k 0 = x := ⟨_, rfl⟩
      rw [hx] at hc1 x0 x1 hst
      have HST := Lib.hid hst
      clear hx hst hc
      go_wp2
      go_round
      case rel => exact ⟨k + 1, by omega, by go_num, s + x, rfl, by show _ = _; rw [HST.out, hs.out], by omega, by omega⟩
      case measure => simp [intOf]; omega
    · have hkn : k = n := by omega
      subst hkn
      go_wp2
      go_ret
      refine ⟨ret_int ?_, rfl⟩
      rw [hs.out, spSum, if_pos HO.out, sumTo, List.take_of_length_le (by rw [HN.out]; omega)]

set_option maxHeartbeats 400000 in
theorem specSum_any (v : Value) (xs : List Int) (w : World) (h : Ints w v xs) :
    Calls Try.prog 30 #[v] w fun e w' => e = .returned (.int .i64 (spSum xs)) ∧ w' = w := by
  cases ho : okB xs with
  | true =>
    have hi := h
    rcases h with ⟨a, cap, rfl, rfl⟩ | ⟨b, off, cap, rfl, h1, h2, h3, h4⟩
    · have := (okB_iff _).1 ho; simp at this
    · exact specSum_some b off cap _ xs w rfl hi ho h4
  | false =>
    have hs := specOk_any _ xs w h
    rw [ho] at hs
    have HS := Lib.hid hs
    have HR := Lib.hid (show spSum xs = -1 by rw [spSum, if_neg (by simp [ho])])
    clear hs h ho
    go_enter Try.func30, Try.ntmps30
    go_wp2_with fail
    refine HS.out.mono ?_
    rintro e w' ⟨rfl, rfl⟩
    go_wp2
    go_ret
    exact ⟨ret_int HR.out.symm, rfl⟩

theorem cx_range (xs : List Int) (i : Nat) : 0 ≤ cx xs i ∧ cx xs i ≤ 100000 := by
  unfold cx
  split
  · rename_i h
    by_cases hi : i < xs.length
    · exact getD_good xs i h hi
    · rw [getD_out xs i (by omega)]; omega
  · omega
theorem sum_math (xs : List Int) (h : okB xs = true) : smk (cx xs 0) (cx xs 1) (cx xs 2) (cx xs 3) (cn xs).toNat = spSum xs := by
  have k1 := (okB_iff xs).1 h
  simp only [spSum, cn, cx, h, if_true, Int.toNat_natCast]
  match xs, k1 with
  | [], k => simp at k
  | [a], _ => simp [smk]
  | [a, b], _ => simp [smk]
  | [a, b, c], _ => simp [smk]; omega
  | [a, b, c, d], _ => simp [smk]; omega
  | a :: b :: c :: d :: e :: r, k => simp at k

set_option maxHeartbeats 400000 in
theorem ClockSum_any (v : Value) (xs : List Int) (w : World) (h : Ints w v xs) :
    Calls Try.prog 17 #[v] w fun e w' => e = .returned (.int .i64 (spSum xs)) ∧ Below w.heap.size w w' := by
  have hc := readClock_any v xs w h
  cases ho : okB xs with
  | false =>
    rw [ho] at hc
    have HR := Lib.hid (show spSum xs = -1 by rw [spSum, if_neg (by simp [ho])])
    have HC := Lib.hid hc
    clear h hc ho
    go_enter Try.func17, Try.ntmps17
    go_wp2_with fail
    refine HC.out.mono ?_
    rintro e w' ⟨rfl, hb⟩
    have HB := Lib.hid hb
    clear hb
    go_wp2
    go_ret
    exact ⟨ret_int HR.out.symm, HB.out.alloc HB.out.size _⟩
  | true =>
    rw [ho] at hc
    have hs := fun w => sum_any (cn xs) (cx xs 0) (cx xs 1) (cx xs 2) (cx xs 3) w (cn_range xs).1 (cn_range xs).2 (cx_range xs 0) (cx_range xs 1) (cx_range xs 2) (cx_range xs 3)
    rw [sum_math xs ho] at hs
    have HC := Lib.hid hc
    have HS := Lib.hid hs
    clear h hc ho hs
    generalize spSum xs = r at *
    generalize cn xs = n at *
    generalize cx xs 0 = c0 at *
    generalize cx xs 1 = c1 at *
    generalize cx xs 2 = c2 at *
    generalize cx xs 3 = c3 at *
    go_enter Try.func17, Try.ntmps17
    go_wp2_with fail
    refine HC.out.mono ?_
    rintro e w1 ⟨rfl, hb⟩
    have B1 := Lib.hid (hb.alloc hb.size (.cells #[.int .i64 n, .int .i64 c0, .int .i64 c1, .int .i64 c2, .int .i64 c3] 36))
    clear hb
    go_wp2_with fail
    refine (HS.out _).mono ?_
    rintro e w2 ⟨rfl, hb2⟩
    have B2 := Lib.hid (B1.out.trans (hb2.mono B1.out.size))
    clear hb2
    go_wp2
    go_ret
    exact ⟨rfl, B2.out⟩

set_option maxHeartbeats 400000 in
theorem law_sum (v : Value) (a : Option Addr) (len cap : Nat) (xs : List Int) (w : World) (hv : v = .slice a len cap) (hl : xs.length = len) (hm : len ≤ 9223372036854775807) (h : Ints w v xs) :
    Calls Try.prog 9 #[v] w fun e w' => e = .returned (.bool true) ∧ Below w.heap.size w w' := by
  by_cases hn : len ≤ 1048576
  · have HI := Lib.hid h
    have HS := Lib.hid (show xs.length ≤ 1048576 by omega)
    clear h hl
    subst hv
    have e1 : (spSum xs != spSum xs) = false := by simp
    have e2 : (spSum xs == spSum xs) = true := by simp
    go_enter Try.func9, Try.ntmps9
    go_wp2_with fail
    refine (toInts _ xs _ HI.out HS.out).mono ?_
    rintro e w1 ⟨rfl, i1, b1⟩
    have I1 := Lib.hid i1
    have B1 := Lib.hid b1
    clear i1 b1
    go_wp2_with fail
    refine (specSum_any _ xs _ I1.out).mono ?_
    rintro e w2 ⟨rfl, rfl⟩
    go_wp2_with fail
    refine (toInts _ xs _ (HI.out.below (B := 0) B1.out) HS.out).mono ?_
    rintro e w3 ⟨rfl, i3, b3⟩
    have I3 := Lib.hid i3
    have B3 := Lib.hid (B1.out.trans (b3.mono B1.out.size))
    clear i3 b3
    go_wp2_with fail
    refine (ClockSum_any _ xs _ I3.out).mono ?_
    rintro e w4 ⟨rfl, b4⟩
    have I4 := Lib.hid (I3.out.below (B := 0) b4)
    have B4 := Lib.hid (B3.out.trans (b4.mono B3.out.size))
    clear b4
    go_wp2_with fail
    refine (toInts _ xs _ (HI.out.below (B := 0) B4.out) HS.out).mono ?_
    rintro e w5 ⟨rfl, i5, b5⟩
    have I5 := Lib.hid i5
    have J5 := Lib.hid (I4.out.below (B := 0) b5)
    have B5 := Lib.hid (B4.out.trans (b5.mono B4.out.size))
    clear i5 b5
    go_wp2_with fail
    refine (eqIntS_any _ _ xs xs _ J5.out I5.out).mono ?_
    rintro e w6 ⟨rfl, q, rfl⟩
    have ee : eqB xs xs = true := by simp [eqB]
    go_wp2
    go_ret
    exact ⟨rfl, below_drewN B5.out q⟩
  · subst hv
    clear h hl
    go_enter Try.func9, Try.ntmps9
    go_wp2
    go_ret
    exact ⟨rfl, Below.refl _ _⟩
end Go.Proofs.Ytiacnlnibapgpaa
