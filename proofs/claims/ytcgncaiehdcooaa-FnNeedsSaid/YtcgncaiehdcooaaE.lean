/- The reference's l1both, l1leq, ClockLeq, Beside, ClockSum. -/
import Derived.Test.YtcgncaiehdcooaaMem
namespace Go.Proofs.Ytcgncaiehdcooaa
open Go.RowKit
set_option linter.unusedVariables false
def bothB (xs ys : List Int) : Bool := okB xs && okB ys && decide (xs.length = ys.length)
def leqB (xs ys : List Int) : Bool := (List.range xs.length).all fun i => decide (xs.getD i 0 ≤ ys.getD i 0)

theorem leqB_iff (xs ys : List Int) : leqB xs ys = true ↔ ∀ i, i < xs.length → xs.getD i 0 ≤ ys.getD i 0 := by
  simp [leqB]
theorem leqB_bad (xs ys : List Int) (k : Nat) (hk : k < xs.length) (h : ¬ xs.getD k 0 ≤ ys.getD k 0) : leqB xs ys = false := by
  cases e : leqB xs ys with
  | false => rfl
  | true => exact absurd ((leqB_iff xs ys).1 e k hk) h

set_option maxHeartbeats 400000 in
theorem both_any (v v' : Value) (xs ys : List Int) (w : World) (h : Ints w v xs) (h' : Ints w v' ys) :
    Calls Try.prog 68 #[v, v'] w fun e w' => e = .returned (.bool (bothB xs ys)) ∧ w' = w := by
  have HI := Lib.hid h
  have HI' := Lib.hid h'
  have m1 := ints_max h
  have m2 := ints_max h'
  obtain ⟨a, cap, rfl⟩ := ints_len h
  obtain ⟨a', cap', rfl⟩ := ints_len h'
  clear h h'
  cases b1 : okB xs with
  | false =>
    have hr : bothB xs ys = false := by simp [bothB, b1]
    have HR := Lib.hid hr
    have hb := specOk_any _ xs w HI.out
    rw [b1] at hb
    have HB := Lib.hid hb
    clear hr hb b1
    go_enter Try.func68, Try.ntmps68
    go_wp2_with fail
    refine HB.out.mono ?_
    rintro e w' ⟨rfl, rfl⟩
    go_wp2
    go_ret
    exact ⟨ret_bool HR.out.symm, rfl⟩
  | true =>
    have hb := specOk_any _ xs w HI.out
    rw [b1] at hb
    have HB := Lib.hid hb
    cases b2 : okB ys with
    | false =>
      have hr : bothB xs ys = false := by simp [bothB, b2]
      have HR := Lib.hid hr
      have hb' := specOk_any _ ys w HI'.out
      rw [b2] at hb'
      have HB' := Lib.hid hb'
      clear hr hb hb' b1 b2
      go_enter Try.func68, Try.ntmps68
      go_wp2_with fail
      refine HB.out.mono ?_
      rintro e w' ⟨rfl, rfl⟩
      go_wp2_with fail
      refine HB'.out.mono ?_
      rintro e w' ⟨rfl, rfl⟩
      go_wp2
      go_ret
      exact ⟨ret_bool HR.out.symm, rfl⟩
    | true =>
      have hr : bothB xs ys = decide (xs.length = ys.length) := by simp [bothB, b1, b2]
      have HR := Lib.hid hr
      have hb' := specOk_any _ ys w HI'.out
      rw [b2] at hb'
      have HB' := Lib.hid hb'
      clear hr hb hb' b1 b2
      have ed : ((xs.length : Int) == (ys.length : Int)) = decide (xs.length = ys.length) := by
        rw [Bool.eq_iff_iff]; simp; omega
      have ED := Lib.hid ed
      clear ed
      generalize xs.length = n at *
      generalize ys.length = m at *
      go_enter Try.func68, Try.ntmps68
      go_wp2_with fail
      refine HB.out.mono ?_
      rintro e w' ⟨rfl, rfl⟩
      go_wp2_with fail
      refine HB'.out.mono ?_
      rintro e w' ⟨rfl, rfl⟩
      go_wp2
      go_ret
      exact ⟨ret_bool (by rw [HR.out]; first | exact ED.out | rfl), rfl⟩

set_option maxHeartbeats 400000 in
theorem leqS_some (b off cap b' off' cap' n m : Nat) (xs ys : List Int) (w : World) (hn : xs.length = n) (hm : ys.length = n) (hl : n ≤ 9223372036854775807)
    (hc : ∀ i, i < n → w.cell? ⟨b, off + i, none⟩ = some (.int .i64 (xs.getD i 0))) (hc' : ∀ i, i < n → w.cell? ⟨b', off' + i, none⟩ = some (.int .i64 (ys.getD i 0))) :
    Calls Try.prog 72 #[.slice (some ⟨b, off, none⟩) n cap, .slice (some ⟨b', off', none⟩) n cap'] w fun e w' =>
      e = .returned (.bool (leqB xs ys)) ∧ ∃ q, w' = w.drewN q := by
  have HN := Lib.hid hn
  have HM := Lib.hid hm
  clear hn hm
  go_enter Try.func72, Try.ntmps72
  go_wp2
  go_loopw [5] (fun i wr => ∃ k q : Nat, k ≤ n ∧ i = .int .i64 k ∧ Hid (∀ j, j < k → xs.getD j 0 ≤ ys.getD j 0) ∧ wr = w.drewN q) (fun i _ => n - (intOf i).toNat)
  case atStart => exact ⟨0, 0, Nat.zero_le _, rfl, by simp [Hid], rfl⟩
  case round =>
    obtain ⟨k, q, hk, rfl, hg, rfl⟩ := hrel
    by_cases hlt : k < n
    · have hc1 := hc k hlt
      have hc2 := hc' k hlt
      clear hc hc'
      obtain ⟨x, hx⟩ : ∃ x, xs.getD k 0 = x := ⟨_, rfl⟩
      obtain ⟨y, hy⟩ : ∃ y, ys.getD k 0 = y := ⟨_, rfl⟩
      rw [hx] at hc1
      rw [hy] at hc2
      have HX := Lib.hid hx
      have HY := Lib.hid hy
      clear hx hy
      have i0 : (0 : Int) ≤ k := by omega
      have i1 : (k : Int) < n := by omega
      by_cases hx0 : x ≤ y
      · have e1 : decide (y < x) = false := by simp; omega
        have hstep : Hid (∀ j, j < k + 1 → xs.getD j 0 ≤ ys.getD j 0) := by
          intro j hj
          by_cases hjk : j < k
          · exact hg.out j hjk
          · have : j = k := by omega
            subst this
            rw [HX.out, HY.out]; exact hx0
        go_wp2
        go_quiet (fail)
        go_wp2
        go_roundw
        case rel => exact ⟨k + 1, _, by omega, by go_num, hstep, rfl⟩
        case measure => simp [intOf]; omega
      · have e1 : decide (y < x) = true := by simp; omega
        go_wp2
        go_quiet (fail)
        go_wp2
        go_ret
        exact ⟨ret_bool (leqB_bad xs ys k (by rw [HN.out]; exact hlt) (by rw [HX.out, HY.out]; omega)).symm, _, World.drewN_drewN ..⟩
    · go_wp2
      go_ret
      exact ⟨ret_bool ((leqB_iff xs ys).2 (fun i hi => hg.out i (by rw [HN.out] at hi; omega))).symm, q, rfl⟩

/-- of two lists that are clocks for as many places -/
theorem leqS_any (v v' : Value) (xs ys : List Int) (w : World) (h : Ints w v xs) (h' : Ints w v' ys) (hb : bothB xs ys = true) :
    Calls Try.prog 72 #[v, v'] w fun e w' => e = .returned (.bool (leqB xs ys)) ∧ ∃ q, w' = w.drewN q := by
  simp only [bothB, Bool.and_eq_true, decide_eq_true_eq] at hb
  have k1 := (okB_iff xs).1 hb.1.1
  rcases h with ⟨a, cap, rfl, rfl⟩ | ⟨b, off, cap, rfl, h1, h2, h3, h4⟩
  · simp at k1
  · rcases h' with ⟨a', cap', rfl, rfl⟩ | ⟨b', off', cap', rfl, h1', h2', h3', h4'⟩
    · have := hb.2
      simp only [List.length_nil] at this
      omega
    · rw [← hb.2]
      exact leqS_some _ _ _ _ _ _ _ 0 xs ys w rfl hb.2.symm (by unfold maxLen at h3; omega) h4 (by rw [hb.2]; exact h4')

def spLeq (xs ys : List Int) : Bool := bothB xs ys && leqB xs ys
def spBeside (xs ys : List Int) : Bool := bothB xs ys && !leqB xs ys && !leqB ys xs
theorem bothB_symm (xs ys : List Int) : bothB xs ys = bothB ys xs := by
  have h : decide (xs.length = ys.length) = decide (ys.length = xs.length) := by rw [Bool.eq_iff_iff]; simp; omega
  simp only [bothB]
  rw [Bool.and_comm (okB xs), h]

end Go.Proofs.Ytcgncaiehdcooaa
