/- The program's isIn, right, fits, maskFits, upsFit. -/
import Derived.Test.YtcgncaiehdcooaaAG
import Derived.Deep.QuietTactic
namespace Go.Proofs.Ytcgncaiehdcooaa
open Go.RowKit
set_option linter.unusedVariables false

def inB (n lo hi : Int) : Bool := decide (lo ≤ n) && decide (n ≤ hi)
theorem inB_yes {n lo hi : Int} (h1 : lo ≤ n) (h2 : n ≤ hi) : inB n lo hi = true := by simp [inB, h1, h2]
theorem inB_low {n lo hi : Int} (h1 : ¬ lo ≤ n) : inB n lo hi = false := by simp [inB, h1]
theorem inB_high {n lo hi : Int} (h1 : ¬ n ≤ hi) : inB n lo hi = false := by simp [inB, h1]
theorem inB_no {n lo hi : Int} (h : ¬ (lo ≤ n ∧ n ≤ hi)) : inB n lo hi = false := by
  by_cases h1 : lo ≤ n
  · exact inB_high fun h2 => h ⟨h1, h2⟩
  · exact inB_low h1

theorem isIn_any (n lo hi : Int) (w : World) :
    Calls Try.prog 97 #[.int .i64 n, .int .i64 lo, .int .i64 hi] w fun e w' => e = .returned (.bool (inB n lo hi)) ∧ w' = w := by
  by_cases h1 : lo ≤ n
  · by_cases h2 : n ≤ hi
    · have e : inB n lo hi = true := inB_yes h1 h2
      rw [e]
      clear e
      go_enter Try.func97, Try.ntmps97
      go_wp2
      go_ret
      exact ⟨rfl, rfl⟩
    · have e : inB n lo hi = false := inB_high h2
      rw [e]
      clear e
      go_enter Try.func97, Try.ntmps97
      go_wp2
      go_ret
      exact ⟨rfl, rfl⟩
  · have e : inB n lo hi = false := inB_low h1
    rw [e]
    clear e
    go_enter Try.func97, Try.ntmps97
    go_wp2
    go_ret
    exact ⟨rfl, rfl⟩

/-- the right that an up of a kind wants -/
def rightM (k : Int) : Int := if k = 1 then 2 else if k = 3 then 2 else if k = 4 then 2 else if k = 2 then 4 else 0

theorem right_any (k b y v : Int) (w : World) :
    Calls Try.prog 67 #[.agg #[.int .i64 k, .int .i64 b, .int .i64 y, .int .i64 v]] w fun e w' => e = .returned (.int .i64 (rightM k)) ∧ Below w.heap.size w w' := by
  by_cases h1 : k = 1
  · subst h1
    go_enter Try.func67, Try.ntmps67
    go_wp2
    go_ret
    exact ⟨rfl, (Below.refl _ _).alloc (Nat.le_refl _) _⟩
  · by_cases h3 : k = 3
    · subst h3
      go_enter Try.func67, Try.ntmps67
      go_wp2
      go_ret
      exact ⟨rfl, (Below.refl _ _).alloc (Nat.le_refl _) _⟩
    · by_cases h4 : k = 4
      · subst h4
        go_enter Try.func67, Try.ntmps67
        go_wp2
        go_ret
        exact ⟨rfl, (Below.refl _ _).alloc (Nat.le_refl _) _⟩
      · by_cases h2 : k = 2
        · subst h2
          go_enter Try.func67, Try.ntmps67
          go_wp2
          go_ret
          exact ⟨rfl, (Below.refl _ _).alloc (Nat.le_refl _) _⟩
        · have e : rightM k = 0 := by simp [rightM, h1, h2, h3, h4]
          rw [e]
          have e1 : (k == 1) = false := by simpa using h1
          have e2 : (k == 2) = false := by simpa using h2
          have e3 : (k == 3) = false := by simpa using h3
          have e4 : (k == 4) = false := by simpa using h4
          clear h1 h2 h3 h4 e
          go_enter Try.func67, Try.ntmps67
          go_wp2
          go_ret
          exact ⟨rfl, (Below.refl _ _).alloc (Nat.le_refl _) _⟩

theorem right_zero (k : Int) : (rightM k != 0) = (decide (1 ≤ k) && decide (k ≤ 4)) := by
  unfold rightM
  by_cases h1 : k = 1
  · subst h1; rfl
  · by_cases h3 : k = 3
    · subst h3; rfl
    · by_cases h4 : k = 4
      · subst h4; rfl
      · by_cases h2 : k = 2
        · subst h2; rfl
        · simp only [h1, h2, h3, h4, if_false]
          have : ¬ (1 ≤ k ∧ k ≤ 4) := by omega
          simp only [bne_self_eq_false]
          by_cases g : 1 ≤ k
          · have g2 : ¬ k ≤ 4 := fun g2 => this ⟨g, g2⟩
            simp [g2]
          · simp [g]
theorem okUp_eq (u : UpM) : okUp u = ((rightM u.kind != 0) && inB u.bucket 0 2 && inB u.key 0 3) := by
  rw [right_zero]
  have e1 : decide (u.bucket < 3) = decide (u.bucket ≤ 2) := decide_eq_decide.2 (by omega)
  have e2 : decide (u.key < 4) = decide (u.key ≤ 3) := decide_eq_decide.2 (by omega)
  simp only [okUp, inB, e1, e2, Bool.and_assoc]

set_option maxHeartbeats 400000 in
theorem upFits_any (k b y v : Int) (w : World) :
    Calls Try.prog 150 #[.agg #[.int .i64 k, .int .i64 b, .int .i64 y, .int .i64 v]] w fun e w' => e = .returned (.bool (okUp ⟨k, b, y, v⟩)) ∧ Below w.heap.size w w' := by
  rw [okUp_eq]
  have HR := Lib.hid (fun w => right_any k b y v w)
  generalize rightM k = r at *
  have B0 := Lib.hid ((Below.refl w.heap.size w).alloc (Nat.le_refl _) (.cells #[.int .i64 k, .int .i64 b, .int .i64 y, .int .i64 v] 37))
  have k0 := Blk.new w #[.int .i64 k, .int .i64 b, .int .i64 y, .int .i64 v] 37
  cases h1 : (r != 0)
  · go_enter Try.func150, Try.ntmps150
    go_wp2_with fail
    refine (HR.out _).mono ?_
    rintro e w1 ⟨rfl, b1⟩
    have B1 := Lib.hid (B0.out.trans (b1.mono B0.out.size))
    go_wp2_with fail
    go_ret
    exact ⟨rfl, B1.out⟩
  · cases h2 : inB b 0 2
    · go_enter Try.func150, Try.ntmps150
      go_wp2_with fail
      refine (HR.out _).mono ?_
      rintro e w1 ⟨rfl, b1⟩
      have B1 := Lib.hid (B0.out.trans (b1.mono B0.out.size))
      have c1 := (k0.below b1 k0.lt).cell
      clear b1 k0
      go_wp2_with fail
      refine (isIn_any _ _ _ _).mono ?_
      rintro e w2 ⟨rfl, rfl⟩
      go_wp2_with fail
      go_ret
      exact ⟨rfl, B1.out⟩
    · go_enter Try.func150, Try.ntmps150
      go_wp2_with fail
      refine (HR.out _).mono ?_
      rintro e w1 ⟨rfl, b1⟩
      have B1 := Lib.hid (B0.out.trans (b1.mono B0.out.size))
      have c1 := (k0.below b1 k0.lt).cell
      clear b1 k0
      go_wp2_with fail
      refine (isIn_any _ _ _ _).mono ?_
      rintro e w2 ⟨rfl, rfl⟩
      go_wp2_with fail
      refine (isIn_any _ _ _ _).mono ?_
      rintro e w2 ⟨rfl, rfl⟩
      go_wp2_with fail
      go_ret
      exact ⟨rfl, B1.out⟩

theorem maskFits_any (b m : Int) (w : World) :
    Calls Try.prog 156 #[.int .i64 b, .int .i64 m] w fun e w' => e = .returned (.bool (inB b 0 2 && inB m 0 15)) ∧ w' = w := by
  cases h1 : inB b 0 2
  · go_enter Try.func156, Try.ntmps156
    go_wp2_with fail
    refine (isIn_any _ _ _ _).mono ?_
    rintro e w2 ⟨rfl, rfl⟩
    go_wp2_with fail
    go_ret
    exact ⟨rfl, rfl⟩
  · go_enter Try.func156, Try.ntmps156
    go_wp2_with fail
    refine (isIn_any _ _ _ _).mono ?_
    rintro e w2 ⟨rfl, rfl⟩
    go_wp2_with fail
    refine (isIn_any _ _ _ _).mono ?_
    rintro e w2 ⟨rfl, rfl⟩
    go_wp2_with fail
    go_ret
    exact ⟨rfl, rfl⟩
end Go.Proofs.Ytcgncaiehdcooaa
