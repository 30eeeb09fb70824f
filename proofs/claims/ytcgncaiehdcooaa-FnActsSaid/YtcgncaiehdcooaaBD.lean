/- The program's stands. -/
import Derived.Test.YtcgncaiehdcooaaBC
import Derived.Test.YtcgncaiehdcooaaC
namespace Go.Proofs.Ytcgncaiehdcooaa
open Go.RowKit
set_option linter.unusedVariables false

theorem cn_yes {xs : List Int} (h : okB xs = true) : cn xs = xs.length := if_pos h
theorem cx_yes {xs : List Int} (h : okB xs = true) (i : Nat) : cx xs i = xs.getD i 0 := if_pos h
theorem okB_len4 {xs : List Int} (h : okB xs = true) : 1 ≤ xs.length ∧ xs.length ≤ 4 := by
  by_cases hl : 1 ≤ xs.length ∧ xs.length ≤ 4
  · exact hl
  · rw [okB_len xs (by omega)] at h; cases h
def standsM (r n actor : Int) (dep : List Int) (m : Int) : Bool :=
  okB dep && decide ((dep.length : Int) = m) && inB r 0 (m - 1) && inB n 1 100000 && decide (dep.getD r.toNat 0 = n - 1) && inB actor 0 5

set_option maxHeartbeats 3200000 in
theorem stands_any (r n actor m : Int) (vd : Value) (dep : List Int) (w : World) (hd : Ints w vd dep) (hm : -9223372036854775808 ≤ m ∧ m ≤ 9223372036854775807) :
    Calls Try.prog 151 #[.agg #[.int .i64 r, .int .i64 n, vd, .int .i64 actor], .int .i64 m] w fun e w' =>
      e = .returned (.bool (standsM r n actor dep m)) ∧ Below w.heap.size w w' := by
  have bb := Lib.hid ((Below.refl w.heap.size w).alloc (Nat.le_refl _) (.cells #[.int .i64 r, .int .i64 n, vd, .int .i64 actor] 67))
  have k0 := Lib.hid (Blk.new w #[.int .i64 r, .int .i64 n, vd, .int .i64 actor] 67)
  have HD := Lib.hid hd
  clear hd
  obtain ⟨R, hR⟩ : ∃ R, R = standsM r n actor dep m := ⟨_, rfl⟩
  rw [← hR]
  have HR := Lib.hid hR
  clear hR
  have HC := Lib.hid (fun w h => readClock_any vd dep w h)
  cases hok : okB dep
  · have HF := Lib.hid (show R = false by rw [HR.out, standsM, hok]; rfl)
    rw [hok] at HC
    generalize cn dep = y at *
    generalize cx dep 0 = y0 at *
    generalize cx dep 1 = y1 at *
    generalize cx dep 2 = y2 at *
    generalize cx dep 3 = y3 at *
    clear hok
    go_enter Try.func151, Try.ntmps151
    go_wp2_with fail
    refine (HC.out _ (HD.out.below (B := 0) bb.out)).mono ?_
    rintro e w1 ⟨rfl, b1⟩
    have B1 := Lib.hid (bb.out.trans (b1.mono bb.out.size))
    have B2 := Lib.hid (B1.out.alloc B1.out.size (.cells #[.int .i64 y, .int .i64 y0, .int .i64 y1, .int .i64 y2, .int .i64 y3] 80))
    clear b1
    go_wp2_with fail
    go_quiet (fail)
    go_wp2_with fail
    go_ret
    exact ⟨ret_bool HF.out.symm, below_drewN B2.out _⟩
  · have h14 := okB_len4 hok
    have HOK := Lib.hid hok
    have e0 := cn_yes hok
    have x0 := cx_yes hok 0
    have x1 := cx_yes hok 1
    have x2 := cx_yes hok 2
    have x3 := cx_yes hok 3
    rw [e0, x0, x1, x2, x3, hok] at HC
    clear e0 x0 x1 x2 x3 hok
    have hget : ∀ k : Nat, k < 4 → #[Value.int .i64 dep.length, .int .i64 (dep.getD 0 0), .int .i64 (dep.getD 1 0), .int .i64 (dep.getD 2 0), .int .i64 (dep.getD 3 0)].toList[1 + k]? = some (.int .i64 (dep.getD k 0)) := by
      intro k hk
      match k, hk with
      | 0, _ => rfl
      | 1, _ => rfl
      | 2, _ => rfl
      | 3, _ => rfl
      | k + 4, h => omega
    have HG := Lib.hid hget
    clear hget
    by_cases hlen : (dep.length : Int) = m
    · subst hlen
      cases h1 : inB r 0 ((dep.length : Int) - 1)
      · have HF := Lib.hid (show R = false by rw [HR.out, standsM, h1]; simp)
        clear HG
        generalize dep.getD 0 0 = y0 at *
        generalize dep.getD 1 0 = y1 at *
        generalize dep.getD 2 0 = y2 at *
        generalize dep.getD 3 0 = y3 at *
        obtain ⟨len, hl⟩ : ∃ len, len = dep.length := ⟨_, rfl⟩
        rw [← hl] at h1 HC h14 ⊢
        clear hl
        have e1 : IntKind.i64.wrap ((len : Int) - 1) = (len : Int) - 1 := IntWalk.i64_in _ (by omega)
        go_enter Try.func151, Try.ntmps151
        go_wp2_with fail
        refine (HC.out _ (HD.out.below (B := 0) bb.out)).mono ?_
        rintro e w1 ⟨rfl, b1⟩
        have B1 := Lib.hid (bb.out.trans (b1.mono bb.out.size))
        have B2 := Lib.hid (B1.out.alloc B1.out.size (.cells #[.int .i64 len, .int .i64 y0, .int .i64 y1, .int .i64 y2, .int .i64 y3] 80))
        have q0 := (k0.out.below b1 k0.out.lt).cell
        have l0 := (k0.out.below b1 k0.out.lt).lt
        clear b1
        go_wp2_with fail
        go_quiet ((go_at_call 97; exact Calls.quiet_of_same (isIn_any _ _ _ _)))
        go_wp2_with fail
        go_ret
        exact ⟨ret_bool HF.out.symm, below_drewN B2.out _⟩
      · have hr1 : 0 ≤ r ∧ r < dep.length := by
          simp only [inB, Bool.and_eq_true, decide_eq_true_eq] at h1; omega
        obtain ⟨k, rfl⟩ := Int.eq_ofNat_of_zero_le hr1.1
        have hk4 : k < 4 := by omega
        have hkl : (k : Int) < dep.length := hr1.2
        have HG := Lib.hid (HG.out k hk4)
        have HS := Lib.hid (show R = (inB n 1 100000 && decide (dep.getD k 0 = n - 1) && inB actor 0 5) by rw [HR.out, standsM, HOK.out, h1]; simp)
        clear hr1
        obtain ⟨x, hx⟩ : ∃ x, x = dep.getD k 0 := ⟨_, rfl⟩
        rw [← hx] at HG HS
        clear hx
        generalize dep.getD 0 0 = y0 at *
        generalize dep.getD 1 0 = y1 at *
        generalize dep.getD 2 0 = y2 at *
        generalize dep.getD 3 0 = y3 at *
        obtain ⟨len, hl⟩ : ∃ len, len = dep.length := ⟨_, rfl⟩
        rw [← hl] at h1 HC h14 hkl HG ⊢
        clear hl
        have e1 : IntKind.i64.wrap ((len : Int) - 1) = (len : Int) - 1 := IntWalk.i64_in _ (by omega)
        have i0 : (0 : Int) ≤ k := by omega
        have i4 : (k : Int) < 4 := by omega
        cases h2 : inB n 1 100000
        · have HF := Lib.hid (show R = false by rw [HS.out, h2]; rfl)
          go_enter Try.func151, Try.ntmps151
          go_wp2_with fail
          refine (HC.out _ (HD.out.below (B := 0) bb.out)).mono ?_
          rintro e w1 ⟨rfl, b1⟩
          have B1 := Lib.hid (bb.out.trans (b1.mono bb.out.size))
          have B2 := Lib.hid (B1.out.alloc B1.out.size (.cells #[.int .i64 len, .int .i64 y0, .int .i64 y1, .int .i64 y2, .int .i64 y3] 80))
          have k1 := Lib.hid ((k0.out.below b1 k0.out.lt).alloc (.cells #[.int .i64 len, .int .i64 y0, .int .i64 y1, .int .i64 y2, .int .i64 y3] 80))
          have k2 := Lib.hid (Blk.new w1 #[.int .i64 len, .int .i64 y0, .int .i64 y1, .int .i64 y2, .int .i64 y3] 80)
          clear b1
          go_wp2_with fail
          obtain ⟨W3, hW3⟩ : ∃ W3, W3 = (w1.alloc (.cells #[.int .i64 len, .int .i64 y0, .int .i64 y1, .int .i64 y2, .int .i64 y3] 80)) := ⟨_, rfl⟩
          rw [← hW3] at k1 k2 B2 ⊢
          clear hW3
          have q0 : W3.cell? ⟨w.heap.size, 0, none⟩ = some (.int .i64 k) := k1.out.cell 0
          have q1 : W3.cell? ⟨w.heap.size, 1, none⟩ = some (.int .i64 n) := k1.out.cell 1
          have q2 : W3.cell? ⟨w.heap.size, 3, none⟩ = some (.int .i64 actor) := k1.out.cell 3
          have p0 : W3.cell? ⟨w1.heap.size, 0, none⟩ = some (.int .i64 len) := k2.out.cell 0
          have p1 : W3.cell? ⟨w1.heap.size, 1 + k, none⟩ = some (.int .i64 x) := (k2.out.cell (1 + k)).trans HG.out
          go_quiet ((go_at_call 97; exact Calls.quiet_of_same (isIn_any _ _ _ _)))
          go_wp2_with fail
          go_ret
          exact ⟨ret_bool HF.out.symm, below_drewN B2.out _⟩
        · have hn : 1 ≤ n ∧ n ≤ 100000 := by
            simp only [inB, Bool.and_eq_true, decide_eq_true_eq] at h2; omega
          have e2 : IntKind.i64.wrap (n - 1) = n - 1 := IntWalk.i64_in _ (by omega)
          by_cases h3 : x = n - 1
          · have HF := Lib.hid (show R = inB actor 0 5 by rw [HS.out, h2]; simp [h3])
            have e3 : (x == n - 1) = true := by simpa using h3
            clear h3
            go_enter Try.func151, Try.ntmps151
            go_wp2_with fail
            refine (HC.out _ (HD.out.below (B := 0) bb.out)).mono ?_
            rintro e w1 ⟨rfl, b1⟩
            have B1 := Lib.hid (bb.out.trans (b1.mono bb.out.size))
            have B2 := Lib.hid (B1.out.alloc B1.out.size (.cells #[.int .i64 len, .int .i64 y0, .int .i64 y1, .int .i64 y2, .int .i64 y3] 80))
            have k1 := Lib.hid ((k0.out.below b1 k0.out.lt).alloc (.cells #[.int .i64 len, .int .i64 y0, .int .i64 y1, .int .i64 y2, .int .i64 y3] 80))
            have k2 := Lib.hid (Blk.new w1 #[.int .i64 len, .int .i64 y0, .int .i64 y1, .int .i64 y2, .int .i64 y3] 80)
            clear b1
            go_wp2_with fail
            obtain ⟨W3, hW3⟩ : ∃ W3, W3 = (w1.alloc (.cells #[.int .i64 len, .int .i64 y0, .int .i64 y1, .int .i64 y2, .int .i64 y3] 80)) := ⟨_, rfl⟩
            rw [← hW3] at k1 k2 B2 ⊢
            clear hW3
            have q0 : W3.cell? ⟨w.heap.size, 0, none⟩ = some (.int .i64 k) := k1.out.cell 0
            have q1 : W3.cell? ⟨w.heap.size, 1, none⟩ = some (.int .i64 n) := k1.out.cell 1
            have q2 : W3.cell? ⟨w.heap.size, 3, none⟩ = some (.int .i64 actor) := k1.out.cell 3
            have p0 : W3.cell? ⟨w1.heap.size, 0, none⟩ = some (.int .i64 len) := k2.out.cell 0
            have p1 : W3.cell? ⟨w1.heap.size, 1 + k, none⟩ = some (.int .i64 x) := (k2.out.cell (1 + k)).trans HG.out
            go_quiet ((go_at_call 97; exact Calls.quiet_of_same (isIn_any _ _ _ _)))
            go_wp2_with fail
            go_ret
            exact ⟨ret_bool HF.out.symm, below_drewN B2.out _⟩
          · have HF := Lib.hid (show R = false by rw [HS.out, h2]; simp [h3])
            have e3 : (x == n - 1) = false := by simpa using h3
            clear h3
            go_enter Try.func151, Try.ntmps151
            go_wp2_with fail
            refine (HC.out _ (HD.out.below (B := 0) bb.out)).mono ?_
            rintro e w1 ⟨rfl, b1⟩
            have B1 := Lib.hid (bb.out.trans (b1.mono bb.out.size))
            have B2 := Lib.hid (B1.out.alloc B1.out.size (.cells #[.int .i64 len, .int .i64 y0, .int .i64 y1, .int .i64 y2, .int .i64 y3] 80))
            have k1 := Lib.hid ((k0.out.below b1 k0.out.lt).alloc (.cells #[.int .i64 len, .int .i64 y0, .int .i64 y1, .int .i64 y2, .int .i64 y3] 80))
            have k2 := Lib.hid (Blk.new w1 #[.int .i64 len, .int .i64 y0, .int .i64 y1, .int .i64 y2, .int .i64 y3] 80)
            clear b1
            go_wp2_with fail
            obtain ⟨W3, hW3⟩ : ∃ W3, W3 = (w1.alloc (.cells #[.int .i64 len, .int .i64 y0, .int .i64 y1, .int .i64 y2, .int .i64 y3] 80)) := ⟨_, rfl⟩
            rw [← hW3] at k1 k2 B2 ⊢
            clear hW3
            have q0 : W3.cell? ⟨w.heap.size, 0, none⟩ = some (.int .i64 k) := k1.out.cell 0
            have q1 : W3.cell? ⟨w.heap.size, 1, none⟩ = some (.int .i64 n) := k1.out.cell 1
            have q2 : W3.cell? ⟨w.heap.size, 3, none⟩ = some (.int .i64 actor) := k1.out.cell 3
            have p0 : W3.cell? ⟨w1.heap.size, 0, none⟩ = some (.int .i64 len) := k2.out.cell 0
            have p1 : W3.cell? ⟨w1.heap.size, 1 + k, none⟩ = some (.int .i64 x) := (k2.out.cell (1 + k)).trans HG.out
            go_quiet ((go_at_call 97; exact Calls.quiet_of_same (isIn_any _ _ _ _)))
            go_wp2_with fail
            go_ret
            exact ⟨ret_bool HF.out.symm, below_drewN B2.out _⟩
    · have HF := Lib.hid (show R = false by rw [HR.out, standsM]; simp [hlen])
      have e1 : ((dep.length : Int) == m) = false := by simpa using hlen
      clear HG hlen
      generalize dep.getD 0 0 = y0 at *
      generalize dep.getD 1 0 = y1 at *
      generalize dep.getD 2 0 = y2 at *
      generalize dep.getD 3 0 = y3 at *
      obtain ⟨len, hl⟩ : ∃ len, len = dep.length := ⟨_, rfl⟩
      rw [← hl] at e1 HC h14
      clear hl
      go_enter Try.func151, Try.ntmps151
      go_wp2_with fail
      refine (HC.out _ (HD.out.below (B := 0) bb.out)).mono ?_
      rintro e w1 ⟨rfl, b1⟩
      have B1 := Lib.hid (bb.out.trans (b1.mono bb.out.size))
      have B2 := Lib.hid (B1.out.alloc B1.out.size (.cells #[.int .i64 len, .int .i64 y0, .int .i64 y1, .int .i64 y2, .int .i64 y3] 80))
      clear b1
      go_wp2_with fail
      go_quiet (fail)
      go_wp2_with fail
      go_ret
      exact ⟨ret_bool HF.out.symm, below_drewN B2.out _⟩
end Go.Proofs.Ytcgncaiehdcooaa
