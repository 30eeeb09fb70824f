/- The reference's SameAct. -/
import Derived.Test.YtjjgigoehgabkaaAK
import Derived.BigQuiet
import Derived.Deep.QuietTactic
namespace Go.Proofs.Ytjjgigoehgabkaa
open Go.RowKit
set_option linter.unusedVariables false


theorem sameM_no {a b : ActM} (h : a ≠ b) : sameM a b = false := by simp [sameM, h]

set_option maxHeartbeats 3200000 in
theorem specSame_any : SpecSameAct := by
  intro v v' a b w h h'
  obtain ⟨vd, vs, rfl, hd, hs⟩ := h
  obtain ⟨vd', vs', rfl, hd', hs'⟩ := h'
  obtain ⟨r', n', dep', actor', kind', to', bucket', mask', gr', gn', ups'⟩ := b
  obtain ⟨r, n, dep, actor, kind, to, bucket, mask, gr, gn, ups⟩ := a
  obtain ⟨ua, uc, hvs⟩ := ups_len hs
  obtain ⟨ua', uc', hvs'⟩ := ups_len hs'
  have um := ups_max hs
  have um' := ups_max hs'
  simp only at *
  obtain ⟨R, hR⟩ : ∃ R, R = sameM ⟨r, n, dep, actor, kind, to, bucket, mask, gr, gn, ups⟩ ⟨r', n', dep', actor', kind', to', bucket', mask', gr', gn', ups'⟩ := ⟨_, rfl⟩
  rw [← hR]
  have bb := Lib.hid (((Below.refl w.heap.size w).alloc (Nat.le_refl _) (.cells #[.int .i64 r, .int .i64 n, vd, .int .i64 actor, .int .i64 kind, .int .i64 to, .int .i64 bucket, .int .i64 mask, .int .i64 gr, .int .i64 gn, vs] 42)).alloc (by simp) (.cells #[.int .i64 r', .int .i64 n', vd', .int .i64 actor', .int .i64 kind', .int .i64 to', .int .i64 bucket', .int .i64 mask', .int .i64 gr', .int .i64 gn', vs'] 42))
  by_cases q0 : r = r'
  · subst q0
    by_cases q1 : n = n'
    · subst q1
      by_cases q2 : actor = actor'
      · subst q2
        by_cases q3 : kind = kind'
        · subst q3
          by_cases q4 : to = to'
          · subst q4
            by_cases q5 : bucket = bucket'
            · subst q5
              by_cases q6 : mask = mask'
              · subst q6
                by_cases q7 : gr = gr'
                · subst q7
                  by_cases q8 : gn = gn'
                  · subst q8
                    by_cases hl : ups.length = ups'.length
                    · have hRE : R = (decide (ups = ups') && eqB dep dep') := by
                        rw [hR, Bool.eq_iff_iff]
                        simp [sameM, eqB, and_comm]
                      clear hvs hvs' bb hR
                      rcases hs with ⟨a, cap, rfl, rfl⟩ | ⟨b, off, cap, rfl, k1, k2, k3, k4⟩
                      · have hz : ups' = [] := List.eq_nil_of_length_eq_zero (by simpa using hl.symm)
                        subst hz
                        obtain ⟨a', cap', hv'⟩ := ups_len hs'
                        subst hv'
                        refine (specSame_nil r n actor kind to bucket mask gr gn vd vd' dep dep' a a' cap cap' w hd hd').mono ?_
                        rintro e w' ⟨rfl, hb⟩
                        exact ⟨ret_bool (by rw [hRE]; simp), hb⟩
                      · rcases hs' with ⟨a', cap', rfl, rfl⟩ | ⟨b', off', cap', rfl, k1', k2', k3', k4'⟩
                        · have hz : ups = [] := List.eq_nil_of_length_eq_zero (by simpa using hl)
                          subst hz
                          refine (specSame_nil r n actor kind to bucket mask gr gn vd vd' dep dep' _ a' cap cap' w hd hd').mono ?_
                          rintro e w' ⟨rfl, hb⟩
                          exact ⟨ret_bool (by rw [hRE]; simp), hb⟩
                        · rw [hRE, ← hl]
                          exact specSame_ups r n actor kind to bucket mask gr gn vd vd' dep dep' ups ups' b off cap b' off' cap' ups.length w hd hd' rfl hl.symm um k1 k1' k4 (by rw [hl]; exact k4')
                    · have HR := Lib.hid (show R = false by rw [hR]; exact sameM_no (by intro e; injection e with _ _ _ _ _ _ _ _ _ _ e; exact hl (by rw [e])))
                      subst hvs hvs'
                      generalize ups.length = l1 at *
                      generalize ups'.length = l2 at *
                      have e1 : ((l1 : Int) == l2) = false := by simp; omega
                      have e2 : ((l1 : Int) != l2) = true := by simp; omega
                      clear hR hd hs hd' hs' hl
                      go_enter Try.func98, Try.ntmps98
                      go_wp2
                      go_ret
                      exact ⟨ret_bool HR.out.symm, bb.out⟩
                  · have HR := Lib.hid (show R = false by rw [hR]; exact sameM_no (by intro e; injection e with _ _ _ _ _ _ _ _ _ e _; exact q8 e))
                    have e1 : (gn == gn') = false := by simpa using q8
                    have e2 : (gn != gn') = true := by simpa using q8
                    clear hR hd hs hd' hs' q8 hvs hvs' um um'
                    go_enter Try.func98, Try.ntmps98
                    go_wp2
                    go_ret
                    exact ⟨ret_bool HR.out.symm, bb.out⟩
                · have HR := Lib.hid (show R = false by rw [hR]; exact sameM_no (by intro e; injection e with _ _ _ _ _ _ _ _ e _ _; exact q7 e))
                  have e1 : (gr == gr') = false := by simpa using q7
                  have e2 : (gr != gr') = true := by simpa using q7
                  clear hR hd hs hd' hs' q7 hvs hvs' um um'
                  go_enter Try.func98, Try.ntmps98
                  go_wp2
                  go_ret
                  exact ⟨ret_bool HR.out.symm, bb.out⟩
              · have HR := Lib.hid (show R = false by rw [hR]; exact sameM_no (by intro e; injection e with _ _ _ _ _ _ _ e _ _ _; exact q6 e))
                have e1 : (mask == mask') = false := by simpa using q6
                have e2 : (mask != mask') = true := by simpa using q6
                clear hR hd hs hd' hs' q6 hvs hvs' um um'
                go_enter Try.func98, Try.ntmps98
                go_wp2
                go_ret
                exact ⟨ret_bool HR.out.symm, bb.out⟩
            · have HR := Lib.hid (show R = false by rw [hR]; exact sameM_no (by intro e; injection e with _ _ _ _ _ _ e _ _ _ _; exact q5 e))
              have e1 : (bucket == bucket') = false := by simpa using q5
              have e2 : (bucket != bucket') = true := by simpa using q5
              clear hR hd hs hd' hs' q5 hvs hvs' um um'
              go_enter Try.func98, Try.ntmps98
              go_wp2
              go_ret
              exact ⟨ret_bool HR.out.symm, bb.out⟩
          · have HR := Lib.hid (show R = false by rw [hR]; exact sameM_no (by intro e; injection e with _ _ _ _ _ e _ _ _ _ _; exact q4 e))
            have e1 : (to == to') = false := by simpa using q4
            have e2 : (to != to') = true := by simpa using q4
            clear hR hd hs hd' hs' q4 hvs hvs' um um'
            go_enter Try.func98, Try.ntmps98
            go_wp2
            go_ret
            exact ⟨ret_bool HR.out.symm, bb.out⟩
        · have HR := Lib.hid (show R = false by rw [hR]; exact sameM_no (by intro e; injection e with _ _ _ _ e _ _ _ _ _ _; exact q3 e))
          have e1 : (kind == kind') = false := by simpa using q3
          have e2 : (kind != kind') = true := by simpa using q3
          clear hR hd hs hd' hs' q3 hvs hvs' um um'
          go_enter Try.func98, Try.ntmps98
          go_wp2
          go_ret
          exact ⟨ret_bool HR.out.symm, bb.out⟩
      · have HR := Lib.hid (show R = false by rw [hR]; exact sameM_no (by intro e; injection e with _ _ _ e _ _ _ _ _ _ _; exact q2 e))
        have e1 : (actor == actor') = false := by simpa using q2
        have e2 : (actor != actor') = true := by simpa using q2
        clear hR hd hs hd' hs' q2 hvs hvs' um um'
        go_enter Try.func98, Try.ntmps98
        go_wp2
        go_ret
        exact ⟨ret_bool HR.out.symm, bb.out⟩
    · have HR := Lib.hid (show R = false by rw [hR]; exact sameM_no (by intro e; injection e with _ e _ _ _ _ _ _ _ _ _; exact q1 e))
      have e1 : (n == n') = false := by simpa using q1
      have e2 : (n != n') = true := by simpa using q1
      clear hR hd hs hd' hs' q1 hvs hvs' um um'
      go_enter Try.func98, Try.ntmps98
      go_wp2
      go_ret
      exact ⟨ret_bool HR.out.symm, bb.out⟩
  · have HR := Lib.hid (show R = false by rw [hR]; exact sameM_no (by intro e; injection e with e _ _ _ _ _ _ _ _ _ _; exact q0 e))
    have e1 : (r == r') = false := by simpa using q0
    have e2 : (r != r') = true := by simpa using q0
    clear hR hd hs hd' hs' q0 hvs hvs' um um'
    go_enter Try.func98, Try.ntmps98
    go_wp2
    go_ret
    exact ⟨ret_bool HR.out.symm, bb.out⟩
end Go.Proofs.Ytjjgigoehgabkaa
