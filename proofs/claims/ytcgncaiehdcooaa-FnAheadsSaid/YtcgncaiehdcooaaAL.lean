/- The reference's Needs. -/
import Derived.Test.YtcgncaiehdcooaaAG
namespace Go.Proofs.Ytcgncaiehdcooaa
open Go.RowKit
set_option linter.unusedVariables false

def nd (l : List UpM) (b : Int) : Int :=
  (if l.any (fun u => u.bucket = b && u.kind = 2) = true then 4 else 0) + (if l.any (fun u => u.bucket = b && (u.kind = 1 || u.kind = 3 || u.kind = 4)) = true then 2 else 0)
theorem nd_values (l : List UpM) (b : Int) : nd l b = 0 ∨ nd l b = 2 ∨ nd l b = 4 ∨ nd l b = 6 := by
  unfold nd; split <;> split <;> simp
/-- what one up adds -/
def ndStep (u : UpM) (b t : Int) : Int :=
  if u.bucket = b then (if u.kind = 2 then bits .or .i64 t 4 else if u.kind = 1 ∨ u.kind = 3 ∨ u.kind = 4 then bits .or .i64 t 2 else t) else t
theorem nd_step (l : List UpM) (b : Int) (k : Nat) (hk : k < l.length) : nd (l.take (k + 1)) b = ndStep (l.getD k up0) b (nd (l.take k) b) := by
  rw [List.take_succ_eq_append_getElem hk]
  simp only [List.getD, List.getElem?_eq_getElem hk, Option.getD_some]
  generalize l[k] = u
  generalize l.take k = m
  unfold nd ndStep
  simp only [List.any_append, List.any_cons, List.any_nil, Bool.or_false]
  by_cases hb : u.bucket = b
  · by_cases h2 : u.kind = 2
    · rw [if_pos hb, if_pos h2]
      simp only [hb, h2, decide_true, Bool.and_self, Bool.or_true, if_true]
      cases m.any _ <;> cases m.any _ <;> decide
    · rw [if_pos hb, if_neg h2]
      by_cases h3 : u.kind = 1 ∨ u.kind = 3 ∨ u.kind = 4
      · rw [if_pos h3]
        have e : (decide (u.kind = 1) || decide (u.kind = 3) || decide (u.kind = 4)) = true := by rcases h3 with h | h | h <;> simp [h]
        simp only [hb, h2, e, decide_true, decide_false, Bool.and_self, Bool.and_false, Bool.or_true, Bool.or_false, if_true]
        cases m.any _ <;> cases m.any _ <;> decide
      · rw [if_neg h3]
        have e : (decide (u.kind = 1) || decide (u.kind = 3) || decide (u.kind = 4)) = false := by
          simp only [Bool.or_eq_false_iff, decide_eq_false_iff_not]; omega
        simp only [hb, h2, e, decide_true, decide_false, Bool.and_false, Bool.or_false]
  · rw [if_neg hb]
    simp only [hb, decide_false, Bool.false_and, Bool.or_false]

set_option maxHeartbeats 3200000 in
theorem specNeeds_some (r n actor kind to bucket mask gr gn x : Int) (vd : Value) (ups : List UpM) (b off cap len : Nat) (w : World)
    (h1 : ups.length = len) (hl : len ≤ 9223372036854775807) (hb : b < w.heap.size)
    (hc : ∀ i, i < len → UpAt w b (off + i * 4) (ups.getD i up0)) :
    Calls Try.prog 24 #[.agg #[.int .i64 r, .int .i64 n, vd, .int .i64 actor, .int .i64 kind, .int .i64 to, .int .i64 bucket, .int .i64 mask, .int .i64 gr, .int .i64 gn, .slice (some ⟨b, off, none⟩) len cap], .int .i64 x] w fun e w' => e = .returned (.int .i64 (nd ups x)) ∧ Below w.heap.size w w' := by
  have bb := Lib.hid ((Below.refl w.heap.size w).alloc (Nat.le_refl _) (.cells #[.int .i64 r, .int .i64 n, vd, .int .i64 actor, .int .i64 kind, .int .i64 to, .int .i64 bucket, .int .i64 mask, .int .i64 gr, .int .i64 gn, .slice (some ⟨b, off, none⟩) len cap] 26))
  have N1 := Lib.hid h1
  have HC := Lib.hid hc
  clear h1 hc
  go_enter Try.func24, Try.ntmps24
  go_wp2
  go_loop [5, 6] (fun t i => ∃ (k : Nat) (s : Int), k ≤ len ∧ i = .int .i64 k ∧ t = .int .i64 s ∧ Hid (s = nd (ups.take k) x)) (fun _ i => len - (intOf i).toNat)
  case atStart => exact ⟨0, 0, Nat.zero_le _, rfl, rfl, by simp [Hid, nd]⟩
  case round =>
    obtain ⟨k, s, hk, rfl, rfl, hs⟩ := hrel
    by_cases hlt : k < len
    · obtain ⟨c0, c1, c2, c3⟩ := HC.out k hlt
      have hst := nd_step ups x k (by rw [N1.out]; exact hlt)
      rw [← hs.out] at hst
      obtain ⟨u, hu⟩ : ∃ u, ups.getD k up0 = u := ⟨_, rfl⟩
      rw [hu] at c0 c1 c2 c3 hst
      clear hu
      obtain ⟨u0, u1, u2, u3⟩ := u
      simp only [ndStep] at hst c0 c1 c2 c3
      by_cases hb1 : u1 = x
      · subst hb1
        rw [if_pos rfl] at hst
        by_cases h2 : u0 = 2
        · subst h2
          rw [if_pos rfl] at hst
          have HST := Lib.hid hst
          clear hst
          go_wp2
          go_round
          case rel => exact ⟨k + 1, _, by omega, by go_num, rfl, HST.out.symm⟩
          case measure => simp [intOf]; omega
        · rw [if_neg h2] at hst
          have e2 : (u0 == 2) = false := by simpa using h2
          by_cases h3 : u0 = 1 ∨ u0 = 3 ∨ u0 = 4
          · rw [if_pos h3] at hst
            have HST := Lib.hid hst
            clear hst h2
            rcases h3 with rfl | rfl | rfl
            all_goals
              clear e2
              go_wp2
              go_round
            case rel => exact ⟨k + 1, _, by omega, by go_num, rfl, HST.out.symm⟩
            case measure => simp [intOf]; omega
            case rel => exact ⟨k + 1, _, by omega, by go_num, rfl, HST.out.symm⟩
            case measure => simp [intOf]; omega
            case rel => exact ⟨k + 1, _, by omega, by go_num, rfl, HST.out.symm⟩
            case measure => simp [intOf]; omega
          · rw [if_neg h3] at hst
            have HST := Lib.hid hst
            have e1 : (u0 == 1) = false := by simp; omega
            have e3 : (u0 == 3) = false := by simp; omega
            have e4 : (u0 == 4) = false := by simp; omega
            clear hst h2 h3
            go_wp2
            go_round
            case rel => exact ⟨k + 1, _, by omega, by go_num, rfl, HST.out.symm⟩
            case measure => simp [intOf]; omega
      · rw [if_neg hb1] at hst
        have HST := Lib.hid hst
        have e1 : (u1 == x) = false := by simpa using hb1
        have e2 : (u1 != x) = true := by simpa using hb1
        clear hst hb1
        go_wp2
        go_round
        case rel => exact ⟨k + 1, _, by omega, by go_num, rfl, HST.out.symm⟩
        case measure => simp [intOf]; omega
    · have hkl : k = len := by omega
      subst hkl
      go_wp2
      go_ret
      exact ⟨ret_int (by rw [hs.out, List.take_of_length_le (by rw [N1.out]; omega)]), bb.out⟩

theorem specNeeds_nil (r n actor kind to bucket mask gr gn x : Int) (vd : Value) (a : Option Addr) (cap : Nat) (w : World) :
    Calls Try.prog 24 #[.agg #[.int .i64 r, .int .i64 n, vd, .int .i64 actor, .int .i64 kind, .int .i64 to, .int .i64 bucket, .int .i64 mask, .int .i64 gr, .int .i64 gn, .slice a 0 cap], .int .i64 x] w fun e w' => e = .returned (.int .i64 (nd [] x)) ∧ Below w.heap.size w w' := by
  have bb := Lib.hid ((Below.refl w.heap.size w).alloc (Nat.le_refl _) (.cells #[.int .i64 r, .int .i64 n, vd, .int .i64 actor, .int .i64 kind, .int .i64 to, .int .i64 bucket, .int .i64 mask, .int .i64 gr, .int .i64 gn, .slice a 0 cap] 26))
  go_enter Try.func24, Try.ntmps24
  go_wp2
  go_loop [5, 6] (fun t i => t = .int .i64 0 ∧ i = .int .i64 0) (fun _ _ => 0)
  case atStart => exact ⟨rfl, rfl⟩
  case round =>
    obtain ⟨rfl, rfl⟩ := hrel
    go_wp2
    go_ret
    exact ⟨ret_int (by simp [nd]), bb.out⟩
theorem specNeeds_any : SpecNeeds := by
  intro v a x w h _
  obtain ⟨vd, vs, rfl, hd, hs⟩ := h
  obtain ⟨r, n, dep, actor, kind, to, bucket, mask, gr, gn, ups⟩ := a
  have e : needsM ⟨r, n, dep, actor, kind, to, bucket, mask, gr, gn, ups⟩ x = nd ups x := rfl
  rw [e]
  have hm := ups_max hs
  simp only at hm
  rcases hs with ⟨a, cap, rfl, h0⟩ | ⟨b, off, cap, rfl, h1, h2, h3, h4⟩
  · simp only at h0
    subst h0
    exact specNeeds_nil r n actor kind to bucket mask gr gn x vd a cap w
  · exact specNeeds_some r n actor kind to bucket mask gr gn x vd ups b off cap _ w rfl hm h1 h4
end Go.Proofs.Ytcgncaiehdcooaa
