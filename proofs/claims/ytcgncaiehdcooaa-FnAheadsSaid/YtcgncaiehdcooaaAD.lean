/- The reference's Knows, Ahead. -/
import Derived.Test.YtcgncaiehdcooaaAC
import Derived.BigQuiet
import Derived.Deep.QuietTactic
namespace Go.Proofs.Ytcgncaiehdcooaa
open Go.RowKit
set_option linter.unusedVariables false

def knowsM (a b : ActM) : Bool := decide (0 ≤ b.r) && decide (b.r < a.dep.length) && decide (1 ≤ b.n) && decide (b.n ≤ a.dep.getD b.r.toNat 0)

set_option maxHeartbeats 800000 in
theorem specKnows_any (v v' : Value) (a b : ActM) (w : World) (h : ActIs w v a) (h' : ActIs w v' b) :
    Calls Try.prog 15 #[v, v'] w fun e w' => e = .returned (.bool (knowsM a b)) ∧ Below w.heap.size w w' := by
  obtain ⟨vd, vs, rfl, hd, hs⟩ := h
  obtain ⟨vd', vs', rfl, hd', hs'⟩ := h'
  clear hs hs' hd'
  obtain ⟨r', n', dep', actor', kind', to', bucket', mask', gr', gn', ups'⟩ := b
  obtain ⟨r, n, dep, actor, kind, to, bucket, mask, gr, gn, ups⟩ := a
  obtain ⟨R, hR⟩ : ∃ R, R = knowsM ⟨r, n, dep, actor, kind, to, bucket, mask, gr, gn, ups⟩ ⟨r', n', dep', actor', kind', to', bucket', mask', gr', gn', ups'⟩ := ⟨_, rfl⟩
  rw [← hR]
  simp only [knowsM] at hR
  have bb := Lib.hid (((Below.refl w.heap.size w).alloc (Nat.le_refl _) (.cells #[.int .i64 r, .int .i64 n, vd, .int .i64 actor, .int .i64 kind, .int .i64 to, .int .i64 bucket, .int .i64 mask, .int .i64 gr, .int .i64 gn, vs] 26)).alloc (by simp) (.cells #[.int .i64 r', .int .i64 n', vd', .int .i64 actor', .int .i64 kind', .int .i64 to', .int .i64 bucket', .int .i64 mask', .int .i64 gr', .int .i64 gn', vs'] 26))
  by_cases h0 : 0 ≤ r'
  · obtain ⟨a0, c0, hvd⟩ := ints_len hd
    have hmm := ints_max hd
    by_cases h1 : r' < dep.length
    · obtain ⟨k, rfl⟩ := Int.eq_ofNat_of_zero_le h0
      have hk : k < dep.length := by omega
      by_cases h2 : 1 ≤ n'
      · have HR : Hid (R = decide (n' ≤ dep.getD k 0)) := by
          show R = _
          rw [hR]; simp [h1, h2]
        clear hR hvd
        rcases hd with ⟨x, c, rfl, rfl⟩ | ⟨b, off, c, rfl, hb, hl, hm, hc⟩
        · simp at hk
        · have hck := hc k hk
          clear hc
          generalize dep.getD k 0 = x at *
          generalize dep.length = len at *
          have e1 : decide ((k : Int) < len) = true := by simp; omega
          have e2 : decide (0 ≤ (k : Int)) = true := by simp
          have e3 : decide (1 ≤ n') = true := by simp; omega
          go_enter Try.func15, Try.ntmps15
          go_wp2
          go_quiet (fail)
          go_wp2
          go_ret
          exact ⟨ret_bool HR.out.symm, below_drewN bb.out _⟩
      · have HR : Hid (R = false) := by
          show R = _
          rw [hR]; simp [h2]
        clear hR hd
        subst hvd
        generalize dep.length = len at *
        have e1 : decide ((k : Int) < len) = true := by simp; omega
        have e2 : decide (0 ≤ (k : Int)) = true := by simp
        have e3 : decide (1 ≤ n') = false := by simp; omega
        go_enter Try.func15, Try.ntmps15
        go_wp2
        go_quiet (fail)
        go_wp2
        go_ret
        exact ⟨ret_bool HR.out.symm, below_drewN bb.out _⟩
    · have HR : Hid (R = false) := by
        show R = _
        rw [hR]; simp [h1]
      clear hR hd
      subst hvd
      generalize dep.length = len at *
      have e1 : decide (r' < len) = false := by simp; omega
      have e2 : decide (0 ≤ r') = true := by simp; omega
      go_enter Try.func15, Try.ntmps15
      go_wp2
      go_quiet (fail)
      go_wp2
      go_ret
      exact ⟨ret_bool HR.out.symm, below_drewN bb.out _⟩
  · have HR : Hid (R = false) := by
      show R = _
      rw [hR]; simp [h0]
    clear hR hd
    have e2 : decide (0 ≤ r') = false := by simp; omega
    go_enter Try.func15, Try.ntmps15
    go_wp2
    go_quiet (fail)
    go_wp2
    go_ret
    exact ⟨ret_bool HR.out.symm, below_drewN bb.out _⟩

/-- the sum of a list as Go's int has it -/
def sumW (xs : List Int) : Int := xs.foldl (fun n x => wrap64 (n + x)) 0
theorem sumW_step (xs : List Int) (k : Nat) (hk : k < xs.length) : sumW (xs.take (k + 1)) = wrap64 (sumW (xs.take k) + xs.getD k 0) := by
  unfold sumW
  rw [List.take_succ_eq_append_getElem hk, List.foldl_append]
  simp [List.getD, hk]

set_option maxHeartbeats 400000 in
theorem l2sum_some (b off cap n : Nat) (xs : List Int) (w : World) (hn : xs.length = n) (hl : n ≤ 9223372036854775807)
    (hc : ∀ i, i < n → w.cell? ⟨b, off + i, none⟩ = some (.int .i64 (xs.getD i 0))) :
    Calls Try.prog 65 #[.slice (some ⟨b, off, none⟩) n cap] w fun e w' => e = .returned (.int .i64 (sumW xs)) ∧ w' = w := by
  have HN := Lib.hid hn
  have HC := Lib.hid hc
  clear hn hc
  go_enter Try.func65, Try.ntmps65
  go_wp2
  go_loop [3, 4] (fun t i => ∃ (k : Nat) (s : Int), k ≤ n ∧ i = .int .i64 k ∧ t = .int .i64 s ∧ Hid (s = sumW (xs.take k))) (fun _ i => n - (intOf i).toNat)
  case atStart => exact ⟨0, 0, Nat.zero_le _, rfl, rfl, by simp [Hid, sumW]⟩
  case round =>
    obtain ⟨k, s, hk, rfl, rfl, hs⟩ := hrel
    by_cases hlt : k < n
    · have hc1 := HC.out k hlt
      have hst := sumW_step xs k (by rw [HN.out]; exact hlt)
      generalize xs.getD k 0 = x at *
      have HS := Lib.hid hst
      clear hst
      go_wp2
      go_round
      case rel => exact ⟨k + 1, _, by omega, by go_num, rfl, by show _ = _; rw [HS.out, hs.out]⟩
      case measure => simp [intOf]; omega
    · have : k = n := by omega
      subst this
      go_wp2
      go_ret
      exact ⟨ret_int (by rw [hs.out, List.take_of_length_le (by rw [HN.out]; omega)]), rfl⟩
theorem l2sum_nil (a : Option Addr) (cap : Nat) (w : World) :
    Calls Try.prog 65 #[.slice a 0 cap] w fun e w' => e = .returned (.int .i64 (sumW [])) ∧ w' = w := by
  go_enter Try.func65, Try.ntmps65
  go_wp2
  go_loop [3, 4] (fun t i => t = .int .i64 0 ∧ i = .int .i64 0) (fun _ _ => 0)
  case atStart => exact ⟨rfl, rfl⟩
  case round =>
    obtain ⟨rfl, rfl⟩ := hrel
    go_wp2
    go_ret
    exact ⟨rfl, rfl⟩
theorem l2sum_any (v : Value) (xs : List Int) (w : World) (h : Ints w v xs) :
    Calls Try.prog 65 #[v] w fun e w' => e = .returned (.int .i64 (sumW xs)) ∧ w' = w := by
  rcases h with ⟨a, cap, rfl, rfl⟩ | ⟨b, off, cap, rfl, h1, h2, h3, h4⟩
  · exact l2sum_nil _ _ w
  · exact l2sum_some b off cap _ xs w rfl (by unfold maxLen at h3; omega) h4

def aheadM (a b : ActM) : Bool :=
  if sumW a.dep = sumW b.dep then decide (a.r < b.r) || (decide (a.r = b.r) && decide (a.n < b.n)) else decide (sumW a.dep < sumW b.dep)

set_option maxHeartbeats 800000 in
theorem specAhead_any (v v' : Value) (a b : ActM) (w : World) (h : ActIs w v a) (h' : ActIs w v' b) :
    Calls Try.prog 21 #[v, v'] w fun e w' => e = .returned (.bool (aheadM a b)) ∧ Below w.heap.size w w' := by
  obtain ⟨vd, vs, rfl, hd, hs⟩ := h
  obtain ⟨vd', vs', rfl, hd', hs'⟩ := h'
  clear hs hs'
  obtain ⟨r', n', dep', actor', kind', to', bucket', mask', gr', gn', ups'⟩ := b
  obtain ⟨r, n, dep, actor, kind, to, bucket, mask, gr, gn, ups⟩ := a
  obtain ⟨R, hR⟩ : ∃ R, R = aheadM ⟨r, n, dep, actor, kind, to, bucket, mask, gr, gn, ups⟩ ⟨r', n', dep', actor', kind', to', bucket', mask', gr', gn', ups'⟩ := ⟨_, rfl⟩
  rw [← hR]
  simp only [aheadM] at hR
  have bb := Lib.hid (((Below.refl w.heap.size w).alloc (Nat.le_refl _) (.cells #[.int .i64 r, .int .i64 n, vd, .int .i64 actor, .int .i64 kind, .int .i64 to, .int .i64 bucket, .int .i64 mask, .int .i64 gr, .int .i64 gn, vs] 26)).alloc (by simp) (.cells #[.int .i64 r', .int .i64 n', vd', .int .i64 actor', .int .i64 kind', .int .i64 to', .int .i64 bucket', .int .i64 mask', .int .i64 gr', .int .i64 gn', vs'] 26))
  have S1 := Lib.hid (fun w h => l2sum_any vd dep w h)
  have S2 := Lib.hid (fun w h => l2sum_any vd' dep' w h)
  have HD := Lib.hid hd
  have HD' := Lib.hid hd'
  clear hd hd'
  generalize sumW dep = x at *
  generalize sumW dep' = y at *
  by_cases h0 : x = y
  · subst h0
    rw [if_pos rfl] at hR
    by_cases h1 : r < r'
    · have HR := Lib.hid (show R = true by rw [hR]; simp [h1])
      clear hR
      go_enter Try.func21, Try.ntmps21
      go_wp2_with fail
      refine (S1.out _ (HD.out.below (B := 0) bb.out)).mono ?_
      rintro e w1 ⟨rfl, rfl⟩
      go_wp2_with fail
      refine (S2.out _ (HD'.out.below (B := 0) bb.out)).mono ?_
      rintro e w1 ⟨rfl, rfl⟩
      go_wp2
      go_ret
      exact ⟨ret_bool HR.out.symm, bb.out⟩
    · by_cases h2 : r = r'
      · have HR := Lib.hid (show R = decide (n < n') by rw [hR]; simp [h2])
        clear hR
        subst h2
        go_enter Try.func21, Try.ntmps21
        go_wp2_with fail
        refine (S1.out _ (HD.out.below (B := 0) bb.out)).mono ?_
        rintro e w1 ⟨rfl, rfl⟩
        go_wp2_with fail
        refine (S2.out _ (HD'.out.below (B := 0) bb.out)).mono ?_
        rintro e w1 ⟨rfl, rfl⟩
        go_wp2
        go_ret
        exact ⟨ret_bool HR.out.symm, bb.out⟩
      · have HR := Lib.hid (show R = false by rw [hR]; simp [h1, h2])
        have e1 : (r == r') = false := by simpa using h2
        have e0 : decide (r < r') = false := by simp; omega
        clear hR h2
        go_enter Try.func21, Try.ntmps21
        go_wp2_with fail
        refine (S1.out _ (HD.out.below (B := 0) bb.out)).mono ?_
        rintro e w1 ⟨rfl, rfl⟩
        go_wp2_with fail
        refine (S2.out _ (HD'.out.below (B := 0) bb.out)).mono ?_
        rintro e w1 ⟨rfl, rfl⟩
        go_wp2
        go_ret
        exact ⟨ret_bool HR.out.symm, bb.out⟩
  · rw [if_neg h0] at hR
    have HR := Lib.hid hR
    have e1 : (x == y) = false := by simpa using h0
    have e2 : (x != y) = true := by simpa using h0
    clear hR h0
    go_enter Try.func21, Try.ntmps21
    go_wp2_with fail
    refine (S1.out _ (HD.out.below (B := 0) bb.out)).mono ?_
    rintro e w1 ⟨rfl, rfl⟩
    go_wp2_with fail
    refine (S2.out _ (HD'.out.below (B := 0) bb.out)).mono ?_
    rintro e w1 ⟨rfl, rfl⟩
    go_wp2
    go_ret
    exact ⟨ret_bool HR.out.symm, bb.out⟩
end Go.Proofs.Ytcgncaiehdcooaa
