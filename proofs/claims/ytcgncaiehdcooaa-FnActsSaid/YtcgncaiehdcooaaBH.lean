/- The program's Ahead. -/
import Derived.Test.YtcgncaiehdcooaaBE
import Derived.StillTailTactics
namespace Go.Proofs.Ytcgncaiehdcooaa
open Go.RowKit
set_option linter.unusedVariables false

def cmpM (a b : Int) : Int := if a < b then -1 else if b < a then 1 else 0
theorem isNaN_any (x : Int) (w : World) : Calls Try.prog 105 #[.int .i64 x] w fun e w' => e = .returned (.bool false) ∧ w' = w := by
  go_enter Try.func105, Try.ntmps105
  go_wp2
  go_ret
  exact ⟨rfl, rfl⟩
theorem compare_any (a b : Int) (w : World) : Calls Try.prog 63 #[.int .i64 a, .int .i64 b] w fun e w' => e = .returned (.int .i64 (cmpM a b)) ∧ w' = w := by
  by_cases h1 : a < b
  · have e : cmpM a b = -1 := if_pos h1
    rw [e]
    clear e
    go_enter Try.func63, Try.ntmps63
    go_wp2_with fail
    refine (isNaN_any _ _).mono ?_
    rintro e w1 ⟨rfl, rfl⟩
    go_wp2_with fail
    refine (isNaN_any _ _).mono ?_
    rintro e w1 ⟨rfl, rfl⟩
    go_wp2_with fail
    go_ret
    exact ⟨rfl, rfl⟩
  · by_cases h2 : b < a
    · have e : cmpM a b = 1 := by rw [cmpM, if_neg h1, if_pos h2]
      rw [e]
      clear e
      go_enter Try.func63, Try.ntmps63
      go_wp2_with fail
      refine (isNaN_any _ _).mono ?_
      rintro e w1 ⟨rfl, rfl⟩
      go_wp2_with fail
      refine (isNaN_any _ _).mono ?_
      rintro e w1 ⟨rfl, rfl⟩
      go_wp2_with fail
      go_ret
      exact ⟨rfl, rfl⟩
    · have e : cmpM a b = 0 := by rw [cmpM, if_neg h1, if_neg h2]
      rw [e]
      clear e
      go_enter Try.func63, Try.ntmps63
      go_wp2_with fail
      refine (isNaN_any _ _).mono ?_
      rintro e w1 ⟨rfl, rfl⟩
      go_wp2_with fail
      refine (isNaN_any _ _).mono ?_
      rintro e w1 ⟨rfl, rfl⟩
      go_wp2_with fail
      go_ret
      exact ⟨rfl, rfl⟩

/-- the first one that is not 0 -/
def orM : List Int → Int
  | [] => 0
  | x :: xs => if x = 0 then orM xs else x
theorem orM_hit (xs : List Int) (k : Nat) (hk : k < xs.length) (h : ∀ j, j < k → xs.getD j 0 = 0) (hx : xs.getD k 0 ≠ 0) : orM xs = xs.getD k 0 := by
  induction k generalizing xs with
  | zero =>
    match xs, hk with
    | x :: xs, _ => simp at hx; simp [orM, hx]
  | succ k ih =>
    match xs, hk with
    | x :: xs, hk =>
      have h0 : x = 0 := by simpa using h 0 (by omega)
      rw [orM, if_pos h0]
      simp only [List.getD_cons_succ] at hx ⊢
      exact ih xs (by simpa using hk) (fun j hj => by simpa using h (j + 1) (by omega)) hx
theorem orM_zero (xs : List Int) (h : ∀ j, j < xs.length → xs.getD j 0 = 0) : orM xs = 0 := by
  induction xs with
  | nil => rfl
  | cons x xs ih =>
    have h0 : x = 0 := by simpa using h 0 (by simp)
    rw [orM, if_pos h0]
    exact ih fun j hj => by simpa using h (j + 1) (by simpa using hj)
theorem zero_step {xs : List Int} {k : Nat} (h : ∀ j, j < k → xs.getD j 0 = 0) (hx : xs.getD k 0 = 0) : ∀ j, j < k + 1 → xs.getD j 0 = 0 := by
  intro j hj
  by_cases e : j = k
  · rw [e]; exact hx
  · exact h j (by omega)

theorem or_some (b off cap n : Nat) (xs : List Int) (w : World) (hn : xs.length = n) (hl : n ≤ 9223372036854775807)
    (hc : ∀ i, i < n → w.cell? ⟨b, off + i, none⟩ = some (.int .i64 (xs.getD i 0))) :
    Calls Try.prog 62 #[.slice (some ⟨b, off, none⟩) n cap] w fun e w' => e = .returned (.int .i64 (orM xs)) ∧ w' = w := by
  have HN := Lib.hid hn
  have HC := Lib.hid hc
  clear hn hc
  go_enter Try.func62, Try.ntmps62
  go_wp2
  go_loop [8] (fun i => ∃ k : Nat, k ≤ n ∧ i = .int .i64 k ∧ Hid (∀ j, j < k → xs.getD j 0 = 0)) (fun i => n - (intOf i).toNat)
  case atStart => exact ⟨0, Nat.zero_le _, rfl, by intro j hj; omega⟩
  case round =>
    obtain ⟨k, hk, rfl, hz⟩ := hrel
    by_cases hlt : k < n
    · have hc1 := HC.out k hlt
      obtain ⟨x, hx⟩ : ∃ x, xs.getD k 0 = x := ⟨_, rfl⟩
      rw [hx] at hc1
      have HX := Lib.hid hx
      clear hx
      by_cases h0 : x = 0
      · subst h0
        go_wp2
        go_round
        case rel => exact ⟨k + 1, by omega, by go_num, zero_step hz.out HX.out⟩
        case measure => simp [intOf]; omega
      · have e1 : (x == 0) = false := by simpa using h0
        have e2 : (x != 0) = true := by simpa using h0
        have HH := Lib.hid h0
        clear h0
        go_wp2
        go_ret
        exact ⟨ret_int (by rw [orM_hit xs k (by rw [HN.out]; exact hlt) hz.out (by rw [HX.out]; exact HH.out), HX.out]), rfl⟩
    · have : k = n := by omega
      subst this
      go_wp2
      go_ret
      exact ⟨ret_int (orM_zero xs (by rw [HN.out]; exact hz.out)).symm, rfl⟩

theorem ahead_eq (a b : ActM) : aheadM a b = decide (orM [cmpM (sumW a.dep) (sumW b.dep), cmpM a.r b.r, cmpM a.n b.n] < 0) := by
  unfold aheadM
  by_cases h : sumW a.dep = sumW b.dep
  · rw [if_pos h]
    have e : cmpM (sumW a.dep) (sumW b.dep) = 0 := by simp [cmpM, h]
    rw [e]
    simp only [orM, if_true]
    by_cases h1 : a.r < b.r
    · have e1 : cmpM a.r b.r = -1 := if_pos h1
      rw [e1]; simp [h1]
    · by_cases h2 : b.r < a.r
      · have e1 : cmpM a.r b.r = 1 := by rw [cmpM, if_neg h1, if_pos h2]
        have h3 : ¬ a.r = b.r := by omega
        rw [e1]; simp [h1, h3]
      · have e1 : cmpM a.r b.r = 0 := by rw [cmpM, if_neg h1, if_neg h2]
        have h3 : a.r = b.r := by omega
        rw [e1]
        simp only [h3, if_true, decide_true, Bool.true_and]
        by_cases g1 : a.n < b.n
        · have e2 : cmpM a.n b.n = -1 := if_pos g1
          rw [e2]; simp [g1]
        · by_cases g2 : b.n < a.n
          · have e2 : cmpM a.n b.n = 1 := by rw [cmpM, if_neg g1, if_pos g2]
            rw [e2]; simp [g1]
          · have e2 : cmpM a.n b.n = 0 := by rw [cmpM, if_neg g1, if_neg g2]
            rw [e2]; simp [g1]
  · rw [if_neg h]
    by_cases h1 : sumW a.dep < sumW b.dep
    · have e : cmpM (sumW a.dep) (sumW b.dep) = -1 := if_pos h1
      rw [e]; simp [orM, h1]
    · have e : cmpM (sumW a.dep) (sumW b.dep) = 1 := by rw [cmpM, if_neg h1, if_pos (by omega)]
      rw [e]; simp [orM, h1]

set_option maxRecDepth 100000 in
set_option maxHeartbeats 3200000 in
theorem implAhead_any : ImplAhead := by
  intro v v' a b w h h'
  rw [ahead_eq]
  obtain ⟨vd, vs, rfl, hd, hs⟩ := h
  obtain ⟨vd', vs', rfl, hd', hs'⟩ := h'
  clear hs hs'
  obtain ⟨r', n', dep', actor', kind', dst', bucket', mask', gr', gn', ups'⟩ := b
  obtain ⟨r, n, dep, actor, kind, dst, bucket, mask, gr, gn, ups⟩ := a
  simp only at hd hd' ⊢
  have bb := Lib.hid (((Below.refl w.heap.size w).alloc (Nat.le_refl _) (.cells #[.int .i64 r, .int .i64 n, vd, .int .i64 actor, .int .i64 kind, .int .i64 dst, .int .i64 bucket, .int .i64 mask, .int .i64 gr, .int .i64 gn, vs] 26)).alloc (by simp) (.cells #[.int .i64 r', .int .i64 n', vd', .int .i64 actor', .int .i64 kind', .int .i64 dst', .int .i64 bucket', .int .i64 mask', .int .i64 gr', .int .i64 gn', vs'] 26))
  have S1 := Lib.hid (fun w h => total_any vd dep w h)
  have S2 := Lib.hid (fun w h => total_any vd' dep' w h)
  have HD := Lib.hid hd
  have HD' := Lib.hid hd'
  clear hd hd'
  generalize sumW dep = x at *
  generalize sumW dep' = y at *
  have C1 := Lib.hid (fun w => compare_any x y w)
  have C2 := Lib.hid (fun w => compare_any r r' w)
  have C3 := Lib.hid (fun w => compare_any n n' w)
  generalize cmpM x y = p at *
  generalize cmpM r r' = q at *
  generalize cmpM n n' = s at *
  obtain ⟨z, hz⟩ : ∃ z, z = orM [p, q, s] := ⟨_, rfl⟩
  rw [← hz]
  have HZ := Lib.hid hz
  clear hz
  go_enter Try.func20, Try.ntmps20
  go_wp2_with fail
  have k0 := ((Blk.new w #[.int .i64 r, .int .i64 n, vd, .int .i64 actor, .int .i64 kind, .int .i64 dst, .int .i64 bucket, .int .i64 mask, .int .i64 gr, .int .i64 gn, vs] 26).alloc (.cells #[.int .i64 r', .int .i64 n', vd', .int .i64 actor', .int .i64 kind', .int .i64 dst', .int .i64 bucket', .int .i64 mask', .int .i64 gr', .int .i64 gn', vs'] 26)).cell
  have k1 := (Blk.new (w.alloc (.cells #[.int .i64 r, .int .i64 n, vd, .int .i64 actor, .int .i64 kind, .int .i64 dst, .int .i64 bucket, .int .i64 mask, .int .i64 gr, .int .i64 gn, vs] 26)) #[.int .i64 r', .int .i64 n', vd', .int .i64 actor', .int .i64 kind', .int .i64 dst', .int .i64 bucket', .int .i64 mask', .int .i64 gr', .int .i64 gn', vs'] 26).cell
  simp only [World.size_alloc] at k1
  obtain ⟨W3, hW3⟩ : ∃ W3, W3 = ((w.alloc (.cells #[.int .i64 r, .int .i64 n, vd, .int .i64 actor, .int .i64 kind, .int .i64 dst, .int .i64 bucket, .int .i64 mask, .int .i64 gr, .int .i64 gn, vs] 26)).alloc (.cells #[.int .i64 r', .int .i64 n', vd', .int .i64 actor', .int .i64 kind', .int .i64 dst', .int .i64 bucket', .int .i64 mask', .int .i64 gr', .int .i64 gn', vs'] 26)) := ⟨_, rfl⟩
  rw [← hW3] at k0 k1 bb ⊢
  clear hW3
  have c0 : W3.cell? ⟨w.heap.size, 0, none⟩ = some (.int .i64 r) := k0 0
  have c1 : W3.cell? ⟨w.heap.size, 1, none⟩ = some (.int .i64 n) := k0 1
  have c2 : W3.cell? ⟨w.heap.size, 2, none⟩ = some vd := k0 2
  have d0 : W3.cell? ⟨w.heap.size + 1, 0, none⟩ = some (.int .i64 r') := k1 0
  have d1 : W3.cell? ⟨w.heap.size + 1, 1, none⟩ = some (.int .i64 n') := k1 1
  have d2 : W3.cell? ⟨w.heap.size + 1, 2, none⟩ = some vd' := k1 2
  clear k0 k1
  refine wp_region_still_tail 17 (by kernel_rfl) (by kernel_rfl) ?_
  simp only [List.take_succ_cons, List.take_zero, List.drop_succ_cons, List.drop_zero]
  change wpStill _ _ W3.drew _ _ _
  have B1 := Lib.hid bb.out.drew
  repeat still_step
  still_call (S1.out _ (HD.out.below (B := 0) B1.out))
  repeat still_step
  still_call (S2.out _ (HD'.out.below (B := 0) B1.out))
  still_call (C1.out _)
  repeat still_step
  still_call (C2.out _)
  repeat still_step
  still_call (C3.out _)
  refine wpStill_nil ?_
  change wpList _ _ _ _ _ W3.drew
  generalize W3.drew = w2 at *
  have O1 := Lib.hid (or_some w2.heap.size 0 3 3 [p, q, s] (w2.alloc (.cells #[.int .i64 p, .int .i64 q, .int .i64 s] 3)) rfl (by omega) (by
    intro i hi
    rw [Nat.zero_add, (Blk.new w2 #[.int .i64 p, .int .i64 q, .int .i64 s] 3).cell i]
    match i, hi with
    | 0, _ => rfl
    | 1, _ => rfl
    | 2, _ => rfl))
  have B2 := Lib.hid (B1.out.alloc B1.out.size (.cells #[.int .i64 p, .int .i64 q, .int .i64 s] 3))
  rw [← HZ.out] at O1
  clear c0 c1 c2 d0 d1 d2
  go_wp2_with fail
  refine O1.out.mono ?_
  rintro e w4 ⟨rfl, rfl⟩
  go_wp2_with fail
  go_ret
  exact ⟨rfl, B2.out⟩
end Go.Proofs.Ytcgncaiehdcooaa
