/- AK, AJ, MD. -/
import Derived.Test.YtkcfcmigcphjlaaGreatGA
import Derived.BigQuiet
import Derived.Deep.QuietTactic



namespace Go.Proofs.YtkcfcmigcphjlaaGreat
open Go.RowKit
set_option linter.unusedVariables false

set_option maxHeartbeats 400000 in
theorem l2same_some (b off cap b' off' cap' n m : Nat) (xs ys : List Int) (w : World) (hn : xs.length = n) (hm : ys.length = m) (hl : n ≤ 9223372036854775807) (hl' : m ≤ 9223372036854775807)
    (hc : ∀ i, i < n → w.cell? ⟨b, off + i, none⟩ = some (.int .i64 (xs.getD i 0))) (hc' : ∀ i, i < m → w.cell? ⟨b', off' + i, none⟩ = some (.int .i64 (ys.getD i 0))) :
    Calls Tryz.prog 92 #[.slice (some ⟨b, off, none⟩) n cap, .slice (some ⟨b', off', none⟩) m cap'] w fun e w' =>
      e = .returned (.bool (eqB xs ys)) ∧ ∃ q, w' = w.drewN q := by
  have HN := Lib.hid hn
  have HM := Lib.hid hm
  clear hn hm
  by_cases h1 : n = m
  · subst h1
    go_enter Tryz.func92, Tryz.ntmps92
    go_wp2
    go_loopw [5] (fun i wr => ∃ k q : Nat, k ≤ n ∧ i = .int .i64 k ∧ Hid (xs.take k = ys.take k) ∧ wr = w.drewN q) (fun i _ => n - (intOf i).toNat)
    case atStart => exact ⟨0, 0, Nat.zero_le _, rfl, by simp [Hid], rfl⟩
    case round =>
      obtain ⟨k, q, hk, rfl, hg, rfl⟩ := hrel
      by_cases hlt : k < n
      · have hc1 := hc k hlt
        have hc2 := hc' k hlt
        clear hc hc'
        obtain ⟨x, hx⟩ : ∃ x, xs.getD k 0 = x := ⟨_, rfl⟩
        obtain ⟨y, hy⟩ : ∃ y, ys.getD k 0 = y := ⟨_, rfl⟩
        rw [hx] at hc1
        rw [hy] at hc2
        have HX := Lib.hid hx
        have HY := Lib.hid hy
        clear hx hy
        have i0 : (0 : Int) ≤ k := by omega
        have i1 : (k : Int) < n := by omega
        by_cases hx0 : x = y
        · subst hx0
          go_wp2
          go_quiet (fail)
          go_wp2
          go_roundw
          case rel => exact ⟨k + 1, _, by omega, by go_num, take_eq_step xs ys k (by rw [HN.out]; omega) (by rw [HM.out]; omega) hg.out (by rw [HX.out, HY.out]), rfl⟩
          case measure => simp [intOf]; omega
        · have e1 : (x == y) = false := by simpa using hx0
          have e2 : (x != y) = true := by simpa using hx0
          go_wp2
          go_quiet (fail)
          go_wp2
          go_ret
          exact ⟨ret_bool (eqB_bad xs ys k (by rw [HX.out, HY.out]; exact hx0)).symm, _, World.drewN_drewN ..⟩
      · go_wp2
        go_ret
        exact ⟨ret_bool (eqB_all xs ys k (by rw [HN.out]; omega) (by rw [HM.out]; omega) hg.out).symm, q, rfl⟩
  · have hb : ((n : Int) == (m : Int)) = false := by simp; omega
    have hb' : ((n : Int) != (m : Int)) = true := by simp; omega
    go_enter Tryz.func92, Tryz.ntmps92
    go_wp2
    go_ret
    exact ⟨ret_bool (eqB_len xs ys (by rw [HN.out, HM.out]; exact h1)).symm, 0, rfl⟩

theorem l2same_nil_nil (a a' : Option Addr) (c c' : Nat) (w : World) : Calls Tryz.prog 92 #[.slice a 0 c, .slice a' 0 c'] w fun e w' => e = .returned (.bool (eqB [] [])) ∧ ∃ q, w' = w.drewN q := by
  go_enter Tryz.func92, Tryz.ntmps92
  go_wp2
  go_loop [5] (fun i => i = .int .i64 0) (fun _ => 0)
  case atStart => rfl
  case round =>
    obtain rfl := hrel
    go_wp2
    go_ret
    exact ⟨rfl, 0, rfl⟩
theorem l2same_nil_some (a : Option Addr) (c b off cap n : Nat) (xs : List Int) (w : World) (hn : xs.length = n) (hl : n ≤ 9223372036854775807) :
    Calls Tryz.prog 92 #[.slice a 0 c, .slice (some ⟨b, off, none⟩) n cap] w fun e w' => e = .returned (.bool (eqB [] xs)) ∧ ∃ q, w' = w.drewN q := by
  by_cases h : n = 0
  · subst h
    obtain rfl := List.eq_nil_of_length_eq_zero hn
    clear hn
    go_enter Tryz.func92, Tryz.ntmps92
    go_wp2
    go_loop [5] (fun i => i = .int .i64 0) (fun _ => 0)
    case atStart => rfl
    case round =>
      obtain rfl := hrel
      go_wp2
      go_ret
      exact ⟨rfl, 0, rfl⟩
  · have HN := Lib.hid hn
    clear hn
    have hb : ((0 : Int) == (n : Int)) = false := by simp; omega
    have hb' : ((0 : Int) != (n : Int)) = true := by simp; omega
    go_enter Tryz.func92, Tryz.ntmps92
    go_wp2
    go_ret
    exact ⟨ret_bool (eqB_len [] xs (by rw [HN.out]; simp; omega)).symm, 0, rfl⟩
theorem l2same_some_nil (a : Option Addr) (c b off cap n : Nat) (xs : List Int) (w : World) (hn : xs.length = n) (hl : n ≤ 9223372036854775807) :
    Calls Tryz.prog 92 #[.slice (some ⟨b, off, none⟩) n cap, .slice a 0 c] w fun e w' => e = .returned (.bool (eqB xs [])) ∧ ∃ q, w' = w.drewN q := by
  by_cases h : n = 0
  · subst h
    obtain rfl := List.eq_nil_of_length_eq_zero hn
    clear hn
    go_enter Tryz.func92, Tryz.ntmps92
    go_wp2
    go_loop [5] (fun i => i = .int .i64 0) (fun _ => 0)
    case atStart => rfl
    case round =>
      obtain rfl := hrel
      go_wp2
      go_ret
      exact ⟨rfl, 0, rfl⟩
  · have HN := Lib.hid hn
    clear hn
    have hb : ((n : Int) == 0) = false := by simp; omega
    have hb' : ((n : Int) != 0) = true := by simp; omega
    go_enter Tryz.func92, Tryz.ntmps92
    go_wp2
    go_ret
    exact ⟨ret_bool (eqB_len xs [] (by rw [HN.out]; simp; omega)).symm, 0, rfl⟩

theorem l2same_any (v v' : Value) (xs ys : List Int) (w : World) (h : Ints w v xs) (h' : Ints w v' ys) :
    Calls Tryz.prog 92 #[v, v'] w fun e w' => e = .returned (.bool (eqB xs ys)) ∧ ∃ q, w' = w.drewN q := by
  rcases h with ⟨a, cap, rfl, rfl⟩ | ⟨b, off, cap, rfl, h1, h2, h3, h4⟩ <;> rcases h' with ⟨a', cap', rfl, rfl⟩ | ⟨b', off', cap', rfl, h1', h2', h3', h4'⟩
  · exact l2same_nil_nil _ _ _ _ w
  · exact l2same_nil_some _ _ _ _ _ _ _ w rfl (by unfold maxLen at h3'; omega)
  · exact l2same_some_nil _ _ _ _ _ _ _ w rfl (by unfold maxLen at h3; omega)
  · exact l2same_some _ _ _ _ _ _ _ _ xs ys w rfl rfl (by unfold maxLen at h3; omega) (by unfold maxLen at h3'; omega) h4 h4'

theorem ups_take_step (us vs : List UpM) (k : Nat) (hu : k < us.length) (hv : k < vs.length) (h : us.take k = vs.take k) (e : us.getD k up0 = vs.getD k up0) : us.take (k + 1) = vs.take (k + 1) := by
  rw [List.take_succ_eq_append_getElem hu, List.take_succ_eq_append_getElem hv, h]
  simp only [List.getD, List.getElem?_eq_getElem hu, List.getElem?_eq_getElem hv, Option.getD_some] at e
  rw [e]

set_option maxHeartbeats 3200000 in
theorem specSame_ups (r n actor kind to bucket mask gr gn : Int) (vd vd' : Value) (dep dep' : List Int) (ups ups' : List UpM) (b off cap b' off' cap' len : Nat) (w : World)
    (hd : Ints w vd dep) (hd' : Ints w vd' dep') (h1 : ups.length = len) (h2 : ups'.length = len) (hl : len ≤ 9223372036854775807) (hb : b < w.heap.size) (hb' : b' < w.heap.size)
    (hc : ∀ i, i < len → UpAt w b (off + i * 4) (ups.getD i up0)) (hc' : ∀ i, i < len → UpAt w b' (off' + i * 4) (ups'.getD i up0)) :
    Calls Tryz.prog 63 #[.agg #[.int .i64 r, .int .i64 n, vd, .int .i64 actor, .int .i64 kind, .int .i64 to, .int .i64 bucket, .int .i64 mask, .int .i64 gr, .int .i64 gn, .slice (some ⟨b, off, none⟩) len cap],
      .agg #[.int .i64 r, .int .i64 n, vd', .int .i64 actor, .int .i64 kind, .int .i64 to, .int .i64 bucket, .int .i64 mask, .int .i64 gr, .int .i64 gn, .slice (some ⟨b', off', none⟩) len cap']] w fun e w' => e = .returned (.bool (decide (ups = ups') && eqB dep dep')) ∧ Below w.heap.size w w' := by
  have bb := Lib.hid (((Below.refl w.heap.size w).alloc (Nat.le_refl _) (.cells #[.int .i64 r, .int .i64 n, vd, .int .i64 actor, .int .i64 kind, .int .i64 to, .int .i64 bucket, .int .i64 mask, .int .i64 gr, .int .i64 gn, .slice (some ⟨b, off, none⟩) len cap] 33)).alloc (by simp) (.cells #[.int .i64 r, .int .i64 n, vd', .int .i64 actor, .int .i64 kind, .int .i64 to, .int .i64 bucket, .int .i64 mask, .int .i64 gr, .int .i64 gn, .slice (some ⟨b', off', none⟩) len cap'] 33))
  have HD := Lib.hid hd
  have HD' := Lib.hid hd'
  have N1 := Lib.hid h1
  have N2 := Lib.hid h2
  have HC := Lib.hid hc
  have HC' := Lib.hid hc'
  obtain ⟨R, hR⟩ : ∃ R, R = (decide (ups = ups') && eqB dep dep') := ⟨_, rfl⟩
  rw [← hR]
  have HR := Lib.hid hR
  clear hd hd' h1 h2 hc hc' hR
  go_enter Tryz.func63, Tryz.ntmps63
  go_wp2
  go_loopw [5] (fun i wr => ∃ k q : Nat, k ≤ len ∧ i = .int .i64 k ∧ Hid (ups.take k = ups'.take k) ∧ wr = ((w.alloc (.cells #[.int .i64 r, .int .i64 n, vd, .int .i64 actor, .int .i64 kind, .int .i64 to, .int .i64 bucket, .int .i64 mask, .int .i64 gr, .int .i64 gn, .slice (some ⟨b, off, none⟩) len cap] 33)).alloc (.cells #[.int .i64 r, .int .i64 n, vd', .int .i64 actor, .int .i64 kind, .int .i64 to, .int .i64 bucket, .int .i64 mask, .int .i64 gr, .int .i64 gn, .slice (some ⟨b', off', none⟩) len cap'] 33)).drewN q) (fun i _ => len - (intOf i).toNat)
  case atStart => exact ⟨0, 0, Nat.zero_le _, rfl, by simp [Hid], rfl⟩
  case round =>
    obtain ⟨k, q, hk, rfl, hg, rfl⟩ := hrel
    by_cases hlt : k < len
    · obtain ⟨c0, c1, c2, c3⟩ := HC.out k hlt
      obtain ⟨d0, d1, d2, d3⟩ := HC'.out k hlt
      obtain ⟨u, hu⟩ : ∃ u, ups.getD k up0 = u := ⟨_, rfl⟩
      obtain ⟨u', hu'⟩ : ∃ u, ups'.getD k up0 = u := ⟨_, rfl⟩
      rw [hu] at c0 c1 c2 c3
      rw [hu'] at d0 d1 d2 d3
      have HU := Lib.hid hu
      have HU' := Lib.hid hu'
      clear hu hu'
      have i0 : (0 : Int) ≤ k := by omega
      have i1 : (k : Int) < len := by omega
      by_cases he : u = u'
      · subst he
        go_wp2
        go_quiet (fail)
        go_wp2
        go_roundw
        case rel => exact ⟨k + 1, _, by omega, by go_num, ups_take_step ups ups' k (by rw [N1.out]; exact hlt) (by rw [N2.out]; exact hlt) hg.out (by rw [HU.out, HU'.out]), rfl⟩
        case measure => simp [intOf]; omega
      · have HRF : Hid (R = false) := by
          show R = false
          rw [HR.out]
          have : ups ≠ ups' := by intro e; apply he; rw [← HU.out, ← HU'.out, e]
          simp [this]
        obtain ⟨x0, x1, x2, x3⟩ := u
        obtain ⟨y0, y1, y2, y3⟩ := u'
        simp only at c0 c1 c2 c3 d0 d1 d2 d3
        have hcases : x0 ≠ y0 ∨ (x0 = y0 ∧ x1 ≠ y1) ∨ (x0 = y0 ∧ x1 = y1 ∧ x2 ≠ y2) ∨ (x0 = y0 ∧ x1 = y1 ∧ x2 = y2 ∧ x3 ≠ y3) := by
          by_cases p0 : x0 = y0
          · by_cases p1 : x1 = y1
            · by_cases p2 : x2 = y2
              · by_cases p3 : x3 = y3
                · exact absurd (by rw [p0, p1, p2, p3]) he
                · exact .inr (.inr (.inr ⟨p0, p1, p2, p3⟩))
              · exact .inr (.inr (.inl ⟨p0, p1, p2⟩))
            · exact .inr (.inl ⟨p0, p1⟩)
          · exact .inl p0
        clear he HU HU'
        rcases hcases with p | ⟨rfl, p⟩ | ⟨rfl, rfl, p⟩ | ⟨rfl, rfl, rfl, p⟩
        · have e1 : (x0 == y0) = false := by simpa using p
          clear p
          go_wp2
          go_quiet (fail)
          go_wp2
          go_ret
          exact ⟨ret_bool HRF.out.symm, below_drewN (below_drewN bb.out _) _⟩
        · have e1 : (x1 == y1) = false := by simpa using p
          clear p
          go_wp2
          go_quiet (fail)
          go_wp2
          go_ret
          exact ⟨ret_bool HRF.out.symm, below_drewN (below_drewN bb.out _) _⟩
        · have e1 : (x2 == y2) = false := by simpa using p
          clear p
          go_wp2
          go_quiet (fail)
          go_wp2
          go_ret
          exact ⟨ret_bool HRF.out.symm, below_drewN (below_drewN bb.out _) _⟩
        · have e1 : (x3 == y3) = false := by simpa using p
          clear p
          go_wp2
          go_quiet (fail)
          go_wp2
          go_ret
          exact ⟨ret_bool HRF.out.symm, below_drewN (below_drewN bb.out _) _⟩
    · have HRT : Hid (R = eqB dep dep') := by
        show R = _
        have hkl : k = len := by omega
        have e : ups = ups' := by
          have := hg.out
          rw [List.take_of_length_le (by rw [N1.out]; omega), List.take_of_length_le (by rw [N2.out]; omega)] at this
          exact this
        rw [HR.out, e]
        simp
      go_wp2_with fail
      refine (l2same_any _ _ dep dep' _ ((HD.out.below (B := 0) (below_drewN bb.out q))) (HD'.out.below (B := 0) (below_drewN bb.out q))).mono ?_
      rintro e w1 ⟨rfl, q1, rfl⟩
      go_wp2
      go_ret
      exact ⟨ret_bool HRT.out.symm, by repeat (first | exact bb.out | refine below_drewN ?_ _)⟩

set_option maxHeartbeats 1600000 in
theorem specSame_nil (r n actor kind to bucket mask gr gn : Int) (vd vd' : Value) (dep dep' : List Int) (a a' : Option Addr) (cap cap' : Nat) (w : World)
    (hd : Ints w vd dep) (hd' : Ints w vd' dep') :
    Calls Tryz.prog 63 #[.agg #[.int .i64 r, .int .i64 n, vd, .int .i64 actor, .int .i64 kind, .int .i64 to, .int .i64 bucket, .int .i64 mask, .int .i64 gr, .int .i64 gn, .slice a 0 cap],
      .agg #[.int .i64 r, .int .i64 n, vd', .int .i64 actor, .int .i64 kind, .int .i64 to, .int .i64 bucket, .int .i64 mask, .int .i64 gr, .int .i64 gn, .slice a' 0 cap']] w fun e w' => e = .returned (.bool (eqB dep dep')) ∧ Below w.heap.size w w' := by
  have bb := Lib.hid (((Below.refl w.heap.size w).alloc (Nat.le_refl _) (.cells #[.int .i64 r, .int .i64 n, vd, .int .i64 actor, .int .i64 kind, .int .i64 to, .int .i64 bucket, .int .i64 mask, .int .i64 gr, .int .i64 gn, .slice a 0 cap] 33)).alloc (by simp) (.cells #[.int .i64 r, .int .i64 n, vd', .int .i64 actor, .int .i64 kind, .int .i64 to, .int .i64 bucket, .int .i64 mask, .int .i64 gr, .int .i64 gn, .slice a' 0 cap'] 33))
  have HD := Lib.hid hd
  have HD' := Lib.hid hd'
  clear hd hd'
  go_enter Tryz.func63, Tryz.ntmps63
  go_wp2
  go_loop [5] (fun i => i = .int .i64 0) (fun _ => 0)
  case atStart => rfl
  case round =>
    obtain rfl := hrel
    go_wp2_with fail
    refine (l2same_any _ _ dep dep' _ (HD.out.below (B := 0) bb.out) (HD'.out.below (B := 0) bb.out)).mono ?_
    rintro e w1 ⟨rfl, q1, rfl⟩
    go_wp2
    go_ret
    exact ⟨rfl, below_drewN bb.out _⟩
end Go.Proofs.YtkcfcmigcphjlaaGreat



namespace Go.Proofs.YtkcfcmigcphjlaaGreat
open Go.RowKit
set_option linter.unusedVariables false


theorem sameM_no {a b : ActM} (h : a ≠ b) : sameM a b = false := by simp [sameM, h]

set_option maxHeartbeats 3200000 in
theorem specSame_any : SpecSameAct := by
  intro v v' a b w h h'
  obtain ⟨vd, vs, rfl, hd, hs⟩ := h
  obtain ⟨vd', vs', rfl, hd', hs'⟩ := h'
  obtain ⟨r', n', dep', actor', kind', to', bucket', mask', gr', gn', ups'⟩ := b
  obtain ⟨r, n, dep, actor, kind, to, bucket, mask, gr, gn, ups⟩ := a
  obtain ⟨ua, uc, hvs⟩ := ups_len hs
  obtain ⟨ua', uc', hvs'⟩ := ups_len hs'
  have um := ups_max hs
  have um' := ups_max hs'
  simp only at *
  obtain ⟨R, hR⟩ : ∃ R, R = sameM ⟨r, n, dep, actor, kind, to, bucket, mask, gr, gn, ups⟩ ⟨r', n', dep', actor', kind', to', bucket', mask', gr', gn', ups'⟩ := ⟨_, rfl⟩
  rw [← hR]
  have bb := Lib.hid (((Below.refl w.heap.size w).alloc (Nat.le_refl _) (.cells #[.int .i64 r, .int .i64 n, vd, .int .i64 actor, .int .i64 kind, .int .i64 to, .int .i64 bucket, .int .i64 mask, .int .i64 gr, .int .i64 gn, vs] 33)).alloc (by simp) (.cells #[.int .i64 r', .int .i64 n', vd', .int .i64 actor', .int .i64 kind', .int .i64 to', .int .i64 bucket', .int .i64 mask', .int .i64 gr', .int .i64 gn', vs'] 33))
  by_cases q0 : r = r'
  · subst q0
    by_cases q1 : n = n'
    · subst q1
      by_cases q2 : actor = actor'
      · subst q2
        by_cases q3 : kind = kind'
        · subst q3
          by_cases q4 : to = to'
          · subst q4
            by_cases q5 : bucket = bucket'
            · subst q5
              by_cases q6 : mask = mask'
              · subst q6
                by_cases q7 : gr = gr'
                · subst q7
                  by_cases q8 : gn = gn'
                  · subst q8
                    by_cases hl : ups.length = ups'.length
                    · have hRE : R = (decide (ups = ups') && eqB dep dep') := by
                        rw [hR, Bool.eq_iff_iff]
                        simp [sameM, eqB, and_comm]
                      clear hvs hvs' bb hR
                      rcases hs with ⟨a, cap, rfl, rfl⟩ | ⟨b, off, cap, rfl, k1, k2, k3, k4⟩
                      · have hz : ups' = [] := List.eq_nil_of_length_eq_zero (by simpa using hl.symm)
                        subst hz
                        obtain ⟨a', cap', hv'⟩ := ups_len hs'
                        subst hv'
                        refine (specSame_nil r n actor kind to bucket mask gr gn vd vd' dep dep' a a' cap cap' w hd hd').mono ?_
                        rintro e w' ⟨rfl, hb⟩
                        exact ⟨ret_bool (by rw [hRE]; simp), hb⟩
                      · rcases hs' with ⟨a', cap', rfl, rfl⟩ | ⟨b', off', cap', rfl, k1', k2', k3', k4'⟩
                        · have hz : ups = [] := List.eq_nil_of_length_eq_zero (by simpa using hl)
                          subst hz
                          refine (specSame_nil r n actor kind to bucket mask gr gn vd vd' dep dep' _ a' cap cap' w hd hd').mono ?_
                          rintro e w' ⟨rfl, hb⟩
                          exact ⟨ret_bool (by rw [hRE]; simp), hb⟩
                        · rw [hRE, ← hl]
                          exact specSame_ups r n actor kind to bucket mask gr gn vd vd' dep dep' ups ups' b off cap b' off' cap' ups.length w hd hd' rfl hl.symm um k1 k1' k4 (by rw [hl]; exact k4')
                    · have HR := Lib.hid (show R = false by rw [hR]; exact sameM_no (by intro e; injection e with _ _ _ _ _ _ _ _ _ _ e; exact hl (by rw [e])))
                      subst hvs hvs'
                      generalize ups.length = l1 at *
                      generalize ups'.length = l2 at *
                      have e1 : ((l1 : Int) == l2) = false := by simp; omega
                      have e2 : ((l1 : Int) != l2) = true := by simp; omega
                      clear hR hd hs hd' hs' hl
                      go_enter Tryz.func63, Tryz.ntmps63
                      go_wp2
                      go_ret
                      exact ⟨ret_bool HR.out.symm, bb.out⟩
                  · have HR := Lib.hid (show R = false by rw [hR]; exact sameM_no (by intro e; injection e with _ _ _ _ _ _ _ _ _ e _; exact q8 e))
                    have e1 : (gn == gn') = false := by simpa using q8
                    have e2 : (gn != gn') = true := by simpa using q8
                    clear hR hd hs hd' hs' q8 hvs hvs' um um'
                    go_enter Tryz.func63, Tryz.ntmps63
                    go_wp2
                    go_ret
                    exact ⟨ret_bool HR.out.symm, bb.out⟩
                · have HR := Lib.hid (show R = false by rw [hR]; exact sameM_no (by intro e; injection e with _ _ _ _ _ _ _ _ e _ _; exact q7 e))
                  have e1 : (gr == gr') = false := by simpa using q7
                  have e2 : (gr != gr') = true := by simpa using q7
                  clear hR hd hs hd' hs' q7 hvs hvs' um um'
                  go_enter Tryz.func63, Tryz.ntmps63
                  go_wp2
                  go_ret
                  exact ⟨ret_bool HR.out.symm, bb.out⟩
              · have HR := Lib.hid (show R = false by rw [hR]; exact sameM_no (by intro e; injection e with _ _ _ _ _ _ _ e _ _ _; exact q6 e))
                have e1 : (mask == mask') = false := by simpa using q6
                have e2 : (mask != mask') = true := by simpa using q6
                clear hR hd hs hd' hs' q6 hvs hvs' um um'
                go_enter Tryz.func63, Tryz.ntmps63
                go_wp2
                go_ret
                exact ⟨ret_bool HR.out.symm, bb.out⟩
            · have HR := Lib.hid (show R = false by rw [hR]; exact sameM_no (by intro e; injection e with _ _ _ _ _ _ e _ _ _ _; exact q5 e))
              have e1 : (bucket == bucket') = false := by simpa using q5
              have e2 : (bucket != bucket') = true := by simpa using q5
              clear hR hd hs hd' hs' q5 hvs hvs' um um'
              go_enter Tryz.func63, Tryz.ntmps63
              go_wp2
              go_ret
              exact ⟨ret_bool HR.out.symm, bb.out⟩
          · have HR := Lib.hid (show R = false by rw [hR]; exact sameM_no (by intro e; injection e with _ _ _ _ _ e _ _ _ _ _; exact q4 e))
            have e1 : (to == to') = false := by simpa using q4
            have e2 : (to != to') = true := by simpa using q4
            clear hR hd hs hd' hs' q4 hvs hvs' um um'
            go_enter Tryz.func63, Tryz.ntmps63
            go_wp2
            go_ret
            exact ⟨ret_bool HR.out.symm, bb.out⟩
        · have HR := Lib.hid (show R = false by rw [hR]; exact sameM_no (by intro e; injection e with _ _ _ _ e _ _ _ _ _ _; exact q3 e))
          have e1 : (kind == kind') = false := by simpa using q3
          have e2 : (kind != kind') = true := by simpa using q3
          clear hR hd hs hd' hs' q3 hvs hvs' um um'
          go_enter Tryz.func63, Tryz.ntmps63
          go_wp2
          go_ret
          exact ⟨ret_bool HR.out.symm, bb.out⟩
      · have HR := Lib.hid (show R = false by rw [hR]; exact sameM_no (by intro e; injection e with _ _ _ e _ _ _ _ _ _ _; exact q2 e))
        have e1 : (actor == actor') = false := by simpa using q2
        have e2 : (actor != actor') = true := by simpa using q2
        clear hR hd hs hd' hs' q2 hvs hvs' um um'
        go_enter Tryz.func63, Tryz.ntmps63
        go_wp2
        go_ret
        exact ⟨ret_bool HR.out.symm, bb.out⟩
    · have HR := Lib.hid (show R = false by rw [hR]; exact sameM_no (by intro e; injection e with _ e _ _ _ _ _ _ _ _ _; exact q1 e))
      have e1 : (n == n') = false := by simpa using q1
      have e2 : (n != n') = true := by simpa using q1
      clear hR hd hs hd' hs' q1 hvs hvs' um um'
      go_enter Tryz.func63, Tryz.ntmps63
      go_wp2
      go_ret
      exact ⟨ret_bool HR.out.symm, bb.out⟩
  · have HR := Lib.hid (show R = false by rw [hR]; exact sameM_no (by intro e; injection e with e _ _ _ _ _ _ _ _ _ _; exact q0 e))
    have e1 : (r == r') = false := by simpa using q0
    have e2 : (r != r') = true := by simpa using q0
    clear hR hd hs hd' hs' q0 hvs hvs' um um'
    go_enter Tryz.func63, Tryz.ntmps63
    go_wp2
    go_ret
    exact ⟨ret_bool HR.out.symm, bb.out⟩
end Go.Proofs.YtkcfcmigcphjlaaGreat

namespace Go.Proofs.YtkcfcmigcphjlaaGreat
open Go.RowKit
set_option linter.unusedVariables false

set_option maxHeartbeats 1000000 in
set_option maxRecDepth 100000 in
theorem fields1 (r n actor kind to bucket mask gr gn : Int) (dep : List Int) (ups : List UpM) (vd : Value) (ua : Option Addr) (ul uc m : Nat) (w : World) (hn : dep.length = m) (hm4 : m ≤ 4) (hul : ups.length = ul) (hum : ul ≤ 9223372036854775807) :
    Calls Tryz.prog 79 #[.agg #[.int .i64 r, .int .i64 n, vd, .int .i64 actor, .int .i64 1, .int .i64 to, .int .i64 bucket, .int .i64 mask, .int .i64 gr, .int .i64 gn, .slice ua ul uc], .int .i64 m] w fun e w' => e = .returned (.bool (fieldsM ⟨r, n, dep, actor, 1, to, bucket, mask, gr, gn, ups⟩ m)) ∧ Below w.heap.size w w' := by
  have bb := Lib.hid ((Below.refl w.heap.size w).alloc (Nat.le_refl _) (.cells #[.int .i64 r, .int .i64 n, vd, .int .i64 actor, .int .i64 1, .int .i64 to, .int .i64 bucket, .int .i64 mask, .int .i64 gr, .int .i64 gn, .slice ua ul uc] 33))
  obtain ⟨R, hR⟩ : ∃ R, R = fieldsM ⟨r, n, dep, actor, 1, to, bucket, mask, gr, gn, ups⟩ m := ⟨_, rfl⟩
  rw [← hR]
  simp only [fieldsM, if_true, hul] at hR
  have MK := Lib.hid (fun w => mask_any r n actor 1 to bucket mask gr gn dep ups vd (.slice ua ul uc) w)
  obtain ⟨M, hM⟩ : ∃ M, M = maskM ⟨r, n, dep, actor, 1, to, bucket, mask, gr, gn, ups⟩ := ⟨_, rfl⟩
  rw [← hM] at hR MK
  clear hM
  by_cases q0 : 0 ≤ to
  · have d0 : decide (0 ≤ to) = true := by simp; try omega
    by_cases q1 : to < 6
    · have d1 : decide (to < 6) = true := by simp; try omega
      cases M
      · have HR := Lib.hid (show R = false by rw [hR]; simp [*])
        clear hR q0 q1
        go_enter Tryz.func79, Tryz.ntmps79
        go_wp2_with fail
        refine (MK.out _).mono ?_
        rintro e w1 ⟨rfl, b1⟩
        have k1 := ((Blk.new w #[.int .i64 r, .int .i64 n, vd, .int .i64 actor, .int .i64 1, .int .i64 to, .int .i64 bucket, .int .i64 mask, .int .i64 gr, .int .i64 gn, .slice ua ul uc] 33).below b1 (by simp)).cell
        have B1 := Lib.hid (bb.out.trans (b1.mono bb.out.size))
        clear b1
        go_wp2
        go_ret
        exact ⟨ret_bool HR.out.symm, B1.out⟩
      · skip
        by_cases q3 : gr = 0
        · have d3 : (gr == 0) = true := by simp; try omega
          by_cases q4 : gn = 0
          · have d4 : (gn == 0) = true := by simp; try omega
            by_cases q5 : ul = 0
            · have d5 : ((ul : Int) == 0) = true := by simp; try omega
              have HR := Lib.hid (show R = true by rw [hR]; simp [*])
              clear hR q0 q1 q3 q4 q5
              go_enter Tryz.func79, Tryz.ntmps79
              go_wp2_with fail
              refine (MK.out _).mono ?_
              rintro e w1 ⟨rfl, b1⟩
              have k1 := ((Blk.new w #[.int .i64 r, .int .i64 n, vd, .int .i64 actor, .int .i64 1, .int .i64 to, .int .i64 bucket, .int .i64 mask, .int .i64 gr, .int .i64 gn, .slice ua ul uc] 33).below b1 (by simp)).cell
              have B1 := Lib.hid (bb.out.trans (b1.mono bb.out.size))
              clear b1
              go_wp2
              go_ret
              exact ⟨ret_bool HR.out.symm, B1.out⟩
            · have d5 : ((ul : Int) == 0) = false := by simp; try omega
              have HR := Lib.hid (show R = false by rw [hR]; simp [*])
              clear hR q0 q1 q3 q4 q5
              go_enter Tryz.func79, Tryz.ntmps79
              go_wp2_with fail
              refine (MK.out _).mono ?_
              rintro e w1 ⟨rfl, b1⟩
              have k1 := ((Blk.new w #[.int .i64 r, .int .i64 n, vd, .int .i64 actor, .int .i64 1, .int .i64 to, .int .i64 bucket, .int .i64 mask, .int .i64 gr, .int .i64 gn, .slice ua ul uc] 33).below b1 (by simp)).cell
              have B1 := Lib.hid (bb.out.trans (b1.mono bb.out.size))
              clear b1
              go_wp2
              go_ret
              exact ⟨ret_bool HR.out.symm, B1.out⟩
          · have d4 : (gn == 0) = false := by simp; try omega
            have HR := Lib.hid (show R = false by rw [hR]; simp [*])
            clear hR q0 q1 q3 q4
            go_enter Tryz.func79, Tryz.ntmps79
            go_wp2_with fail
            refine (MK.out _).mono ?_
            rintro e w1 ⟨rfl, b1⟩
            have k1 := ((Blk.new w #[.int .i64 r, .int .i64 n, vd, .int .i64 actor, .int .i64 1, .int .i64 to, .int .i64 bucket, .int .i64 mask, .int .i64 gr, .int .i64 gn, .slice ua ul uc] 33).below b1 (by simp)).cell
            have B1 := Lib.hid (bb.out.trans (b1.mono bb.out.size))
            clear b1
            go_wp2
            go_ret
            exact ⟨ret_bool HR.out.symm, B1.out⟩
        · have d3 : (gr == 0) = false := by simp; try omega
          have HR := Lib.hid (show R = false by rw [hR]; simp [*])
          clear hR q0 q1 q3
          go_enter Tryz.func79, Tryz.ntmps79
          go_wp2_with fail
          refine (MK.out _).mono ?_
          rintro e w1 ⟨rfl, b1⟩
          have k1 := ((Blk.new w #[.int .i64 r, .int .i64 n, vd, .int .i64 actor, .int .i64 1, .int .i64 to, .int .i64 bucket, .int .i64 mask, .int .i64 gr, .int .i64 gn, .slice ua ul uc] 33).below b1 (by simp)).cell
          have B1 := Lib.hid (bb.out.trans (b1.mono bb.out.size))
          clear b1
          go_wp2
          go_ret
          exact ⟨ret_bool HR.out.symm, B1.out⟩
    · have d1 : decide (to < 6) = false := by simp; try omega
      have HR := Lib.hid (show R = false by rw [hR]; simp [*])
      clear hR q0 q1
      go_enter Tryz.func79, Tryz.ntmps79
      go_wp2
      go_ret
      exact ⟨ret_bool HR.out.symm, bb.out⟩
  · have d0 : decide (0 ≤ to) = false := by simp; try omega
    have HR := Lib.hid (show R = false by rw [hR]; simp [*])
    clear hR q0
    go_enter Tryz.func79, Tryz.ntmps79
    go_wp2
    go_ret
    exact ⟨ret_bool HR.out.symm, bb.out⟩

set_option maxHeartbeats 1000000 in
set_option maxRecDepth 100000 in
theorem fields3 (r n actor kind to bucket mask gr gn : Int) (dep : List Int) (ups : List UpM) (vd : Value) (ua : Option Addr) (ul uc m : Nat) (w : World) (hn : dep.length = m) (hm4 : m ≤ 4) (hul : ups.length = ul) (hum : ul ≤ 9223372036854775807) :
    Calls Tryz.prog 79 #[.agg #[.int .i64 r, .int .i64 n, vd, .int .i64 actor, .int .i64 3, .int .i64 to, .int .i64 bucket, .int .i64 mask, .int .i64 gr, .int .i64 gn, .slice ua ul uc], .int .i64 m] w fun e w' => e = .returned (.bool (fieldsM ⟨r, n, dep, actor, 3, to, bucket, mask, gr, gn, ups⟩ m)) ∧ Below w.heap.size w w' := by
  have bb := Lib.hid ((Below.refl w.heap.size w).alloc (Nat.le_refl _) (.cells #[.int .i64 r, .int .i64 n, vd, .int .i64 actor, .int .i64 3, .int .i64 to, .int .i64 bucket, .int .i64 mask, .int .i64 gr, .int .i64 gn, .slice ua ul uc] 33))
  obtain ⟨R, hR⟩ : ∃ R, R = fieldsM ⟨r, n, dep, actor, 3, to, bucket, mask, gr, gn, ups⟩ m := ⟨_, rfl⟩
  rw [← hR]
  simp only [fieldsM, show ¬ (3 : Int) = 1 by decide, show ¬ (3 : Int) = 2 by decide, if_false, if_true, hul] at hR
  have MK := Lib.hid (fun w => mask_any r n actor 3 to bucket mask gr gn dep ups vd (.slice ua ul uc) w)
  obtain ⟨M, hM⟩ : ∃ M, M = maskM ⟨r, n, dep, actor, 3, to, bucket, mask, gr, gn, ups⟩ := ⟨_, rfl⟩
  rw [← hM] at hR MK
  clear hM
  cases M
  · have HR := Lib.hid (show R = false by rw [hR]; simp [*])
    clear hR 
    go_enter Tryz.func79, Tryz.ntmps79
    go_wp2_with fail
    refine (MK.out _).mono ?_
    rintro e w1 ⟨rfl, b1⟩
    have k1 := ((Blk.new w #[.int .i64 r, .int .i64 n, vd, .int .i64 actor, .int .i64 3, .int .i64 to, .int .i64 bucket, .int .i64 mask, .int .i64 gr, .int .i64 gn, .slice ua ul uc] 33).below b1 (by simp)).cell
    have B1 := Lib.hid (bb.out.trans (b1.mono bb.out.size))
    clear b1
    go_wp2
    go_ret
    exact ⟨ret_bool HR.out.symm, B1.out⟩
  · skip
    by_cases q1 : to = 0
    · have d1 : (to == 0) = true := by simp; try omega
      by_cases q2 : gr = 0
      · have d2 : (gr == 0) = true := by simp; try omega
        by_cases q3 : gn = 0
        · have d3 : (gn == 0) = true := by simp; try omega
          by_cases q4 : ul = 0
          · have d4 : ((ul : Int) == 0) = true := by simp; try omega
            have HR := Lib.hid (show R = true by rw [hR]; simp [*])
            clear hR q1 q2 q3 q4
            go_enter Tryz.func79, Tryz.ntmps79
            go_wp2_with fail
            refine (MK.out _).mono ?_
            rintro e w1 ⟨rfl, b1⟩
            have k1 := ((Blk.new w #[.int .i64 r, .int .i64 n, vd, .int .i64 actor, .int .i64 3, .int .i64 to, .int .i64 bucket, .int .i64 mask, .int .i64 gr, .int .i64 gn, .slice ua ul uc] 33).below b1 (by simp)).cell
            have B1 := Lib.hid (bb.out.trans (b1.mono bb.out.size))
            clear b1
            go_wp2
            go_ret
            exact ⟨ret_bool HR.out.symm, B1.out⟩
          · have d4 : ((ul : Int) == 0) = false := by simp; try omega
            have HR := Lib.hid (show R = false by rw [hR]; simp [*])
            clear hR q1 q2 q3 q4
            go_enter Tryz.func79, Tryz.ntmps79
            go_wp2_with fail
            refine (MK.out _).mono ?_
            rintro e w1 ⟨rfl, b1⟩
            have k1 := ((Blk.new w #[.int .i64 r, .int .i64 n, vd, .int .i64 actor, .int .i64 3, .int .i64 to, .int .i64 bucket, .int .i64 mask, .int .i64 gr, .int .i64 gn, .slice ua ul uc] 33).below b1 (by simp)).cell
            have B1 := Lib.hid (bb.out.trans (b1.mono bb.out.size))
            clear b1
            go_wp2
            go_ret
            exact ⟨ret_bool HR.out.symm, B1.out⟩
        · have d3 : (gn == 0) = false := by simp; try omega
          have HR := Lib.hid (show R = false by rw [hR]; simp [*])
          clear hR q1 q2 q3
          go_enter Tryz.func79, Tryz.ntmps79
          go_wp2_with fail
          refine (MK.out _).mono ?_
          rintro e w1 ⟨rfl, b1⟩
          have k1 := ((Blk.new w #[.int .i64 r, .int .i64 n, vd, .int .i64 actor, .int .i64 3, .int .i64 to, .int .i64 bucket, .int .i64 mask, .int .i64 gr, .int .i64 gn, .slice ua ul uc] 33).below b1 (by simp)).cell
          have B1 := Lib.hid (bb.out.trans (b1.mono bb.out.size))
          clear b1
          go_wp2
          go_ret
          exact ⟨ret_bool HR.out.symm, B1.out⟩
      · have d2 : (gr == 0) = false := by simp; try omega
        have HR := Lib.hid (show R = false by rw [hR]; simp [*])
        clear hR q1 q2
        go_enter Tryz.func79, Tryz.ntmps79
        go_wp2_with fail
        refine (MK.out _).mono ?_
        rintro e w1 ⟨rfl, b1⟩
        have k1 := ((Blk.new w #[.int .i64 r, .int .i64 n, vd, .int .i64 actor, .int .i64 3, .int .i64 to, .int .i64 bucket, .int .i64 mask, .int .i64 gr, .int .i64 gn, .slice ua ul uc] 33).below b1 (by simp)).cell
        have B1 := Lib.hid (bb.out.trans (b1.mono bb.out.size))
        clear b1
        go_wp2
        go_ret
        exact ⟨ret_bool HR.out.symm, B1.out⟩
    · have d1 : (to == 0) = false := by simp; try omega
      have HR := Lib.hid (show R = false by rw [hR]; simp [*])
      clear hR q1
      go_enter Tryz.func79, Tryz.ntmps79
      go_wp2_with fail
      refine (MK.out _).mono ?_
      rintro e w1 ⟨rfl, b1⟩
      have k1 := ((Blk.new w #[.int .i64 r, .int .i64 n, vd, .int .i64 actor, .int .i64 3, .int .i64 to, .int .i64 bucket, .int .i64 mask, .int .i64 gr, .int .i64 gn, .slice ua ul uc] 33).below b1 (by simp)).cell
      have B1 := Lib.hid (bb.out.trans (b1.mono bb.out.size))
      clear b1
      go_wp2
      go_ret
      exact ⟨ret_bool HR.out.symm, B1.out⟩

set_option maxHeartbeats 1000000 in
set_option maxRecDepth 100000 in
theorem fields4 (r n actor kind to bucket mask gr gn : Int) (dep : List Int) (ups : List UpM) (vd : Value) (ua : Option Addr) (ul uc m : Nat) (w : World) (hn : dep.length = m) (hm4 : m ≤ 4) (hul : ups.length = ul) (hum : ul ≤ 9223372036854775807) (hs : Ups w (.slice ua ul uc) ups) :
    Calls Tryz.prog 79 #[.agg #[.int .i64 r, .int .i64 n, vd, .int .i64 actor, .int .i64 4, .int .i64 to, .int .i64 bucket, .int .i64 mask, .int .i64 gr, .int .i64 gn, .slice ua ul uc], .int .i64 m] w fun e w' => e = .returned (.bool (fieldsM ⟨r, n, dep, actor, 4, to, bucket, mask, gr, gn, ups⟩ m)) ∧ Below w.heap.size w w' := by
  have bb := Lib.hid ((Below.refl w.heap.size w).alloc (Nat.le_refl _) (.cells #[.int .i64 r, .int .i64 n, vd, .int .i64 actor, .int .i64 4, .int .i64 to, .int .i64 bucket, .int .i64 mask, .int .i64 gr, .int .i64 gn, .slice ua ul uc] 33))
  obtain ⟨R, hR⟩ : ∃ R, R = fieldsM ⟨r, n, dep, actor, 4, to, bucket, mask, gr, gn, ups⟩ m := ⟨_, rfl⟩
  rw [← hR]
  simp only [fieldsM, show ¬ (4 : Int) = 1 by decide, show ¬ (4 : Int) = 2 by decide, show ¬ (4 : Int) = 3 by decide, if_false, if_true, hul] at hR
  have US := Lib.hid (fun w h => ups_any (.slice ua ul uc) ups w h)
  have HSu := Lib.hid hs
  obtain ⟨M, hM⟩ : ∃ M, M = okUps ups := ⟨_, rfl⟩
  rw [← hM] at hR US
  clear hM hs
  cases M
  · have HR := Lib.hid (show R = false by rw [hR]; simp [*])
    clear hR 
    go_enter Tryz.func79, Tryz.ntmps79
    go_wp2_with fail
    refine (US.out _ (HSu.out.below bb.out)).mono ?_
    rintro e w1 ⟨rfl, b1⟩
    have k1 := ((Blk.new w #[.int .i64 r, .int .i64 n, vd, .int .i64 actor, .int .i64 4, .int .i64 to, .int .i64 bucket, .int .i64 mask, .int .i64 gr, .int .i64 gn, .slice ua ul uc] 33).below b1 (by simp)).cell
    have B1 := Lib.hid (bb.out.trans (b1.mono bb.out.size))
    clear b1
    go_wp2
    go_ret
    exact ⟨ret_bool HR.out.symm, B1.out⟩
  · skip
    by_cases q1 : to = 0
    · have d1 : (to == 0) = true := by simp; try omega
      by_cases q2 : bucket = 0
      · have d2 : (bucket == 0) = true := by simp; try omega
        by_cases q3 : mask = 0
        · have d3 : (mask == 0) = true := by simp; try omega
          by_cases q4 : gr = 0
          · have d4 : (gr == 0) = true := by simp; try omega
            by_cases q5 : gn = 0
            · have d5 : (gn == 0) = true := by simp; try omega
              have HR := Lib.hid (show R = true by rw [hR]; simp [*])
              clear hR q1 q2 q3 q4 q5
              go_enter Tryz.func79, Tryz.ntmps79
              go_wp2_with fail
              refine (US.out _ (HSu.out.below bb.out)).mono ?_
              rintro e w1 ⟨rfl, b1⟩
              have k1 := ((Blk.new w #[.int .i64 r, .int .i64 n, vd, .int .i64 actor, .int .i64 4, .int .i64 to, .int .i64 bucket, .int .i64 mask, .int .i64 gr, .int .i64 gn, .slice ua ul uc] 33).below b1 (by simp)).cell
              have B1 := Lib.hid (bb.out.trans (b1.mono bb.out.size))
              clear b1
              go_wp2
              go_ret
              exact ⟨ret_bool HR.out.symm, B1.out⟩
            · have d5 : (gn == 0) = false := by simp; try omega
              have HR := Lib.hid (show R = false by rw [hR]; simp [*])
              clear hR q1 q2 q3 q4 q5
              go_enter Tryz.func79, Tryz.ntmps79
              go_wp2_with fail
              refine (US.out _ (HSu.out.below bb.out)).mono ?_
              rintro e w1 ⟨rfl, b1⟩
              have k1 := ((Blk.new w #[.int .i64 r, .int .i64 n, vd, .int .i64 actor, .int .i64 4, .int .i64 to, .int .i64 bucket, .int .i64 mask, .int .i64 gr, .int .i64 gn, .slice ua ul uc] 33).below b1 (by simp)).cell
              have B1 := Lib.hid (bb.out.trans (b1.mono bb.out.size))
              clear b1
              go_wp2
              go_ret
              exact ⟨ret_bool HR.out.symm, B1.out⟩
          · have d4 : (gr == 0) = false := by simp; try omega
            have HR := Lib.hid (show R = false by rw [hR]; simp [*])
            clear hR q1 q2 q3 q4
            go_enter Tryz.func79, Tryz.ntmps79
            go_wp2_with fail
            refine (US.out _ (HSu.out.below bb.out)).mono ?_
            rintro e w1 ⟨rfl, b1⟩
            have k1 := ((Blk.new w #[.int .i64 r, .int .i64 n, vd, .int .i64 actor, .int .i64 4, .int .i64 to, .int .i64 bucket, .int .i64 mask, .int .i64 gr, .int .i64 gn, .slice ua ul uc] 33).below b1 (by simp)).cell
            have B1 := Lib.hid (bb.out.trans (b1.mono bb.out.size))
            clear b1
            go_wp2
            go_ret
            exact ⟨ret_bool HR.out.symm, B1.out⟩
        · have d3 : (mask == 0) = false := by simp; try omega
          have HR := Lib.hid (show R = false by rw [hR]; simp [*])
          clear hR q1 q2 q3
          go_enter Tryz.func79, Tryz.ntmps79
          go_wp2_with fail
          refine (US.out _ (HSu.out.below bb.out)).mono ?_
          rintro e w1 ⟨rfl, b1⟩
          have k1 := ((Blk.new w #[.int .i64 r, .int .i64 n, vd, .int .i64 actor, .int .i64 4, .int .i64 to, .int .i64 bucket, .int .i64 mask, .int .i64 gr, .int .i64 gn, .slice ua ul uc] 33).below b1 (by simp)).cell
          have B1 := Lib.hid (bb.out.trans (b1.mono bb.out.size))
          clear b1
          go_wp2
          go_ret
          exact ⟨ret_bool HR.out.symm, B1.out⟩
      · have d2 : (bucket == 0) = false := by simp; try omega
        have HR := Lib.hid (show R = false by rw [hR]; simp [*])
        clear hR q1 q2
        go_enter Tryz.func79, Tryz.ntmps79
        go_wp2_with fail
        refine (US.out _ (HSu.out.below bb.out)).mono ?_
        rintro e w1 ⟨rfl, b1⟩
        have k1 := ((Blk.new w #[.int .i64 r, .int .i64 n, vd, .int .i64 actor, .int .i64 4, .int .i64 to, .int .i64 bucket, .int .i64 mask, .int .i64 gr, .int .i64 gn, .slice ua ul uc] 33).below b1 (by simp)).cell
        have B1 := Lib.hid (bb.out.trans (b1.mono bb.out.size))
        clear b1
        go_wp2
        go_ret
        exact ⟨ret_bool HR.out.symm, B1.out⟩
    · have d1 : (to == 0) = false := by simp; try omega
      have HR := Lib.hid (show R = false by rw [hR]; simp [*])
      clear hR q1
      go_enter Tryz.func79, Tryz.ntmps79
      go_wp2_with fail
      refine (US.out _ (HSu.out.below bb.out)).mono ?_
      rintro e w1 ⟨rfl, b1⟩
      have k1 := ((Blk.new w #[.int .i64 r, .int .i64 n, vd, .int .i64 actor, .int .i64 4, .int .i64 to, .int .i64 bucket, .int .i64 mask, .int .i64 gr, .int .i64 gn, .slice ua ul uc] 33).below b1 (by simp)).cell
      have B1 := Lib.hid (bb.out.trans (b1.mono bb.out.size))
      clear b1
      go_wp2
      go_ret
      exact ⟨ret_bool HR.out.symm, B1.out⟩

set_option maxHeartbeats 1000000 in
set_option maxRecDepth 100000 in
theorem fields2 (r n actor kind to bucket mask gr gn : Int) (dep : List Int) (ups : List UpM) (vd : Value) (ua : Option Addr) (ul uc m : Nat) (w : World) (hn : dep.length = m) (hm4 : m ≤ 4) (hul : ups.length = ul) (hum : ul ≤ 9223372036854775807) (hd : Ints w vd dep) :
    Calls Tryz.prog 79 #[.agg #[.int .i64 r, .int .i64 n, vd, .int .i64 actor, .int .i64 2, .int .i64 to, .int .i64 bucket, .int .i64 mask, .int .i64 gr, .int .i64 gn, .slice ua ul uc], .int .i64 m] w fun e w' => e = .returned (.bool (fieldsM ⟨r, n, dep, actor, 2, to, bucket, mask, gr, gn, ups⟩ m)) ∧ Below w.heap.size w w' := by
  have bb := Lib.hid ((Below.refl w.heap.size w).alloc (Nat.le_refl _) (.cells #[.int .i64 r, .int .i64 n, vd, .int .i64 actor, .int .i64 2, .int .i64 to, .int .i64 bucket, .int .i64 mask, .int .i64 gr, .int .i64 gn, .slice ua ul uc] 33))
  obtain ⟨R, hR⟩ : ∃ R, R = fieldsM ⟨r, n, dep, actor, 2, to, bucket, mask, gr, gn, ups⟩ m := ⟨_, rfl⟩
  rw [← hR]
  simp only [fieldsM, show ¬ (2 : Int) = 1 by decide, if_false, if_true, hul] at hR
  have HD := Lib.hid hd
  clear hd
  by_cases q0 : 0 ≤ gr
  · have d0 : decide (0 ≤ gr) = true := by simp; try omega
    by_cases q1 : gr < (m : Int)
    · have d1 : decide (gr < (m : Int)) = true := by simp; try omega
      by_cases q2 : 1 ≤ gn
      · have d2 : decide (1 ≤ gn) = true := by simp; try omega
        obtain ⟨g, rfl⟩ := Int.eq_ofNat_of_zero_le q0
        have hg : g < dep.length := by omega
        have j0 : (0 : Int) ≤ g := by omega
        have j1 : (g : Int) < m := by omega
        simp only [Int.toNat_natCast] at hR
        obtain ⟨bD, oD, cD, hvd, hbD, hcD⟩ : ∃ bD oD cD, vd = .slice (some ⟨bD, oD, none⟩) m cD ∧ bD < w.heap.size ∧ w.cell? ⟨bD, oD + g, none⟩ = some (.int .i64 (dep.getD g 0)) := by
          rcases HD.out with ⟨a', c', _, e0⟩ | ⟨bD, oD, cD, hv, h1, _, _, h4⟩
          · rw [e0] at hg; simp at hg
          · exact ⟨bD, oD, cD, by rw [← hn]; exact hv, h1, h4 g hg⟩
        subst hvd
        clear HD
        obtain ⟨x, hx⟩ : ∃ x, dep.getD g 0 = x := ⟨_, rfl⟩
        simp only [hx] at hcD hR
        have HX := Lib.hid hx
        clear hx
        by_cases q3 : gn ≤ x
        · have d3 : decide (gn ≤ x) = true := by simp; try omega
          by_cases q4 : to = 0
          · have d4 : (to == 0) = true := by simp; try omega
            by_cases q5 : bucket = 0
            · have d5 : (bucket == 0) = true := by simp; try omega
              by_cases q6 : mask = 0
              · have d6 : (mask == 0) = true := by simp; try omega
                by_cases q7 : ul = 0
                · have d7 : ((ul : Int) == 0) = true := by simp; try omega
                  have HR := Lib.hid (show R = true by rw [hR]; simp [*])
                  clear hR q0 q1 q2 q3 q4 q5 q6 q7
                  go_enter Tryz.func79, Tryz.ntmps79
                  go_wp2
                  go_quiet (fail)
                  go_wp2
                  go_ret
                  exact ⟨ret_bool HR.out.symm, (below_drewN bb.out _)⟩
                · have d7 : ((ul : Int) == 0) = false := by simp; try omega
                  have HR := Lib.hid (show R = false by rw [hR]; simp [*])
                  clear hR q0 q1 q2 q3 q4 q5 q6 q7
                  go_enter Tryz.func79, Tryz.ntmps79
                  go_wp2
                  go_quiet (fail)
                  go_wp2
                  go_ret
                  exact ⟨ret_bool HR.out.symm, (below_drewN bb.out _)⟩
              · have d6 : (mask == 0) = false := by simp; try omega
                have HR := Lib.hid (show R = false by rw [hR]; simp [*])
                clear hR q0 q1 q2 q3 q4 q5 q6
                go_enter Tryz.func79, Tryz.ntmps79
                go_wp2
                go_quiet (fail)
                go_wp2
                go_ret
                exact ⟨ret_bool HR.out.symm, (below_drewN bb.out _)⟩
            · have d5 : (bucket == 0) = false := by simp; try omega
              have HR := Lib.hid (show R = false by rw [hR]; simp [*])
              clear hR q0 q1 q2 q3 q4 q5
              go_enter Tryz.func79, Tryz.ntmps79
              go_wp2
              go_quiet (fail)
              go_wp2
              go_ret
              exact ⟨ret_bool HR.out.symm, (below_drewN bb.out _)⟩
          · have d4 : (to == 0) = false := by simp; try omega
            have HR := Lib.hid (show R = false by rw [hR]; simp [*])
            clear hR q0 q1 q2 q3 q4
            go_enter Tryz.func79, Tryz.ntmps79
            go_wp2
            go_quiet (fail)
            go_wp2
            go_ret
            exact ⟨ret_bool HR.out.symm, (below_drewN bb.out _)⟩
        · have d3 : decide (gn ≤ x) = false := by simp; try omega
          have HR := Lib.hid (show R = false by rw [hR]; simp [*])
          clear hR q0 q1 q2 q3
          go_enter Tryz.func79, Tryz.ntmps79
          go_wp2
          go_quiet (fail)
          go_wp2
          go_ret
          exact ⟨ret_bool HR.out.symm, (below_drewN bb.out _)⟩
      · have d2 : decide (1 ≤ gn) = false := by simp; try omega
        have HR := Lib.hid (show R = false by rw [hR]; simp [*])
        clear hR q0 q1 q2
        go_enter Tryz.func79, Tryz.ntmps79
        go_wp2
        go_quiet (fail)
        go_wp2
        go_ret
        exact ⟨ret_bool HR.out.symm, (below_drewN bb.out _)⟩
    · have d1 : decide (gr < (m : Int)) = false := by simp; try omega
      have HR := Lib.hid (show R = false by rw [hR]; simp [*])
      clear hR q0 q1
      go_enter Tryz.func79, Tryz.ntmps79
      go_wp2
      go_quiet (fail)
      go_wp2
      go_ret
      exact ⟨ret_bool HR.out.symm, (below_drewN bb.out _)⟩
  · have d0 : decide (0 ≤ gr) = false := by simp; try omega
    have HR := Lib.hid (show R = false by rw [hR]; simp [*])
    clear hR q0
    go_enter Tryz.func79, Tryz.ntmps79
    go_wp2
    go_quiet (fail)
    go_wp2
    go_ret
    exact ⟨ret_bool HR.out.symm, (below_drewN bb.out _)⟩

end Go.Proofs.YtkcfcmigcphjlaaGreat
namespace Go.Proofs.YtkcfcmigcphjlaaGreat
open Go.RowKit
set_option linter.unusedVariables false

set_option maxHeartbeats 1000000 in
set_option maxRecDepth 100000 in
theorem fieldsX (r n actor kind to bucket mask gr gn : Int) (dep : List Int) (ups : List UpM) (vd : Value) (ua : Option Addr) (ul uc : Nat) (p : Int) (w : World) (h1 : kind ≠ 1) (h2 : kind ≠ 2) (h3 : kind ≠ 3) (h4 : kind ≠ 4) :
    Calls Tryz.prog 79 #[.agg #[.int .i64 r, .int .i64 n, vd, .int .i64 actor, .int .i64 kind, .int .i64 to, .int .i64 bucket, .int .i64 mask, .int .i64 gr, .int .i64 gn, .slice ua ul uc], .int .i64 p] w fun e w' => e = .returned (.bool false) ∧ Below w.heap.size w w' := by
  have bb := Lib.hid ((Below.refl w.heap.size w).alloc (Nat.le_refl _) (.cells #[.int .i64 r, .int .i64 n, vd, .int .i64 actor, .int .i64 kind, .int .i64 to, .int .i64 bucket, .int .i64 mask, .int .i64 gr, .int .i64 gn, .slice ua ul uc] 33))
  have e1 : (kind == 1) = false := by simpa using h1
  have e2 : (kind == 2) = false := by simpa using h2
  have e3 : (kind == 3) = false := by simpa using h3
  have e4 : (kind == 4) = false := by simpa using h4
  clear h1 h2 h3 h4
  go_enter Tryz.func79, Tryz.ntmps79
  go_wp2
  go_ret
  exact ⟨rfl, bb.out⟩

theorem fields_any (r n actor kind to bucket mask gr gn : Int) (dep : List Int) (ups : List UpM) (vd : Value) (ua : Option Addr) (ul uc m : Nat) (w : World) (hn : dep.length = m) (hm4 : m ≤ 4) (hul : ups.length = ul) (hum : ul ≤ 9223372036854775807) (hd : Ints w vd dep) (hs : Ups w (.slice ua ul uc) ups) :
    Calls Tryz.prog 79 #[.agg #[.int .i64 r, .int .i64 n, vd, .int .i64 actor, .int .i64 kind, .int .i64 to, .int .i64 bucket, .int .i64 mask, .int .i64 gr, .int .i64 gn, .slice ua ul uc], .int .i64 m] w fun e w' => e = .returned (.bool (fieldsM ⟨r, n, dep, actor, kind, to, bucket, mask, gr, gn, ups⟩ m)) ∧ Below w.heap.size w w' := by
  by_cases k1 : kind = 1
  · subst k1; exact fields1 r n actor 0 to bucket mask gr gn dep ups vd ua ul uc m w hn hm4 hul hum
  · by_cases k2 : kind = 2
    · subst k2; exact fields2 r n actor 0 to bucket mask gr gn dep ups vd ua ul uc m w hn hm4 hul hum hd
    · by_cases k3 : kind = 3
      · subst k3; exact fields3 r n actor 0 to bucket mask gr gn dep ups vd ua ul uc m w hn hm4 hul hum
      · by_cases k4 : kind = 4
        · subst k4; exact fields4 r n actor 0 to bucket mask gr gn dep ups vd ua ul uc m w hn hm4 hul hum hs
        · have e : fieldsM ⟨r, n, dep, actor, kind, to, bucket, mask, gr, gn, ups⟩ m = false := by simp only [fieldsM, k1, k2, k3, k4, if_false]
          rw [e]
          exact fieldsX r n actor kind to bucket mask gr gn dep ups vd ua ul uc m w k1 k2 k3 k4

set_option maxHeartbeats 3200000 in
set_option maxRecDepth 100000 in
theorem specActOk_in (r n actor kind to bucket mask gr gn : Int) (dep : List Int) (ups : List UpM) (vd : Value) (ua : Option Addr) (ul uc : Nat) (p : Int) (w : World) (hul : ups.length = ul) (hum : ul ≤ 9223372036854775807) (hd : Ints w vd dep) (hs : Ups w (.slice ua ul uc) ups) :
    Calls Tryz.prog 34 #[.agg #[.int .i64 r, .int .i64 n, vd, .int .i64 actor, .int .i64 kind, .int .i64 to, .int .i64 bucket, .int .i64 mask, .int .i64 gr, .int .i64 gn, .slice ua ul uc], .int .i64 p] w fun e w' => e = .returned (.bool (actOkM ⟨r, n, dep, actor, kind, to, bucket, mask, gr, gn, ups⟩ p)) ∧ Below w.heap.size w w' := by
  have bb := Lib.hid ((Below.refl w.heap.size w).alloc (Nat.le_refl _) (.cells #[.int .i64 r, .int .i64 n, vd, .int .i64 actor, .int .i64 kind, .int .i64 to, .int .i64 bucket, .int .i64 mask, .int .i64 gr, .int .i64 gn, .slice ua ul uc] 33))
  obtain ⟨R, hR⟩ : ∃ R, R = actOkM ⟨r, n, dep, actor, kind, to, bucket, mask, gr, gn, ups⟩ p := ⟨_, rfl⟩
  rw [← hR]
  simp only [actOkM] at hR
  have HD := Lib.hid hd
  have HS := Lib.hid hs
  have CK := Lib.hid (specOk_any vd dep _ (hd.below (B := 0) bb.out))
  have CQ := Lib.hid (fun q => specOk_any vd dep _ (ints_drewN (hd.below (B := 0) bb.out) q))
  have hdl := ints_max hd
  obtain ⟨da, dc, hvd⟩ := ints_len hd
  clear hd hs
  by_cases q0 : 1 ≤ p
  · have d0 : decide (p < 1) = false := by simp; try omega
    by_cases q1 : p ≤ 4
    · have d1 : decide (4 < p) = false := by simp; try omega
      by_cases q2 : 0 ≤ r
      · have d2 : decide (r < 0) = false := by simp; try omega
        by_cases q3 : r < p
        · have d3 : decide (p ≤ r) = false := by simp; try omega
          by_cases q4 : 1 ≤ n
          · have d4 : decide (n < 1) = false := by simp; try omega
            by_cases q5 : n ≤ 100000
            · have d5 : decide (100000 < n) = false := by simp; try omega
              obtain ⟨O, hO⟩ : ∃ O, O = okB dep := ⟨_, rfl⟩
              rw [← hO] at hR CK
              simp only [← hO] at CQ
              cases O
              · clear hO
                have HR := Lib.hid (show R = false by rw [hR]; simp [*])
                clear hR
                subst hvd
                go_enter Tryz.func34, Tryz.ntmps34
                go_wp2
                go_quiet (((go_at_call 69; first | exact Calls.quiet_of_same CK.out | exact Calls.quiet_of_same (CQ.out _) | exact Calls.quiet_of_same (CQ.out 1))))
                go_wp2
                go_ret
                exact ⟨ret_bool HR.out.symm, below_drewN bb.out _⟩
              · have kO := (okB_iff dep).1 hO.symm
                clear hO
                by_cases q7 : (dep.length : Int) = p
                · have d7 : ((dep.length : Int) != p) = false := by simpa using q7
                  have d7' : ((dep.length : Int) == p) = true := by simpa using q7
                  obtain ⟨g, rfl⟩ := Int.eq_ofNat_of_zero_le q2
                  obtain ⟨m, hmm⟩ : ∃ m, dep.length = m := ⟨_, rfl⟩
                  have hpm : p = (m : Int) := by omega
                  subst hpm
                  have hg : g < dep.length := by omega
                  have j0 : (0 : Int) ≤ g := by omega
                  have j1 : (g : Int) < m := by omega
                  have FL := Lib.hid (fun w h h' => fields_any g n actor kind to bucket mask gr gn dep ups vd ua ul uc m w hmm (by omega) hul hum h h')
                  simp only [Int.toNat_natCast] at hR
                  have hnn : 1 ≤ n ∧ n ≤ 100000 := ⟨q4, q5⟩
                  obtain ⟨n1, n2⟩ := hnn
                  have hcase : (∃ bD oD cD, vd = .slice (some ⟨bD, oD, none⟩) m cD ∧ bD < w.heap.size ∧ w.cell? ⟨bD, oD + g, none⟩ = some (.int .i64 (dep.getD g 0))) := by
                    rcases HD.out with ⟨a', c', _, e0⟩ | ⟨bD, oD, cD, hv, h1, _, _, h4⟩
                    · rw [e0] at hg; simp at hg
                    · exact ⟨bD, oD, cD, by rw [← hmm]; exact hv, h1, h4 g hg⟩
                  obtain ⟨bD, oD, cD, hv2, hbD, hcD⟩ := hcase
                  clear hvd
                  obtain ⟨x, hx⟩ : ∃ x, dep.getD g 0 = x := ⟨_, rfl⟩
                  simp only [hx] at hcD hR
                  have HX := Lib.hid hx
                  clear hx
                  rw [hmm] at d7 d7' hR
                  have HA : Hid (R = (decide (x = n - 1) && decide (0 ≤ actor) && decide (actor < 6) && fieldsM ⟨g, n, dep, actor, kind, to, bucket, mask, gr, gn, ups⟩ m)) := by
                    show R = _
                    rw [hR]; simp [q0, q1, q3, q4, q5]
                  clear hR kO q0 q1 q2 q3 q4 q5 hdl
                  obtain ⟨Fv, hFv⟩ : ∃ F, F = fieldsM ⟨g, n, dep, actor, kind, to, bucket, mask, gr, gn, ups⟩ m := ⟨_, rfl⟩
                  rw [← hFv] at HA
                  simp only [← hFv] at FL
                  have dN : decide (m ≤ g) = false := by simp; omega
                  subst hv2
                  by_cases qa : x = n - 1
                  · have da : (x != n - 1) = false := by simpa using qa
                    have da' : (x == n - 1) = true := by simpa using qa
                    by_cases qb : 0 ≤ actor
                    · have db : decide (0 ≤ actor) = true := by simpa using qb
                      by_cases qc : actor < 6
                      · have dc1 : decide (actor < 6) = true := by simpa using qc
                        have HR := Lib.hid (show R = Fv by rw [HA.out]; simp [*])
                        clear hFv hg hmm q7 qa qb qc
                        have hwr : IntKind.i64.wrap (n - 1) = n - 1 := by rw [IntKind.wrap_i64]; omega
                        go_enter Tryz.func34, Tryz.ntmps34
                        go_wp2
                        go_quiet ((go_at_call 69; first | exact Calls.quiet_of_same CK.out | exact Calls.quiet_of_same (CQ.out _) | exact Calls.quiet_of_same (CQ.out 1)))
                        go_wp2_with fail
                        refine (FL.out _ (ints_drewN (HD.out.below (B := 0) bb.out) _) (ups_drewN (HS.out.below bb.out) _)).mono ?_
                        rintro e w1 ⟨rfl, b1⟩
                        have B1 := Lib.hid ((below_drewN bb.out _).trans (b1.mono (below_drewN bb.out _).size))
                        clear b1
                        go_wp2
                        go_ret
                        exact ⟨ret_bool HR.out.symm, B1.out⟩
                      · have dc1 : decide (actor < 6) = false := by simp; omega
                        have HR := Lib.hid (show R = false by rw [HA.out]; simp [*])
                        clear hFv hg hmm q7 qa qb qc
                        have hwr : IntKind.i64.wrap (n - 1) = n - 1 := by rw [IntKind.wrap_i64]; omega
                        go_enter Tryz.func34, Tryz.ntmps34
                        go_wp2
                        go_quiet ((go_at_call 69; first | exact Calls.quiet_of_same CK.out | exact Calls.quiet_of_same (CQ.out _) | exact Calls.quiet_of_same (CQ.out 1)))
                        go_wp2
                        go_ret
                        exact ⟨ret_bool HR.out.symm, below_drewN bb.out _⟩
                    · have db : decide (0 ≤ actor) = false := by simp; omega
                      have HR := Lib.hid (show R = false by rw [HA.out]; simp [*])
                      clear hFv hg hmm q7 qa qb
                      have hwr : IntKind.i64.wrap (n - 1) = n - 1 := by rw [IntKind.wrap_i64]; omega
                      go_enter Tryz.func34, Tryz.ntmps34
                      go_wp2
                      go_quiet ((go_at_call 69; first | exact Calls.quiet_of_same CK.out | exact Calls.quiet_of_same (CQ.out _) | exact Calls.quiet_of_same (CQ.out 1)))
                      go_wp2
                      go_ret
                      exact ⟨ret_bool HR.out.symm, below_drewN bb.out _⟩
                  · have da : (x != n - 1) = true := by simpa using qa
                    have da' : (x == n - 1) = false := by simpa using qa
                    have HR := Lib.hid (show R = false by rw [HA.out]; simp [*])
                    clear hFv hg hmm q7 qa
                    have hwr : IntKind.i64.wrap (n - 1) = n - 1 := by rw [IntKind.wrap_i64]; omega
                    go_enter Tryz.func34, Tryz.ntmps34
                    go_wp2
                    go_quiet ((go_at_call 69; first | exact Calls.quiet_of_same CK.out | exact Calls.quiet_of_same (CQ.out _) | exact Calls.quiet_of_same (CQ.out 1)))
                    go_wp2
                    go_ret
                    exact ⟨ret_bool HR.out.symm, below_drewN bb.out _⟩
                · have d7 : ((dep.length : Int) != p) = true := by simpa using q7
                  have d7' : ((dep.length : Int) == p) = false := by simpa using q7
                  clear kO
                  have HR := Lib.hid (show R = false by rw [hR]; simp [*])
                  clear hR q7
                  subst hvd
                  generalize dep.length = dl at *
                  go_enter Tryz.func34, Tryz.ntmps34
                  go_wp2
                  go_quiet (((go_at_call 69; first | exact Calls.quiet_of_same CK.out | exact Calls.quiet_of_same (CQ.out _) | exact Calls.quiet_of_same (CQ.out 1))))
                  go_wp2
                  go_ret
                  exact ⟨ret_bool HR.out.symm, below_drewN bb.out _⟩
            · have d5 : decide (100000 < n) = true := by simp; try omega
              have HR := Lib.hid (show R = false by rw [hR]; simp [*])
              clear hR
              subst hvd
              go_enter Tryz.func34, Tryz.ntmps34
              go_wp2
              go_quiet (fail)
              go_wp2
              go_ret
              exact ⟨ret_bool HR.out.symm, below_drewN bb.out _⟩
          · have d4 : decide (n < 1) = true := by simp; try omega
            have HR := Lib.hid (show R = false by rw [hR]; simp [*])
            clear hR
            subst hvd
            go_enter Tryz.func34, Tryz.ntmps34
            go_wp2
            go_quiet (fail)
            go_wp2
            go_ret
            exact ⟨ret_bool HR.out.symm, below_drewN bb.out _⟩
        · have d3 : decide (p ≤ r) = true := by simp; try omega
          have HR := Lib.hid (show R = false by rw [hR]; simp [*])
          clear hR
          subst hvd
          go_enter Tryz.func34, Tryz.ntmps34
          go_wp2
          go_quiet (fail)
          go_wp2
          go_ret
          exact ⟨ret_bool HR.out.symm, below_drewN bb.out _⟩
      · have d2 : decide (r < 0) = true := by simp; try omega
        have HR := Lib.hid (show R = false by rw [hR]; simp [*])
        clear hR
        subst hvd
        go_enter Tryz.func34, Tryz.ntmps34
        go_wp2
        go_quiet (fail)
        go_wp2
        go_ret
        exact ⟨ret_bool HR.out.symm, below_drewN bb.out _⟩
    · have d1 : decide (4 < p) = true := by simp; try omega
      have HR := Lib.hid (show R = false by rw [hR]; simp [*])
      clear hR
      subst hvd
      go_enter Tryz.func34, Tryz.ntmps34
      go_wp2
      go_quiet (fail)
      go_wp2
      go_ret
      exact ⟨ret_bool HR.out.symm, below_drewN bb.out _⟩
  · have d0 : decide (p < 1) = true := by simp; try omega
    have HR := Lib.hid (show R = false by rw [hR]; simp [*])
    clear hR
    subst hvd
    go_enter Tryz.func34, Tryz.ntmps34
    go_wp2
    go_quiet (fail)
    go_wp2
    go_ret
    exact ⟨ret_bool HR.out.symm, below_drewN bb.out _⟩

theorem specActOk_any : SpecActOk := by
  intro v a p w h _
  obtain ⟨vd, vs, rfl, hd, hs⟩ := h
  obtain ⟨ua, uc, hv⟩ := ups_len hs
  subst hv
  have hm := ups_max hs
  obtain ⟨r, n, dep, actor, kind, to, bucket, mask, gr, gn, ups⟩ := a
  exact specActOk_in r n actor kind to bucket mask gr gn dep ups vd ua ups.length uc p w rfl hm hd hs
end Go.Proofs.YtkcfcmigcphjlaaGreat
