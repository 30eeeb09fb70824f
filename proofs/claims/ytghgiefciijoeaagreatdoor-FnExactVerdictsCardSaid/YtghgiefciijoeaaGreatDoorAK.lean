/- AK, AJ, AL. -/
import Derived.Test.YtghgiefciijoeaaGreatDoorMB
import Derived.Test.YtghgiefciijoeaaGreatDoorAG2
import Derived.BigQuiet
import Derived.Deep.QuietTactic

namespace Go.Proofs.YtghgiefciijoeaaGreatDoor
open Go.RowKit
set_option linter.unusedVariables false
set_option maxHeartbeats 400000 in
theorem l2same_some (b off cap b' off' cap' n m : Nat) (xs ys : List Int) (w : World) (hn : xs.length = n) (hm : ys.length = m) (hl : n ≤ 9223372036854775807) (hl' : m ≤ 9223372036854775807)
  (hc : ∀ i, i < n → w.cell? ⟨b, off + i, none⟩ = some (.int .i64 (xs.getD i 0))) (hc' : ∀ i, i < m → w.cell? ⟨b', off' + i, none⟩ = some (.int .i64 (ys.getD i 0))) :
  Calls Tryz.prog 165 #[.slice (some ⟨b, off, none⟩) n cap, .slice (some ⟨b', off', none⟩) m cap'] w fun e w' =>
   e = .returned (.bool (eqB xs ys)) ∧ ∃ q, w' = w.drewN q := by
 have HN := Lib.hid hn
 have HM := Lib.hid hm
 clear hn hm
 by_cases h1 : n = m
 ·subst h1
  go_enter Tryz.func165, Tryz.ntmps165
  go_wp2
  go_loopw [5] (fun i wr => ∃ k q : Nat, k ≤ n ∧ i = .int .i64 k ∧ Hid (xs.take k = ys.take k) ∧ wr = w.drewN q) (fun i _ => n - (intOf i).toNat)
  case atStart => exact ⟨0, 0, Nat.zero_le _, rfl, by simp [Hid], rfl⟩
  case round =>
   obtain ⟨k, q, hk, rfl, hg, rfl⟩ := hrel
   by_cases hlt : k < n
   ·have hc1 := hc k hlt
    have hc2 := hc' k hlt
    clear hc hc'
    obtain ⟨x, hx⟩ : ∃ x, xs.getD k 0 = x := ⟨_, rfl⟩
    obtain ⟨y, hy⟩ : ∃ y, ys.getD k 0 = y := ⟨_, rfl⟩
    rw [hx] at hc1
    rw [hy] at hc2
    have HX := Lib.hid hx
    have HY := Lib.hid hy
    clear hx hy
    have i0 : (0 : Int) ≤ k := by omega
    have i1 : (k : Int) < n := by omega
    by_cases hx0 : x = y
    ·subst hx0
     go_wp2
     go_quiet (fail)
     go_wp2
     go_roundw
     case rel => exact ⟨k + 1, _, by omega, by go_num, take_eq_step xs ys k (by rw [HN.out]; omega) (by rw [HM.out]; omega) hg.out (by rw [HX.out, HY.out]), rfl⟩
     case measure => simp [intOf]; omega
    ·have e1 : (x == y) = false := by simpa using hx0
     have e2 : (x != y) = true := by simpa using hx0
     go_wp2
     go_quiet (fail)
     go_wp2
     go_ret
     exact ⟨ret_bool (eqB_bad xs ys k (by rw [HX.out, HY.out]; exact hx0)).symm, _, World.drewN_drewN ..⟩
   ·go_wp2
    go_ret
    exact ⟨ret_bool (eqB_all xs ys k (by rw [HN.out]; omega) (by rw [HM.out]; omega) hg.out).symm, q, rfl⟩
 ·have hb : ((n : Int) == (m : Int)) = false := by simp; omega
  have hb' : ((n : Int) != (m : Int)) = true := by simp; omega
  go_enter Tryz.func165, Tryz.ntmps165
  go_wp2
  go_ret
  exact ⟨ret_bool (eqB_len xs ys (by rw [HN.out, HM.out]; exact h1)).symm, 0, rfl⟩
theorem l2same_nil_nil (a a' : Option Addr) (c c' : Nat) (w : World) : Calls Tryz.prog 165 #[.slice a 0 c, .slice a' 0 c'] w fun e w' => e = .returned (.bool (eqB [] [])) ∧ ∃ q, w' = w.drewN q := by
 go_enter Tryz.func165, Tryz.ntmps165
 go_wp2
 go_loop [5] (fun i => i = .int .i64 0) (fun _ => 0)
 case atStart => rfl
 case round =>
  obtain rfl := hrel
  go_wp2
  go_ret
  exact ⟨rfl, 0, rfl⟩
theorem l2same_nil_some (a : Option Addr) (c b off cap n : Nat) (xs : List Int) (w : World) (hn : xs.length = n) (hl : n ≤ 9223372036854775807) :
  Calls Tryz.prog 165 #[.slice a 0 c, .slice (some ⟨b, off, none⟩) n cap] w fun e w' => e = .returned (.bool (eqB [] xs)) ∧ ∃ q, w' = w.drewN q := by
 by_cases h : n = 0
 ·subst h
  obtain rfl := List.eq_nil_of_length_eq_zero hn
  clear hn
  go_enter Tryz.func165, Tryz.ntmps165
  go_wp2
  go_loop [5] (fun i => i = .int .i64 0) (fun _ => 0)
  case atStart => rfl
  case round =>
   obtain rfl := hrel
   go_wp2
   go_ret
   exact ⟨rfl, 0, rfl⟩
 ·have HN := Lib.hid hn
  clear hn
  have hb : ((0 : Int) == (n : Int)) = false := by simp; omega
  have hb' : ((0 : Int) != (n : Int)) = true := by simp; omega
  go_enter Tryz.func165, Tryz.ntmps165
  go_wp2
  go_ret
  exact ⟨ret_bool (eqB_len [] xs (by rw [HN.out]; simp; omega)).symm, 0, rfl⟩
theorem l2same_some_nil (a : Option Addr) (c b off cap n : Nat) (xs : List Int) (w : World) (hn : xs.length = n) (hl : n ≤ 9223372036854775807) :
  Calls Tryz.prog 165 #[.slice (some ⟨b, off, none⟩) n cap, .slice a 0 c] w fun e w' => e = .returned (.bool (eqB xs [])) ∧ ∃ q, w' = w.drewN q := by
 by_cases h : n = 0
 ·subst h
  obtain rfl := List.eq_nil_of_length_eq_zero hn
  clear hn
  go_enter Tryz.func165, Tryz.ntmps165
  go_wp2
  go_loop [5] (fun i => i = .int .i64 0) (fun _ => 0)
  case atStart => rfl
  case round =>
   obtain rfl := hrel
   go_wp2
   go_ret
   exact ⟨rfl, 0, rfl⟩
 ·have HN := Lib.hid hn
  clear hn
  have hb : ((n : Int) == 0) = false := by simp; omega
  have hb' : ((n : Int) != 0) = true := by simp; omega
  go_enter Tryz.func165, Tryz.ntmps165
  go_wp2
  go_ret
  exact ⟨ret_bool (eqB_len xs [] (by rw [HN.out]; simp; omega)).symm, 0, rfl⟩
theorem l2same_any (v v' : Value) (xs ys : List Int) (w : World) (h : Ints w v xs) (h' : Ints w v' ys) :
  Calls Tryz.prog 165 #[v, v'] w fun e w' => e = .returned (.bool (eqB xs ys)) ∧ ∃ q, w' = w.drewN q := by
 rcases h with ⟨a, cap, rfl, rfl⟩ | ⟨b, off, cap, rfl, h1, h2, h3, h4⟩ <;> rcases h' with ⟨a', cap', rfl, rfl⟩ | ⟨b', off', cap', rfl, h1', h2', h3', h4'⟩
 ·exact l2same_nil_nil _ _ _ _ w
 ·exact l2same_nil_some _ _ _ _ _ _ _ w rfl (by unfold maxLen at h3'; omega)
 ·exact l2same_some_nil _ _ _ _ _ _ _ w rfl (by unfold maxLen at h3; omega)
 ·exact l2same_some _ _ _ _ _ _ _ _ xs ys w rfl rfl (by unfold maxLen at h3; omega) (by unfold maxLen at h3'; omega) h4 h4'
theorem ups_take_step (us vs : List UpM) (k : Nat) (hu : k < us.length) (hv : k < vs.length) (h : us.take k = vs.take k) (e : us.getD k up0 = vs.getD k up0) : us.take (k + 1) = vs.take (k + 1) := by
 rw [List.take_succ_eq_append_getElem hu, List.take_succ_eq_append_getElem hv, h]
 simp only [List.getD, List.getElem?_eq_getElem hu, List.getElem?_eq_getElem hv, Option.getD_some] at e
 rw [e]
set_option maxHeartbeats 3200000 in
theorem specSame_ups (r n actor kind to bucket mask gr gn : Int) (vd vd' : Value) (dep dep' : List Int) (ups ups' : List UpM) (b off cap b' off' cap' len : Nat) (w : World)
  (hd : Ints w vd dep) (hd' : Ints w vd' dep') (h1 : ups.length = len) (h2 : ups'.length = len) (hl : len ≤ 9223372036854775807) (hb : b < w.heap.size) (hb' : b' < w.heap.size)
  (hc : ∀ i, i < len → UpAt w b (off + i * 4) (ups.getD i up0)) (hc' : ∀ i, i < len → UpAt w b' (off' + i * 4) (ups'.getD i up0)) :
  Calls Tryz.prog 149 #[.agg #[.int .i64 r, .int .i64 n, vd, .int .i64 actor, .int .i64 kind, .int .i64 to, .int .i64 bucket, .int .i64 mask, .int .i64 gr, .int .i64 gn, .slice (some ⟨b, off, none⟩) len cap],
   .agg #[.int .i64 r, .int .i64 n, vd', .int .i64 actor, .int .i64 kind, .int .i64 to, .int .i64 bucket, .int .i64 mask, .int .i64 gr, .int .i64 gn, .slice (some ⟨b', off', none⟩) len cap']] w fun e w' => e = .returned (.bool (decide (ups = ups') && eqB dep dep')) ∧ Below w.heap.size w w' := by
 have bb := Lib.hid (((Below.refl w.heap.size w).alloc (Nat.le_refl _) (.cells #[.int .i64 r, .int .i64 n, vd, .int .i64 actor, .int .i64 kind, .int .i64 to, .int .i64 bucket, .int .i64 mask, .int .i64 gr, .int .i64 gn, .slice (some ⟨b, off, none⟩) len cap] 32)).alloc (by simp) (.cells #[.int .i64 r, .int .i64 n, vd', .int .i64 actor, .int .i64 kind, .int .i64 to, .int .i64 bucket, .int .i64 mask, .int .i64 gr, .int .i64 gn, .slice (some ⟨b', off', none⟩) len cap'] 32))
 have HD := Lib.hid hd
 have HD' := Lib.hid hd'
 have N1 := Lib.hid h1
 have N2 := Lib.hid h2
 have HC := Lib.hid hc
 have HC' := Lib.hid hc'
 obtain ⟨R, hR⟩ : ∃ R, R = (decide (ups = ups') && eqB dep dep') := ⟨_, rfl⟩
 rw [← hR]
 have HR := Lib.hid hR
 clear hd hd' h1 h2 hc hc' hR
 go_enter Tryz.func149, Tryz.ntmps149
 go_wp2
 go_loopw [5] (fun i wr => ∃ k q : Nat, k ≤ len ∧ i = .int .i64 k ∧ Hid (ups.take k = ups'.take k) ∧ wr = ((w.alloc (.cells #[.int .i64 r, .int .i64 n, vd, .int .i64 actor, .int .i64 kind, .int .i64 to, .int .i64 bucket, .int .i64 mask, .int .i64 gr, .int .i64 gn, .slice (some ⟨b, off, none⟩) len cap] 32)).alloc (.cells #[.int .i64 r, .int .i64 n, vd', .int .i64 actor, .int .i64 kind, .int .i64 to, .int .i64 bucket, .int .i64 mask, .int .i64 gr, .int .i64 gn, .slice (some ⟨b', off', none⟩) len cap'] 32)).drewN q) (fun i _ => len - (intOf i).toNat)
 case atStart => exact ⟨0, 0, Nat.zero_le _, rfl, by simp [Hid], rfl⟩
 case round =>
  obtain ⟨k, q, hk, rfl, hg, rfl⟩ := hrel
  by_cases hlt : k < len
  ·obtain ⟨c0, c1, c2, c3⟩ := HC.out k hlt
   obtain ⟨d0, d1, d2, d3⟩ := HC'.out k hlt
   obtain ⟨u, hu⟩ : ∃ u, ups.getD k up0 = u := ⟨_, rfl⟩
   obtain ⟨u', hu'⟩ : ∃ u, ups'.getD k up0 = u := ⟨_, rfl⟩
   rw [hu] at c0 c1 c2 c3
   rw [hu'] at d0 d1 d2 d3
   have HU := Lib.hid hu
   have HU' := Lib.hid hu'
   clear hu hu'
   have i0 : (0 : Int) ≤ k := by omega
   have i1 : (k : Int) < len := by omega
   by_cases he : u = u'
   ·subst he
    go_wp2
    go_quiet (fail)
    go_wp2
    go_roundw
    case rel => exact ⟨k + 1, _, by omega, by go_num, ups_take_step ups ups' k (by rw [N1.out]; exact hlt) (by rw [N2.out]; exact hlt) hg.out (by rw [HU.out, HU'.out]), rfl⟩
    case measure => simp [intOf]; omega
   ·have HRF : Hid (R = false) := by
     show R = false
     rw [HR.out]
     have : ups ≠ ups' := by intro e; apply he; rw [← HU.out, ← HU'.out, e]
     simp [this]
    obtain ⟨x0, x1, x2, x3⟩ := u
    obtain ⟨y0, y1, y2, y3⟩ := u'
    simp only at c0 c1 c2 c3 d0 d1 d2 d3
    have hcases : x0 ≠ y0 ∨ (x0 = y0 ∧ x1 ≠ y1) ∨ (x0 = y0 ∧ x1 = y1 ∧ x2 ≠ y2) ∨ (x0 = y0 ∧ x1 = y1 ∧ x2 = y2 ∧ x3 ≠ y3) := by
     by_cases p0 : x0 = y0
     ·by_cases p1 : x1 = y1
      ·by_cases p2 : x2 = y2
       ·by_cases p3 : x3 = y3
        ·exact absurd (by rw [p0, p1, p2, p3]) he
        ·exact .inr (.inr (.inr ⟨p0, p1, p2, p3⟩))
       ·exact .inr (.inr (.inl ⟨p0, p1, p2⟩))
      ·exact .inr (.inl ⟨p0, p1⟩)
     ·exact .inl p0
    clear he HU HU'
    rcases hcases with p | ⟨rfl, p⟩ | ⟨rfl, rfl, p⟩ | ⟨rfl, rfl, rfl, p⟩
    ·have e1 : (x0 == y0) = false := by simpa using p
     clear p
     go_wp2
     go_quiet (fail)
     go_wp2
     go_ret
     exact ⟨ret_bool HRF.out.symm, below_drewN (below_drewN bb.out _) _⟩
    ·have e1 : (x1 == y1) = false := by simpa using p
     clear p
     go_wp2
     go_quiet (fail)
     go_wp2
     go_ret
     exact ⟨ret_bool HRF.out.symm, below_drewN (below_drewN bb.out _) _⟩
    ·have e1 : (x2 == y2) = false := by simpa using p
     clear p
     go_wp2
     go_quiet (fail)
     go_wp2
     go_ret
     exact ⟨ret_bool HRF.out.symm, below_drewN (below_drewN bb.out _) _⟩
    ·have e1 : (x3 == y3) = false := by simpa using p
     clear p
     go_wp2
     go_quiet (fail)
     go_wp2
     go_ret
     exact ⟨ret_bool HRF.out.symm, below_drewN (below_drewN bb.out _) _⟩
  ·have HRT : Hid (R = eqB dep dep') := by
    show R = _
    have hkl : k = len := by omega
    have e : ups = ups' := by
     have := hg.out
     rw [List.take_of_length_le (by rw [N1.out]; omega), List.take_of_length_le (by rw [N2.out]; omega)] at this
     exact this
    rw [HR.out, e]
    simp
   go_wp2_with fail
   refine (l2same_any _ _ dep dep' _ ((HD.out.below (B := 0) (below_drewN bb.out q))) (HD'.out.below (B := 0) (below_drewN bb.out q))).mono ?_
   rintro e w1 ⟨rfl, q1, rfl⟩
   go_wp2
   go_ret
   exact ⟨ret_bool HRT.out.symm, by repeat (first | exact bb.out | refine below_drewN ?_ _)⟩
set_option maxHeartbeats 1600000 in
theorem specSame_nil (r n actor kind to bucket mask gr gn : Int) (vd vd' : Value) (dep dep' : List Int) (a a' : Option Addr) (cap cap' : Nat) (w : World)
  (hd : Ints w vd dep) (hd' : Ints w vd' dep') :
  Calls Tryz.prog 149 #[.agg #[.int .i64 r, .int .i64 n, vd, .int .i64 actor, .int .i64 kind, .int .i64 to, .int .i64 bucket, .int .i64 mask, .int .i64 gr, .int .i64 gn, .slice a 0 cap],
   .agg #[.int .i64 r, .int .i64 n, vd', .int .i64 actor, .int .i64 kind, .int .i64 to, .int .i64 bucket, .int .i64 mask, .int .i64 gr, .int .i64 gn, .slice a' 0 cap']] w fun e w' => e = .returned (.bool (eqB dep dep')) ∧ Below w.heap.size w w' := by
 have bb := Lib.hid (((Below.refl w.heap.size w).alloc (Nat.le_refl _) (.cells #[.int .i64 r, .int .i64 n, vd, .int .i64 actor, .int .i64 kind, .int .i64 to, .int .i64 bucket, .int .i64 mask, .int .i64 gr, .int .i64 gn, .slice a 0 cap] 32)).alloc (by simp) (.cells #[.int .i64 r, .int .i64 n, vd', .int .i64 actor, .int .i64 kind, .int .i64 to, .int .i64 bucket, .int .i64 mask, .int .i64 gr, .int .i64 gn, .slice a' 0 cap'] 32))
 have HD := Lib.hid hd
 have HD' := Lib.hid hd'
 clear hd hd'
 go_enter Tryz.func149, Tryz.ntmps149
 go_wp2
 go_loop [5] (fun i => i = .int .i64 0) (fun _ => 0)
 case atStart => rfl
 case round =>
  obtain rfl := hrel
  go_wp2_with fail
  refine (l2same_any _ _ dep dep' _ (HD.out.below (B := 0) bb.out) (HD'.out.below (B := 0) bb.out)).mono ?_
  rintro e w1 ⟨rfl, q1, rfl⟩
  go_wp2
  go_ret
  exact ⟨rfl, below_drewN bb.out _⟩
end Go.Proofs.YtghgiefciijoeaaGreatDoor
namespace Go.Proofs.YtghgiefciijoeaaGreatDoor
open Go.RowKit
set_option linter.unusedVariables false
theorem sameM_no {a b : ActM} (h : a ≠ b) : sameM a b = false := by simp [sameM, h]
set_option maxHeartbeats 3200000 in
theorem specSame_any : SpecSameAct := by
 intro v v' a b w h h'
 obtain ⟨vd, vs, rfl, hd, hs⟩ := h
 obtain ⟨vd', vs', rfl, hd', hs'⟩ := h'
 obtain ⟨r', n', dep', actor', kind', to', bucket', mask', gr', gn', ups'⟩ := b
 obtain ⟨r, n, dep, actor, kind, to, bucket, mask, gr, gn, ups⟩ := a
 obtain ⟨ua, uc, hvs⟩ := ups_len hs
 obtain ⟨ua', uc', hvs'⟩ := ups_len hs'
 have um := ups_max hs
 have um' := ups_max hs'
 simp only at *
 obtain ⟨R, hR⟩ : ∃ R, R = sameM ⟨r, n, dep, actor, kind, to, bucket, mask, gr, gn, ups⟩ ⟨r', n', dep', actor', kind', to', bucket', mask', gr', gn', ups'⟩ := ⟨_, rfl⟩
 rw [← hR]
 have bb := Lib.hid (((Below.refl w.heap.size w).alloc (Nat.le_refl _) (.cells #[.int .i64 r, .int .i64 n, vd, .int .i64 actor, .int .i64 kind, .int .i64 to, .int .i64 bucket, .int .i64 mask, .int .i64 gr, .int .i64 gn, vs] 32)).alloc (by simp) (.cells #[.int .i64 r', .int .i64 n', vd', .int .i64 actor', .int .i64 kind', .int .i64 to', .int .i64 bucket', .int .i64 mask', .int .i64 gr', .int .i64 gn', vs'] 32))
 by_cases q0 : r = r'
 ·subst q0
  by_cases q1 : n = n'
  ·subst q1
   by_cases q2 : actor = actor'
   ·subst q2
    by_cases q3 : kind = kind'
    ·subst q3
     by_cases q4 : to = to'
     ·subst q4
      by_cases q5 : bucket = bucket'
      ·subst q5
       by_cases q6 : mask = mask'
       ·subst q6
        by_cases q7 : gr = gr'
        ·subst q7
         by_cases q8 : gn = gn'
         ·subst q8
          by_cases hl : ups.length = ups'.length
          ·have hRE : R = (decide (ups = ups') && eqB dep dep') := by
            rw [hR, Bool.eq_iff_iff]
            simp [sameM, eqB, and_comm]
           clear hvs hvs' bb hR
           rcases hs with ⟨a, cap, rfl, rfl⟩ | ⟨b, off, cap, rfl, k1, k2, k3, k4⟩
           ·have hz : ups' = [] := List.eq_nil_of_length_eq_zero (by simpa using hl.symm)
            subst hz
            obtain ⟨a', cap', hv'⟩ := ups_len hs'
            subst hv'
            refine (specSame_nil r n actor kind to bucket mask gr gn vd vd' dep dep' a a' cap cap' w hd hd').mono ?_
            rintro e w' ⟨rfl, hb⟩
            exact ⟨ret_bool (by rw [hRE]; simp), hb⟩
           ·rcases hs' with ⟨a', cap', rfl, rfl⟩ | ⟨b', off', cap', rfl, k1', k2', k3', k4'⟩
            ·have hz : ups = [] := List.eq_nil_of_length_eq_zero (by simpa using hl)
             subst hz
             refine (specSame_nil r n actor kind to bucket mask gr gn vd vd' dep dep' _ a' cap cap' w hd hd').mono ?_
             rintro e w' ⟨rfl, hb⟩
             exact ⟨ret_bool (by rw [hRE]; simp), hb⟩
            ·rw [hRE, ← hl]
             exact specSame_ups r n actor kind to bucket mask gr gn vd vd' dep dep' ups ups' b off cap b' off' cap' ups.length w hd hd' rfl hl.symm um k1 k1' k4 (by rw [hl]; exact k4')
          ·have HR := Lib.hid (show R = false by rw [hR]; exact sameM_no (by intro e; injection e with _ _ _ _ _ _ _ _ _ _ e; exact hl (by rw [e])))
           subst hvs hvs'
           generalize ups.length = l1 at *
           generalize ups'.length = l2 at *
           have e1 : ((l1 : Int) == l2) = false := by simp; omega
           have e2 : ((l1 : Int) != l2) = true := by simp; omega
           clear hR hd hs hd' hs' hl
           go_enter Tryz.func149, Tryz.ntmps149
           go_wp2
           go_ret
           exact ⟨ret_bool HR.out.symm, bb.out⟩
         ·have HR := Lib.hid (show R = false by rw [hR]; exact sameM_no (by intro e; injection e with _ _ _ _ _ _ _ _ _ e _; exact q8 e))
          have e1 : (gn == gn') = false := by simpa using q8
          have e2 : (gn != gn') = true := by simpa using q8
          clear hR hd hs hd' hs' q8 hvs hvs' um um'
          go_enter Tryz.func149, Tryz.ntmps149
          go_wp2
          go_ret
          exact ⟨ret_bool HR.out.symm, bb.out⟩
        ·have HR := Lib.hid (show R = false by rw [hR]; exact sameM_no (by intro e; injection e with _ _ _ _ _ _ _ _ e _ _; exact q7 e))
         have e1 : (gr == gr') = false := by simpa using q7
         have e2 : (gr != gr') = true := by simpa using q7
         clear hR hd hs hd' hs' q7 hvs hvs' um um'
         go_enter Tryz.func149, Tryz.ntmps149
         go_wp2
         go_ret
         exact ⟨ret_bool HR.out.symm, bb.out⟩
       ·have HR := Lib.hid (show R = false by rw [hR]; exact sameM_no (by intro e; injection e with _ _ _ _ _ _ _ e _ _ _; exact q6 e))
        have e1 : (mask == mask') = false := by simpa using q6
        have e2 : (mask != mask') = true := by simpa using q6
        clear hR hd hs hd' hs' q6 hvs hvs' um um'
        go_enter Tryz.func149, Tryz.ntmps149
        go_wp2
        go_ret
        exact ⟨ret_bool HR.out.symm, bb.out⟩
      ·have HR := Lib.hid (show R = false by rw [hR]; exact sameM_no (by intro e; injection e with _ _ _ _ _ _ e _ _ _ _; exact q5 e))
       have e1 : (bucket == bucket') = false := by simpa using q5
       have e2 : (bucket != bucket') = true := by simpa using q5
       clear hR hd hs hd' hs' q5 hvs hvs' um um'
       go_enter Tryz.func149, Tryz.ntmps149
       go_wp2
       go_ret
       exact ⟨ret_bool HR.out.symm, bb.out⟩
     ·have HR := Lib.hid (show R = false by rw [hR]; exact sameM_no (by intro e; injection e with _ _ _ _ _ e _ _ _ _ _; exact q4 e))
      have e1 : (to == to') = false := by simpa using q4
      have e2 : (to != to') = true := by simpa using q4
      clear hR hd hs hd' hs' q4 hvs hvs' um um'
      go_enter Tryz.func149, Tryz.ntmps149
      go_wp2
      go_ret
      exact ⟨ret_bool HR.out.symm, bb.out⟩
    ·have HR := Lib.hid (show R = false by rw [hR]; exact sameM_no (by intro e; injection e with _ _ _ _ e _ _ _ _ _ _; exact q3 e))
     have e1 : (kind == kind') = false := by simpa using q3
     have e2 : (kind != kind') = true := by simpa using q3
     clear hR hd hs hd' hs' q3 hvs hvs' um um'
     go_enter Tryz.func149, Tryz.ntmps149
     go_wp2
     go_ret
     exact ⟨ret_bool HR.out.symm, bb.out⟩
   ·have HR := Lib.hid (show R = false by rw [hR]; exact sameM_no (by intro e; injection e with _ _ _ e _ _ _ _ _ _ _; exact q2 e))
    have e1 : (actor == actor') = false := by simpa using q2
    have e2 : (actor != actor') = true := by simpa using q2
    clear hR hd hs hd' hs' q2 hvs hvs' um um'
    go_enter Tryz.func149, Tryz.ntmps149
    go_wp2
    go_ret
    exact ⟨ret_bool HR.out.symm, bb.out⟩
  ·have HR := Lib.hid (show R = false by rw [hR]; exact sameM_no (by intro e; injection e with _ e _ _ _ _ _ _ _ _ _; exact q1 e))
   have e1 : (n == n') = false := by simpa using q1
   have e2 : (n != n') = true := by simpa using q1
   clear hR hd hs hd' hs' q1 hvs hvs' um um'
   go_enter Tryz.func149, Tryz.ntmps149
   go_wp2
   go_ret
   exact ⟨ret_bool HR.out.symm, bb.out⟩
 ·have HR := Lib.hid (show R = false by rw [hR]; exact sameM_no (by intro e; injection e with e _ _ _ _ _ _ _ _ _ _; exact q0 e))
  have e1 : (r == r') = false := by simpa using q0
  have e2 : (r != r') = true := by simpa using q0
  clear hR hd hs hd' hs' q0 hvs hvs' um um'
  go_enter Tryz.func149, Tryz.ntmps149
  go_wp2
  go_ret
  exact ⟨ret_bool HR.out.symm, bb.out⟩
end Go.Proofs.YtghgiefciijoeaaGreatDoor
namespace Go.Proofs.YtghgiefciijoeaaGreatDoor
open Go.RowKit
set_option linter.unusedVariables false
def nd (l : List UpM) (b : Int) : Int :=
 (if l.any (fun u => u.bucket = b && u.kind = 2) = true then 4 else 0) + (if l.any (fun u => u.bucket = b && (u.kind = 1 || u.kind = 3 || u.kind = 4)) = true then 2 else 0)
theorem nd_values (l : List UpM) (b : Int) : nd l b = 0 ∨ nd l b = 2 ∨ nd l b = 4 ∨ nd l b = 6 := by
 unfold nd; split <;> split <;> simp
def ndStep (u : UpM) (b t : Int) : Int :=
 if u.bucket = b then (if u.kind = 2 then bits .or .i64 t 4 else if u.kind = 1 ∨ u.kind = 3 ∨ u.kind = 4 then bits .or .i64 t 2 else t) else t
theorem nd_step (l : List UpM) (b : Int) (k : Nat) (hk : k < l.length) : nd (l.take (k + 1)) b = ndStep (l.getD k up0) b (nd (l.take k) b) := by
 rw [List.take_succ_eq_append_getElem hk]
 simp only [List.getD, List.getElem?_eq_getElem hk, Option.getD_some]
 generalize l[k] = u
 generalize l.take k = m
 unfold nd ndStep
 simp only [List.any_append, List.any_cons, List.any_nil, Bool.or_false]
 by_cases hb : u.bucket = b
 ·by_cases h2 : u.kind = 2
  ·rw [if_pos hb, if_pos h2]
   simp only [hb, h2, decide_true, Bool.and_self, Bool.or_true, if_true]
   cases m.any _ <;> cases m.any _ <;> decide
  ·rw [if_pos hb, if_neg h2]
   by_cases h3 : u.kind = 1 ∨ u.kind = 3 ∨ u.kind = 4
   ·rw [if_pos h3]
    have e : (decide (u.kind = 1) || decide (u.kind = 3) || decide (u.kind = 4)) = true := by rcases h3 with h | h | h <;> simp [h]
    simp only [hb, h2, e, decide_true, decide_false, Bool.and_self, Bool.and_false, Bool.or_true, Bool.or_false, if_true]
    cases m.any _ <;> cases m.any _ <;> decide
   ·rw [if_neg h3]
    have e : (decide (u.kind = 1) || decide (u.kind = 3) || decide (u.kind = 4)) = false := by
     simp only [Bool.or_eq_false_iff, decide_eq_false_iff_not]; omega
    simp only [hb, h2, e, decide_true, decide_false, Bool.and_false, Bool.or_false]
 ·rw [if_neg hb]
  simp only [hb, decide_false, Bool.false_and, Bool.or_false]
set_option maxHeartbeats 3200000 in
theorem specNeeds_some (r n actor kind to bucket mask gr gn x : Int) (vd : Value) (ups : List UpM) (b off cap len : Nat) (w : World)
  (h1 : ups.length = len) (hl : len ≤ 9223372036854775807) (hb : b < w.heap.size)
  (hc : ∀ i, i < len → UpAt w b (off + i * 4) (ups.getD i up0)) :
  Calls Tryz.prog 83 #[.agg #[.int .i64 r, .int .i64 n, vd, .int .i64 actor, .int .i64 kind, .int .i64 to, .int .i64 bucket, .int .i64 mask, .int .i64 gr, .int .i64 gn, .slice (some ⟨b, off, none⟩) len cap], .int .i64 x] w fun e w' => e = .returned (.int .i64 (nd ups x)) ∧ Below w.heap.size w w' := by
 have bb := Lib.hid ((Below.refl w.heap.size w).alloc (Nat.le_refl _) (.cells #[.int .i64 r, .int .i64 n, vd, .int .i64 actor, .int .i64 kind, .int .i64 to, .int .i64 bucket, .int .i64 mask, .int .i64 gr, .int .i64 gn, .slice (some ⟨b, off, none⟩) len cap] 32))
 have N1 := Lib.hid h1
 have HC := Lib.hid hc
 clear h1 hc
 go_enter Tryz.func83, Tryz.ntmps83
 go_wp2
 go_loop [5, 6] (fun t i => ∃ (k : Nat) (s : Int), k ≤ len ∧ i = .int .i64 k ∧ t = .int .i64 s ∧ Hid (s = nd (ups.take k) x)) (fun _ i => len - (intOf i).toNat)
 case atStart => exact ⟨0, 0, Nat.zero_le _, rfl, rfl, by simp [Hid, nd]⟩
 case round =>
  obtain ⟨k, s, hk, rfl, rfl, hs⟩ := hrel
  by_cases hlt : k < len
  ·obtain ⟨c0, c1, c2, c3⟩ := HC.out k hlt
   have hst := nd_step ups x k (by rw [N1.out]; exact hlt)
   rw [← hs.out] at hst
   obtain ⟨u, hu⟩ : ∃ u, ups.getD k up0 = u := ⟨_, rfl⟩
   rw [hu] at c0 c1 c2 c3 hst
   clear hu
   obtain ⟨u0, u1, u2, u3⟩ := u
   simp only [ndStep] at hst c0 c1 c2 c3
   by_cases hb1 : u1 = x
   ·subst hb1
    rw [if_pos rfl] at hst
    by_cases h2 : u0 = 2
    ·subst h2
     rw [if_pos rfl] at hst
     have HST := Lib.hid hst
     clear hst
     go_wp2
     go_round
     case rel => exact ⟨k + 1, _, by omega, by go_num, rfl, HST.out.symm⟩
     case measure => simp [intOf]; omega
    ·rw [if_neg h2] at hst
     have e2 : (u0 == 2) = false := by simpa using h2
     by_cases h3 : u0 = 1 ∨ u0 = 3 ∨ u0 = 4
     ·rw [if_pos h3] at hst
      have HST := Lib.hid hst
      clear hst h2
      rcases h3 with rfl | rfl | rfl
      all_goals
       clear e2
       go_wp2
       go_round
      case rel => exact ⟨k + 1, _, by omega, by go_num, rfl, HST.out.symm⟩
      case measure => simp [intOf]; omega
      case rel => exact ⟨k + 1, _, by omega, by go_num, rfl, HST.out.symm⟩
      case measure => simp [intOf]; omega
      case rel => exact ⟨k + 1, _, by omega, by go_num, rfl, HST.out.symm⟩
      case measure => simp [intOf]; omega
     ·rw [if_neg h3] at hst
      have HST := Lib.hid hst
      have e1 : (u0 == 1) = false := by simp; omega
      have e3 : (u0 == 3) = false := by simp; omega
      have e4 : (u0 == 4) = false := by simp; omega
      clear hst h2 h3
      go_wp2
      go_round
      case rel => exact ⟨k + 1, _, by omega, by go_num, rfl, HST.out.symm⟩
      case measure => simp [intOf]; omega
   ·rw [if_neg hb1] at hst
    have HST := Lib.hid hst
    have e1 : (u1 == x) = false := by simpa using hb1
    have e2 : (u1 != x) = true := by simpa using hb1
    clear hst hb1
    go_wp2
    go_round
    case rel => exact ⟨k + 1, _, by omega, by go_num, rfl, HST.out.symm⟩
    case measure => simp [intOf]; omega
  ·have hkl : k = len := by omega
   subst hkl
   go_wp2
   go_ret
   exact ⟨ret_int (by rw [hs.out, List.take_of_length_le (by rw [N1.out]; omega)]), bb.out⟩
theorem specNeeds_nil (r n actor kind to bucket mask gr gn x : Int) (vd : Value) (a : Option Addr) (cap : Nat) (w : World) :
  Calls Tryz.prog 83 #[.agg #[.int .i64 r, .int .i64 n, vd, .int .i64 actor, .int .i64 kind, .int .i64 to, .int .i64 bucket, .int .i64 mask, .int .i64 gr, .int .i64 gn, .slice a 0 cap], .int .i64 x] w fun e w' => e = .returned (.int .i64 (nd [] x)) ∧ Below w.heap.size w w' := by
 have bb := Lib.hid ((Below.refl w.heap.size w).alloc (Nat.le_refl _) (.cells #[.int .i64 r, .int .i64 n, vd, .int .i64 actor, .int .i64 kind, .int .i64 to, .int .i64 bucket, .int .i64 mask, .int .i64 gr, .int .i64 gn, .slice a 0 cap] 32))
 go_enter Tryz.func83, Tryz.ntmps83
 go_wp2
 go_loop [5, 6] (fun t i => t = .int .i64 0 ∧ i = .int .i64 0) (fun _ _ => 0)
 case atStart => exact ⟨rfl, rfl⟩
 case round =>
  obtain ⟨rfl, rfl⟩ := hrel
  go_wp2
  go_ret
  exact ⟨ret_int (by simp [nd]), bb.out⟩
theorem specNeeds_any : SpecNeeds := by
 intro v a x w h _
 obtain ⟨vd, vs, rfl, hd, hs⟩ := h
 obtain ⟨r, n, dep, actor, kind, to, bucket, mask, gr, gn, ups⟩ := a
 have e : needsM ⟨r, n, dep, actor, kind, to, bucket, mask, gr, gn, ups⟩ x = nd ups x := rfl
 rw [e]
 have hm := ups_max hs
 simp only at hm
 rcases hs with ⟨a, cap, rfl, h0⟩ | ⟨b, off, cap, rfl, h1, h2, h3, h4⟩
 ·simp only at h0
  subst h0
  exact specNeeds_nil r n actor kind to bucket mask gr gn x vd a cap w
 ·exact specNeeds_some r n actor kind to bucket mask gr gn x vd ups b off cap _ w rfl hm h1 h4
end Go.Proofs.YtghgiefciijoeaaGreatDoor
