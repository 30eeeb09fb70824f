/- slices.Equal of ints and of ups; the program's SameAct. -/
import Derived.Test.YtghgiefciijoeaaGreatDoorAK
import Derived.Test.YtghgiefciijoeaaGreatDoorMI
import Derived.BigQuiet
import Derived.Deep.QuietTactic

namespace Go.Proofs.YtghgiefciijoeaaGreatDoor
open Go.RowKit
set_option linter.unusedVariables false
set_option maxHeartbeats 400000 in
theorem equal_some (b off cap b' off' cap' n m : Nat) (xs ys : List Int) (w : World) (hn : xs.length = n) (hm : ys.length = m) (hl : n ≤ 9223372036854775807) (hl' : m ≤ 9223372036854775807)
  (hc : ∀ i, i < n → w.cell? ⟨b, off + i, none⟩ = some (.int .i64 (xs.getD i 0))) (hc' : ∀ i, i < m → w.cell? ⟨b', off' + i, none⟩ = some (.int .i64 (ys.getD i 0))) :
  Calls Tryz.prog 150 #[.slice (some ⟨b, off, none⟩) n cap, .slice (some ⟨b', off', none⟩) m cap'] w fun e w' =>
   e = .returned (.bool (eqB xs ys)) ∧ ∃ q, w' = w.drewN q := by
 have HN := Lib.hid hn
 have HM := Lib.hid hm
 clear hn hm
 by_cases h1 : n = m
 ·subst h1
  go_enter Tryz.func150, Tryz.ntmps150
  go_wp2
  go_loopw [13] (fun i wr => ∃ k q : Nat, k ≤ n ∧ i = .int .i64 k ∧ Hid (xs.take k = ys.take k) ∧ wr = w.drewN q) (fun i _ => n - (intOf i).toNat)
  case atStart => exact ⟨0, 0, Nat.zero_le _, rfl, by simp [Hid], rfl⟩
  case round =>
   obtain ⟨k, q, hk, rfl, hg, rfl⟩ := hrel
   by_cases hlt : k < n
   ·have hc1 := hc k hlt
    have hc2 := hc' k hlt
    clear hc hc'
    obtain ⟨x, hx⟩ : ∃ x, xs.getD k 0 = x := ⟨_, rfl⟩
    obtain ⟨y, hy⟩ : ∃ y, ys.getD k 0 = y := ⟨_, rfl⟩
    rw [hx] at hc1
    rw [hy] at hc2
    have HX := Lib.hid hx
    have HY := Lib.hid hy
    clear hx hy
    have i0 : (0 : Int) ≤ k := by omega
    have i1 : (k : Int) < n := by omega
    by_cases hx0 : x = y
    ·subst hx0
     go_wp2
     go_quiet (fail)
     go_wp2
     go_roundw
     case rel => exact ⟨k + 1, _, by omega, by go_num, take_eq_step xs ys k (by rw [HN.out]; omega) (by rw [HM.out]; omega) hg.out (by rw [HX.out, HY.out]), rfl⟩
     case measure => simp [intOf]; omega
    ·have e1 : (x == y) = false := by simpa using hx0
     have e2 : (x != y) = true := by simpa using hx0
     go_wp2
     go_quiet (fail)
     go_wp2
     go_ret
     exact ⟨ret_bool (eqB_bad xs ys k (by rw [HX.out, HY.out]; exact hx0)).symm, _, World.drewN_drewN ..⟩
   ·go_wp2
    go_ret
    exact ⟨ret_bool (eqB_all xs ys k (by rw [HN.out]; omega) (by rw [HM.out]; omega) hg.out).symm, q, rfl⟩
 ·have hb : ((n : Int) == (m : Int)) = false := by simp; omega
  have hb' : ((n : Int) != (m : Int)) = true := by simp; omega
  go_enter Tryz.func150, Tryz.ntmps150
  go_wp2
  go_ret
  exact ⟨ret_bool (eqB_len xs ys (by rw [HN.out, HM.out]; exact h1)).symm, 0, rfl⟩
theorem equal_nil_nil (a a' : Option Addr) (c c' : Nat) (w : World) : Calls Tryz.prog 150 #[.slice a 0 c, .slice a' 0 c'] w fun e w' => e = .returned (.bool (eqB [] [])) ∧ ∃ q, w' = w.drewN q := by
 go_enter Tryz.func150, Tryz.ntmps150
 go_wp2
 go_loop [13] (fun i => i = .int .i64 0) (fun _ => 0)
 case atStart => rfl
 case round =>
  obtain rfl := hrel
  go_wp2
  go_ret
  exact ⟨rfl, 0, rfl⟩
theorem equal_nil_some (a : Option Addr) (c b off cap n : Nat) (xs : List Int) (w : World) (hn : xs.length = n) (hl : n ≤ 9223372036854775807) :
  Calls Tryz.prog 150 #[.slice a 0 c, .slice (some ⟨b, off, none⟩) n cap] w fun e w' => e = .returned (.bool (eqB [] xs)) ∧ ∃ q, w' = w.drewN q := by
 by_cases h : n = 0
 ·subst h
  obtain rfl := List.eq_nil_of_length_eq_zero hn
  clear hn
  go_enter Tryz.func150, Tryz.ntmps150
  go_wp2
  go_loop [13] (fun i => i = .int .i64 0) (fun _ => 0)
  case atStart => rfl
  case round =>
   obtain rfl := hrel
   go_wp2
   go_ret
   exact ⟨rfl, 0, rfl⟩
 ·have HN := Lib.hid hn
  clear hn
  have hb : ((0 : Int) == (n : Int)) = false := by simp; omega
  have hb' : ((0 : Int) != (n : Int)) = true := by simp; omega
  go_enter Tryz.func150, Tryz.ntmps150
  go_wp2
  go_ret
  exact ⟨ret_bool (eqB_len [] xs (by rw [HN.out]; simp; omega)).symm, 0, rfl⟩
theorem equal_some_nil (a : Option Addr) (c b off cap n : Nat) (xs : List Int) (w : World) (hn : xs.length = n) (hl : n ≤ 9223372036854775807) :
  Calls Tryz.prog 150 #[.slice (some ⟨b, off, none⟩) n cap, .slice a 0 c] w fun e w' => e = .returned (.bool (eqB xs [])) ∧ ∃ q, w' = w.drewN q := by
 by_cases h : n = 0
 ·subst h
  obtain rfl := List.eq_nil_of_length_eq_zero hn
  clear hn
  go_enter Tryz.func150, Tryz.ntmps150
  go_wp2
  go_loop [13] (fun i => i = .int .i64 0) (fun _ => 0)
  case atStart => rfl
  case round =>
   obtain rfl := hrel
   go_wp2
   go_ret
   exact ⟨rfl, 0, rfl⟩
 ·have HN := Lib.hid hn
  clear hn
  have hb : ((n : Int) == 0) = false := by simp; omega
  have hb' : ((n : Int) != 0) = true := by simp; omega
  go_enter Tryz.func150, Tryz.ntmps150
  go_wp2
  go_ret
  exact ⟨ret_bool (eqB_len xs [] (by rw [HN.out]; simp; omega)).symm, 0, rfl⟩
theorem equal_any (v v' : Value) (xs ys : List Int) (w : World) (h : Ints w v xs) (h' : Ints w v' ys) :
  Calls Tryz.prog 150 #[v, v'] w fun e w' => e = .returned (.bool (eqB xs ys)) ∧ ∃ q, w' = w.drewN q := by
 rcases h with ⟨a, cap, rfl, rfl⟩ | ⟨b, off, cap, rfl, h1, h2, h3, h4⟩ <;> rcases h' with ⟨a', cap', rfl, rfl⟩ | ⟨b', off', cap', rfl, h1', h2', h3', h4'⟩
 ·exact equal_nil_nil _ _ _ _ w
 ·exact equal_nil_some _ _ _ _ _ _ _ w rfl (by unfold maxLen at h3'; omega)
 ·exact equal_some_nil _ _ _ _ _ _ _ w rfl (by unfold maxLen at h3; omega)
 ·exact equal_some _ _ _ _ _ _ _ _ xs ys w rfl rfl (by unfold maxLen at h3; omega) (by unfold maxLen at h3'; omega) h4 h4'
theorem ups_ne {us vs : List UpM} (h : us.length ≠ vs.length) : decide (us = vs) = false := by
 have : us ≠ vs := by intro e; exact h (by rw [e])
 simp [this]
set_option maxHeartbeats 1600000 in
theorem equalU_some (b off cap b' off' cap' n m : Nat) (ups ups' : List UpM) (w : World) (hn : ups.length = n) (hm : ups'.length = m) (hl : n ≤ 9223372036854775807) (hl' : m ≤ 9223372036854775807)
  (hc : ∀ i, i < n → UpAt w b (off + i * 4) (ups.getD i up0)) (hc' : ∀ i, i < m → UpAt w b' (off' + i * 4) (ups'.getD i up0)) :
  Calls Tryz.prog 151 #[.slice (some ⟨b, off, none⟩) n cap, .slice (some ⟨b', off', none⟩) m cap'] w fun e w' =>
   e = .returned (.bool (decide (ups = ups'))) ∧ ∃ q, w' = w.drewN q := by
 have N1 := Lib.hid hn
 have N2 := Lib.hid hm
 have HC := Lib.hid hc
 have HC' := Lib.hid hc'
 obtain ⟨R, hR⟩ : ∃ R, R = decide (ups = ups') := ⟨_, rfl⟩
 rw [← hR]
 have HR := Lib.hid hR
 clear hn hm hc hc' hR
 by_cases h1 : n = m
 ·subst h1
  go_enter Tryz.func151, Tryz.ntmps151
  go_wp2
  go_loopw [13] (fun i wr => ∃ k q : Nat, k ≤ n ∧ i = .int .i64 k ∧ Hid (ups.take k = ups'.take k) ∧ wr = w.drewN q) (fun i _ => n - (intOf i).toNat)
  case atStart => exact ⟨0, 0, Nat.zero_le _, rfl, by simp [Hid], rfl⟩
  case round =>
   obtain ⟨k, q, hk, rfl, hg, rfl⟩ := hrel
   by_cases hlt : k < n
   ·obtain ⟨c0, c1, c2, c3⟩ := HC.out k hlt
    obtain ⟨d0, d1, d2, d3⟩ := HC'.out k hlt
    obtain ⟨u, hu⟩ : ∃ u, ups.getD k up0 = u := ⟨_, rfl⟩
    obtain ⟨u', hu'⟩ : ∃ u, ups'.getD k up0 = u := ⟨_, rfl⟩
    rw [hu] at c0 c1 c2 c3
    rw [hu'] at d0 d1 d2 d3
    have HU := Lib.hid hu
    have HU' := Lib.hid hu'
    clear hu hu'
    have i0 : (0 : Int) ≤ k := by omega
    have i1 : (k : Int) < n := by omega
    by_cases he : u = u'
    ·subst he
     go_wp2
     go_quiet (fail)
     go_wp2
     go_roundw
     case rel => exact ⟨k + 1, _, by omega, by go_num, ups_take_step ups ups' k (by rw [N1.out]; exact hlt) (by rw [N2.out]; exact hlt) hg.out (by rw [HU.out, HU'.out]), rfl⟩
     case measure => simp [intOf]; omega
    ·have HRF : Hid (R = false) := by
      show R = false
      rw [HR.out]
      have : ups ≠ ups' := by intro e; apply he; rw [← HU.out, ← HU'.out, e]
      simp [this]
     obtain ⟨x0, x1, x2, x3⟩ := u
     obtain ⟨y0, y1, y2, y3⟩ := u'
     simp only at c0 c1 c2 c3 d0 d1 d2 d3
     have hcases : x0 ≠ y0 ∨ (x0 = y0 ∧ x1 ≠ y1) ∨ (x0 = y0 ∧ x1 = y1 ∧ x2 ≠ y2) ∨ (x0 = y0 ∧ x1 = y1 ∧ x2 = y2 ∧ x3 ≠ y3) := by
      by_cases p0 : x0 = y0
      ·by_cases p1 : x1 = y1
       ·by_cases p2 : x2 = y2
        ·by_cases p3 : x3 = y3
         ·exact absurd (by rw [p0, p1, p2, p3]) he
         ·exact .inr (.inr (.inr ⟨p0, p1, p2, p3⟩))
        ·exact .inr (.inr (.inl ⟨p0, p1, p2⟩))
       ·exact .inr (.inl ⟨p0, p1⟩)
      ·exact .inl p0
     clear he HU HU'
     rcases hcases with p | ⟨rfl, p⟩ | ⟨rfl, rfl, p⟩ | ⟨rfl, rfl, rfl, p⟩
     ·have e1 : (x0 == y0) = false := by simpa using p
      clear p
      go_wp2
      go_quiet (fail)
      go_wp2
      go_ret
      exact ⟨ret_bool HRF.out.symm, _, World.drewN_drewN ..⟩
     ·have e1 : (x1 == y1) = false := by simpa using p
      clear p
      go_wp2
      go_quiet (fail)
      go_wp2
      go_ret
      exact ⟨ret_bool HRF.out.symm, _, World.drewN_drewN ..⟩
     ·have e1 : (x2 == y2) = false := by simpa using p
      clear p
      go_wp2
      go_quiet (fail)
      go_wp2
      go_ret
      exact ⟨ret_bool HRF.out.symm, _, World.drewN_drewN ..⟩
     ·have e1 : (x3 == y3) = false := by simpa using p
      clear p
      go_wp2
      go_quiet (fail)
      go_wp2
      go_ret
      exact ⟨ret_bool HRF.out.symm, _, World.drewN_drewN ..⟩
   ·have HRT : Hid (R = true) := by
     show R = _
     have e : ups = ups' := by
      have := hg.out
      rw [List.take_of_length_le (by rw [N1.out]; omega), List.take_of_length_le (by rw [N2.out]; omega)] at this
      exact this
     rw [HR.out, e]
     simp
    go_wp2
    go_ret
    exact ⟨ret_bool HRT.out.symm, q, rfl⟩
 ·have hb : ((n : Int) == (m : Int)) = false := by simp; omega
  have hb' : ((n : Int) != (m : Int)) = true := by simp; omega
  have HRF := Lib.hid (show R = false by rw [HR.out]; exact ups_ne (by rw [N1.out, N2.out]; exact h1))
  go_enter Tryz.func151, Tryz.ntmps151
  go_wp2
  go_ret
  exact ⟨ret_bool HRF.out.symm, 0, rfl⟩
theorem equalU_nil_nil (a a' : Option Addr) (c c' : Nat) (w : World) : Calls Tryz.prog 151 #[.slice a 0 c, .slice a' 0 c'] w fun e w' => e = .returned (.bool (decide (([] : List UpM) = []))) ∧ ∃ q, w' = w.drewN q := by
 go_enter Tryz.func151, Tryz.ntmps151
 go_wp2
 go_loop [13] (fun i => i = .int .i64 0) (fun _ => 0)
 case atStart => rfl
 case round =>
  obtain rfl := hrel
  go_wp2
  go_ret
  exact ⟨by simp, 0, rfl⟩
theorem equalU_nil_some (a : Option Addr) (c b off cap n : Nat) (xs : List UpM) (w : World) (hn : xs.length = n) (hl : n ≤ 9223372036854775807) :
  Calls Tryz.prog 151 #[.slice a 0 c, .slice (some ⟨b, off, none⟩) n cap] w fun e w' => e = .returned (.bool (decide ([] = xs))) ∧ ∃ q, w' = w.drewN q := by
 by_cases h : n = 0
 ·subst h
  obtain rfl := List.eq_nil_of_length_eq_zero hn
  clear hn
  go_enter Tryz.func151, Tryz.ntmps151
  go_wp2
  go_loop [13] (fun i => i = .int .i64 0) (fun _ => 0)
  case atStart => rfl
  case round =>
   obtain rfl := hrel
   go_wp2
   go_ret
   exact ⟨by simp, 0, rfl⟩
 ·have HN := Lib.hid hn
  clear hn
  have hb : ((0 : Int) == (n : Int)) = false := by simp; omega
  have hb' : ((0 : Int) != (n : Int)) = true := by simp; omega
  go_enter Tryz.func151, Tryz.ntmps151
  go_wp2
  go_ret
  exact ⟨ret_bool (ups_ne (us := []) (vs := xs) (by rw [HN.out]; simp; omega)).symm, 0, rfl⟩
theorem equalU_some_nil (a : Option Addr) (c b off cap n : Nat) (xs : List UpM) (w : World) (hn : xs.length = n) (hl : n ≤ 9223372036854775807) :
  Calls Tryz.prog 151 #[.slice (some ⟨b, off, none⟩) n cap, .slice a 0 c] w fun e w' => e = .returned (.bool (decide (xs = []))) ∧ ∃ q, w' = w.drewN q := by
 by_cases h : n = 0
 ·subst h
  obtain rfl := List.eq_nil_of_length_eq_zero hn
  clear hn
  go_enter Tryz.func151, Tryz.ntmps151
  go_wp2
  go_loop [13] (fun i => i = .int .i64 0) (fun _ => 0)
  case atStart => rfl
  case round =>
   obtain rfl := hrel
   go_wp2
   go_ret
   exact ⟨by simp, 0, rfl⟩
 ·have HN := Lib.hid hn
  clear hn
  have hb : ((n : Int) == 0) = false := by simp; omega
  have hb' : ((n : Int) != 0) = true := by simp; omega
  go_enter Tryz.func151, Tryz.ntmps151
  go_wp2
  go_ret
  exact ⟨ret_bool (ups_ne (us := xs) (vs := []) (by rw [HN.out]; simp; omega)).symm, 0, rfl⟩
theorem equalU_any (v v' : Value) (xs ys : List UpM) (w : World) (h : Ups w v xs) (h' : Ups w v' ys) :
  Calls Tryz.prog 151 #[v, v'] w fun e w' => e = .returned (.bool (decide (xs = ys))) ∧ ∃ q, w' = w.drewN q := by
 rcases h with ⟨a, cap, rfl, rfl⟩ | ⟨b, off, cap, rfl, h1, h2, h3, h4⟩ <;> rcases h' with ⟨a', cap', rfl, rfl⟩ | ⟨b', off', cap', rfl, h1', h2', h3', h4'⟩
 ·exact equalU_nil_nil _ _ _ _ w
 ·exact equalU_nil_some _ _ _ _ _ _ _ w rfl (by unfold maxLen at h3'; omega)
 ·exact equalU_some_nil _ _ _ _ _ _ _ w rfl (by unfold maxLen at h3; omega)
 ·exact equalU_some _ _ _ _ _ _ _ _ xs ys w rfl rfl (by unfold maxLen at h3; omega) (by unfold maxLen at h3'; omega) h4 h4'
def sameB (a b : ActM) : Bool := (a.r == b.r) && (a.n == b.n) && eqB a.dep b.dep && (a.actor == b.actor) && (a.kind == b.kind) && (a.to == b.to) && (a.bucket == b.bucket) && (a.mask == b.mask) && (a.gr == b.gr) && (a.gn == b.gn) && decide (a.ups = b.ups)
theorem sameM_eq (a b : ActM) : sameM a b = sameB a b := by
 rw [Bool.eq_iff_iff]
 obtain ⟨r, n, dep, actor, kind, dst, bucket, mask, gr, gn, ups⟩ := a
 obtain ⟨r', n', dep', actor', kind', dst', bucket', mask', gr', gn', ups'⟩ := b
 simp only [sameM, sameB, eqB, decide_eq_true_eq, ActM.mk.injEq, Bool.and_eq_true, beq_iff_eq]
 constructor
 ·rintro ⟨h0, h1, h2, h3, h4, h5, h6, h7, h8, h9, h10⟩
  exact ⟨⟨⟨⟨⟨⟨⟨⟨⟨⟨h0, h1⟩, h2⟩, h3⟩, h4⟩, h5⟩, h6⟩, h7⟩, h8⟩, h9⟩, h10⟩
 ·rintro ⟨⟨⟨⟨⟨⟨⟨⟨⟨⟨h0, h1⟩, h2⟩, h3⟩, h4⟩, h5⟩, h6⟩, h7⟩, h8⟩, h9⟩, h10⟩
  exact ⟨h0, h1, h2, h3, h4, h5, h6, h7, h8, h9, h10⟩
set_option maxHeartbeats 6400000 in
set_option maxRecDepth 100000 in
theorem implSame_any : ImplSameAct := by
 intro v v' a b w h h'
 rw [sameM_eq]
 obtain ⟨vd, vs, rfl, hd, hs⟩ := h
 obtain ⟨vd', vs', rfl, hd', hs'⟩ := h'
 obtain ⟨r', n', dep', actor', kind', dst', bucket', mask', gr', gn', ups'⟩ := b
 obtain ⟨r, n, dep, actor, kind, dst, bucket, mask, gr, gn, ups⟩ := a
 simp only [sameB]
 simp only at hd hs hd' hs'
 have bb := Lib.hid (((Below.refl w.heap.size w).alloc (Nat.le_refl _) (.cells #[.int .i64 r, .int .i64 n, vd, .int .i64 actor, .int .i64 kind, .int .i64 dst, .int .i64 bucket, .int .i64 mask, .int .i64 gr, .int .i64 gn, vs] 32)).alloc (by simp) (.cells #[.int .i64 r', .int .i64 n', vd', .int .i64 actor', .int .i64 kind', .int .i64 dst', .int .i64 bucket', .int .i64 mask', .int .i64 gr', .int .i64 gn', vs'] 32))
 have HE := Lib.hid (fun w h h' => equal_any vd vd' dep dep' w h h')
 have HU := Lib.hid (fun w h h' => equalU_any vs vs' ups ups' w h h')
 have HD := Lib.hid hd
 have HD' := Lib.hid hd'
 have HS := Lib.hid hs
 have HS' := Lib.hid hs'
 clear hd hd' hs hs'
 obtain ⟨ed, hed⟩ : ∃ ed, ed = eqB dep dep' := ⟨_, rfl⟩
 obtain ⟨eu, heu⟩ : ∃ eu, eu = decide (ups = ups') := ⟨_, rfl⟩
 rw [← hed] at HE ⊢
 rw [← heu] at HU ⊢
 clear hed heu
 cases e0 : (r == r')
 ·go_enter Tryz.func126, Tryz.ntmps126
  go_wp2_with fail
  go_ret
  exact ⟨rfl, by repeat (first | exact bb.out | refine below_drewN ?_ _)⟩
 ·cases e1 : (n == n')
  ·go_enter Tryz.func126, Tryz.ntmps126
   go_wp2_with fail
   go_ret
   exact ⟨rfl, by repeat (first | exact bb.out | refine below_drewN ?_ _)⟩
  ·cases ed
   ·go_enter Tryz.func126, Tryz.ntmps126
    go_wp2_with fail
    refine (HE.out _ (HD.out.below (B := 0) bb.out) (HD'.out.below (B := 0) bb.out)).mono ?_
    rintro e w0 ⟨rfl, q0, rfl⟩
    go_wp2_with fail
    go_ret
    exact ⟨rfl, by repeat (first | exact bb.out | refine below_drewN ?_ _)⟩
   ·cases e3 : (actor == actor')
    ·go_enter Tryz.func126, Tryz.ntmps126
     go_wp2_with fail
     refine (HE.out _ (HD.out.below (B := 0) bb.out) (HD'.out.below (B := 0) bb.out)).mono ?_
     rintro e w0 ⟨rfl, q0, rfl⟩
     go_wp2_with fail
     go_ret
     exact ⟨rfl, by repeat (first | exact bb.out | refine below_drewN ?_ _)⟩
    ·cases e4 : (kind == kind')
     ·go_enter Tryz.func126, Tryz.ntmps126
      go_wp2_with fail
      refine (HE.out _ (HD.out.below (B := 0) bb.out) (HD'.out.below (B := 0) bb.out)).mono ?_
      rintro e w0 ⟨rfl, q0, rfl⟩
      go_wp2_with fail
      go_ret
      exact ⟨rfl, by repeat (first | exact bb.out | refine below_drewN ?_ _)⟩
     ·cases e5 : (dst == dst')
      ·go_enter Tryz.func126, Tryz.ntmps126
       go_wp2_with fail
       refine (HE.out _ (HD.out.below (B := 0) bb.out) (HD'.out.below (B := 0) bb.out)).mono ?_
       rintro e w0 ⟨rfl, q0, rfl⟩
       go_wp2_with fail
       go_ret
       exact ⟨rfl, by repeat (first | exact bb.out | refine below_drewN ?_ _)⟩
      ·cases e6 : (bucket == bucket')
       ·go_enter Tryz.func126, Tryz.ntmps126
        go_wp2_with fail
        refine (HE.out _ (HD.out.below (B := 0) bb.out) (HD'.out.below (B := 0) bb.out)).mono ?_
        rintro e w0 ⟨rfl, q0, rfl⟩
        go_wp2_with fail
        go_ret
        exact ⟨rfl, by repeat (first | exact bb.out | refine below_drewN ?_ _)⟩
       ·cases e7 : (mask == mask')
        ·go_enter Tryz.func126, Tryz.ntmps126
         go_wp2_with fail
         refine (HE.out _ (HD.out.below (B := 0) bb.out) (HD'.out.below (B := 0) bb.out)).mono ?_
         rintro e w0 ⟨rfl, q0, rfl⟩
         go_wp2_with fail
         go_ret
         exact ⟨rfl, by repeat (first | exact bb.out | refine below_drewN ?_ _)⟩
        ·cases e8 : (gr == gr')
         ·go_enter Tryz.func126, Tryz.ntmps126
          go_wp2_with fail
          refine (HE.out _ (HD.out.below (B := 0) bb.out) (HD'.out.below (B := 0) bb.out)).mono ?_
          rintro e w0 ⟨rfl, q0, rfl⟩
          go_wp2_with fail
          go_ret
          exact ⟨rfl, by repeat (first | exact bb.out | refine below_drewN ?_ _)⟩
         ·cases e9 : (gn == gn')
          ·go_enter Tryz.func126, Tryz.ntmps126
           go_wp2_with fail
           refine (HE.out _ (HD.out.below (B := 0) bb.out) (HD'.out.below (B := 0) bb.out)).mono ?_
           rintro e w0 ⟨rfl, q0, rfl⟩
           go_wp2_with fail
           go_ret
           exact ⟨rfl, by repeat (first | exact bb.out | refine below_drewN ?_ _)⟩
          ·go_enter Tryz.func126, Tryz.ntmps126
           go_wp2_with fail
           refine (HE.out _ (HD.out.below (B := 0) bb.out) (HD'.out.below (B := 0) bb.out)).mono ?_
           rintro e w0 ⟨rfl, q0, rfl⟩
           go_wp2_with fail
           refine (HU.out _ (HS.out.below (below_drewN bb.out _)) (HS'.out.below (below_drewN bb.out _))).mono ?_
           rintro e w1 ⟨rfl, q1, rfl⟩
           go_wp2_with fail
           go_ret
           exact ⟨rfl, by repeat (first | exact bb.out | refine below_drewN ?_ _)⟩
end Go.Proofs.YtghgiefciijoeaaGreatDoor
