/- The program's isIn, right, fits, maskFits, upsFit. The program's upsFit, total, commonOf, actOf, knows. The program's kinds of acts: their act and fits; knows. The program's stands. The program's deedOf. The program's Ahead. -/
import Derived.Test.YtghgiefciijoeaaGreatDoorMB
import Derived.Test.YtghgiefciijoeaaGreatDoorAM
import Derived.Test.YtghgiefciijoeaaGreatDoorMH
import Derived.Deep.QuietTactic
import Derived.BigRegion
import Derived.Deep.DeepCutAuto
import Derived.StillTailTactics

namespace Go.Proofs.YtghgiefciijoeaaGreatDoor
open Go.RowKit
set_option linter.unusedVariables false
def inB (n lo hi : Int) : Bool := decide (lo ≤ n) && decide (n ≤ hi)
theorem inB_yes {n lo hi : Int} (h1 : lo ≤ n) (h2 : n ≤ hi) : inB n lo hi = true := by simp [inB, h1, h2]
theorem inB_low {n lo hi : Int} (h1 : ¬ lo ≤ n) : inB n lo hi = false := by simp [inB, h1]
theorem inB_high {n lo hi : Int} (h1 : ¬ n ≤ hi) : inB n lo hi = false := by simp [inB, h1]
theorem inB_no {n lo hi : Int} (h : ¬ (lo ≤ n ∧ n ≤ hi)) : inB n lo hi = false := by
 by_cases h1 : lo ≤ n
 ·exact inB_high fun h2 => h ⟨h1, h2⟩
 ·exact inB_low h1
theorem isIn_any (n lo hi : Int) (w : World) :
  Calls Tryz.prog 42 #[.int .i64 n, .int .i64 lo, .int .i64 hi] w fun e w' => e = .returned (.bool (inB n lo hi)) ∧ w' = w := by
 by_cases h1 : lo ≤ n
 ·by_cases h2 : n ≤ hi
  ·have e : inB n lo hi = true := inB_yes h1 h2
   rw [e]
   clear e
   go_enter Tryz.func42, Tryz.ntmps42
   go_wp2
   go_ret
   exact ⟨rfl, rfl⟩
  ·have e : inB n lo hi = false := inB_high h2
   rw [e]
   clear e
   go_enter Tryz.func42, Tryz.ntmps42
   go_wp2
   go_ret
   exact ⟨rfl, rfl⟩
 ·have e : inB n lo hi = false := inB_low h1
  rw [e]
  clear e
  go_enter Tryz.func42, Tryz.ntmps42
  go_wp2
  go_ret
  exact ⟨rfl, rfl⟩
def rightM (k : Int) : Int := if k = 1 then 2 else if k = 3 then 2 else if k = 4 then 2 else if k = 2 then 4 else 0
theorem right_any (k b y v : Int) (w : World) :
  Calls Tryz.prog 140 #[.agg #[.int .i64 k, .int .i64 b, .int .i64 y, .int .i64 v]] w fun e w' => e = .returned (.int .i64 (rightM k)) ∧ Below w.heap.size w w' := by
 by_cases h1 : k = 1
 ·subst h1
  go_enter Tryz.func140, Tryz.ntmps140
  go_wp2
  go_ret
  exact ⟨rfl, (Below.refl _ _).alloc (Nat.le_refl _) _⟩
 ·by_cases h3 : k = 3
  ·subst h3
   go_enter Tryz.func140, Tryz.ntmps140
   go_wp2
   go_ret
   exact ⟨rfl, (Below.refl _ _).alloc (Nat.le_refl _) _⟩
  ·by_cases h4 : k = 4
   ·subst h4
    go_enter Tryz.func140, Tryz.ntmps140
    go_wp2
    go_ret
    exact ⟨rfl, (Below.refl _ _).alloc (Nat.le_refl _) _⟩
   ·by_cases h2 : k = 2
    ·subst h2
     go_enter Tryz.func140, Tryz.ntmps140
     go_wp2
     go_ret
     exact ⟨rfl, (Below.refl _ _).alloc (Nat.le_refl _) _⟩
    ·have e : rightM k = 0 := by simp [rightM, h1, h2, h3, h4]
     rw [e]
     have e1 : (k == 1) = false := by simpa using h1
     have e2 : (k == 2) = false := by simpa using h2
     have e3 : (k == 3) = false := by simpa using h3
     have e4 : (k == 4) = false := by simpa using h4
     clear h1 h2 h3 h4 e
     go_enter Tryz.func140, Tryz.ntmps140
     go_wp2
     go_ret
     exact ⟨rfl, (Below.refl _ _).alloc (Nat.le_refl _) _⟩
theorem right_zero (k : Int) : (rightM k != 0) = (decide (1 ≤ k) && decide (k ≤ 4)) := by
 unfold rightM
 by_cases h1 : k = 1
 ·subst h1; rfl
 ·by_cases h3 : k = 3
  ·subst h3; rfl
  ·by_cases h4 : k = 4
   ·subst h4; rfl
   ·by_cases h2 : k = 2
    ·subst h2; rfl
    ·simp only [h1, h2, h3, h4, if_false]
     have : ¬ (1 ≤ k ∧ k ≤ 4) := by omega
     simp only [bne_self_eq_false]
     by_cases g : 1 ≤ k
     ·have g2 : ¬ k ≤ 4 := fun g2 => this ⟨g, g2⟩
      simp [g2]
     ·simp [g]
theorem okUp_eq (u : UpM) : okUp u = ((rightM u.kind != 0) && inB u.bucket 0 2 && inB u.key 0 3) := by
 rw [right_zero]
 have e1 : decide (u.bucket < 3) = decide (u.bucket ≤ 2) := decide_eq_decide.2 (by omega)
 have e2 : decide (u.key < 4) = decide (u.key ≤ 3) := decide_eq_decide.2 (by omega)
 simp only [okUp, inB, e1, e2, Bool.and_assoc]
set_option maxHeartbeats 400000 in
theorem upFits_any (k b y v : Int) (w : World) :
  Calls Tryz.prog 204 #[.agg #[.int .i64 k, .int .i64 b, .int .i64 y, .int .i64 v]] w fun e w' => e = .returned (.bool (okUp ⟨k, b, y, v⟩)) ∧ Below w.heap.size w w' := by
 rw [okUp_eq]
 have HR := Lib.hid (fun w => right_any k b y v w)
 generalize rightM k = r at *
 have B0 := Lib.hid ((Below.refl w.heap.size w).alloc (Nat.le_refl _) (.cells #[.int .i64 k, .int .i64 b, .int .i64 y, .int .i64 v] 116))
 have k0 := Blk.new w #[.int .i64 k, .int .i64 b, .int .i64 y, .int .i64 v] 116
 cases h1 : (r != 0)
 ·go_enter Tryz.func204, Tryz.ntmps204
  go_wp2_with fail
  refine (HR.out _).mono ?_
  rintro e w1 ⟨rfl, b1⟩
  have B1 := Lib.hid (B0.out.trans (b1.mono B0.out.size))
  go_wp2_with fail
  go_ret
  exact ⟨rfl, B1.out⟩
 ·cases h2 : inB b 0 2
  ·go_enter Tryz.func204, Tryz.ntmps204
   go_wp2_with fail
   refine (HR.out _).mono ?_
   rintro e w1 ⟨rfl, b1⟩
   have B1 := Lib.hid (B0.out.trans (b1.mono B0.out.size))
   have c1 := (k0.below b1 k0.lt).cell
   clear b1 k0
   go_wp2_with fail
   refine (isIn_any _ _ _ _).mono ?_
   rintro e w2 ⟨rfl, rfl⟩
   go_wp2_with fail
   go_ret
   exact ⟨rfl, B1.out⟩
  ·go_enter Tryz.func204, Tryz.ntmps204
   go_wp2_with fail
   refine (HR.out _).mono ?_
   rintro e w1 ⟨rfl, b1⟩
   have B1 := Lib.hid (B0.out.trans (b1.mono B0.out.size))
   have c1 := (k0.below b1 k0.lt).cell
   clear b1 k0
   go_wp2_with fail
   refine (isIn_any _ _ _ _).mono ?_
   rintro e w2 ⟨rfl, rfl⟩
   go_wp2_with fail
   refine (isIn_any _ _ _ _).mono ?_
   rintro e w2 ⟨rfl, rfl⟩
   go_wp2_with fail
   go_ret
   exact ⟨rfl, B1.out⟩
theorem maskFits_any (b m : Int) (w : World) :
  Calls Tryz.prog 215 #[.int .i64 b, .int .i64 m] w fun e w' => e = .returned (.bool (inB b 0 2 && inB m 0 15)) ∧ w' = w := by
 cases h1 : inB b 0 2
 ·go_enter Tryz.func215, Tryz.ntmps215
  go_wp2_with fail
  refine (isIn_any _ _ _ _).mono ?_
  rintro e w2 ⟨rfl, rfl⟩
  go_wp2_with fail
  go_ret
  exact ⟨rfl, rfl⟩
 ·go_enter Tryz.func215, Tryz.ntmps215
  go_wp2_with fail
  refine (isIn_any _ _ _ _).mono ?_
  rintro e w2 ⟨rfl, rfl⟩
  go_wp2_with fail
  refine (isIn_any _ _ _ _).mono ?_
  rintro e w2 ⟨rfl, rfl⟩
  go_wp2_with fail
  go_ret
  exact ⟨rfl, rfl⟩
end Go.Proofs.YtghgiefciijoeaaGreatDoor
namespace Go.Proofs.YtghgiefciijoeaaGreatDoor
open Go.RowKit
set_option linter.unusedVariables false
set_option maxHeartbeats 1600000 in
theorem upsFit_some (b off cap len : Nat) (ups : List UpM) (w : World) (h1 : ups.length = len) (hl : len ≤ 9223372036854775807) (hb : b < w.heap.size)
  (hc : ∀ i, i < len → UpAt w b (off + i * 4) (ups.getD i up0)) :
  Calls Tryz.prog 222 #[.slice (some ⟨b, off, none⟩) len cap] w fun e w' => e = .returned (.bool (okUps ups)) ∧ Below w.heap.size w w' := by
 have N1 := Lib.hid h1
 have HC := Lib.hid hc
 obtain ⟨R, hR⟩ : ∃ R, R = okUps ups := ⟨_, rfl⟩
 rw [← hR]
 have HR := Lib.hid hR
 clear h1 hc hR
 go_enter Tryz.func222, Tryz.ntmps222
 go_wp2
 go_loopw [7] (fun i wr => ∃ k : Nat, k ≤ len ∧ i = .int .i64 k ∧ Hid ((ups.take k).all okUp = true) ∧ Hid (Below w.heap.size w wr)) (fun i _ => len - (intOf i).toNat)
 case atStart => exact ⟨0, Nat.zero_le _, rfl, by simp [Hid], Below.refl _ _⟩
 case round =>
  obtain ⟨k, hk, rfl, hg, hbel⟩ := hrel
  by_cases hlt : k < len
  ·obtain ⟨q0, q1, q2, q3⟩ := HC.out k hlt
   have c0 := (hbel.out.cell (p := ⟨b, off + k * 4, none⟩) hb).trans q0
   have c1 := (hbel.out.cell (p := ⟨b, off + k * 4 + 1, none⟩) hb).trans q1
   have c2 := (hbel.out.cell (p := ⟨b, off + k * 4 + 2, none⟩) hb).trans q2
   have c3 := (hbel.out.cell (p := ⟨b, off + k * 4 + 3, none⟩) hb).trans q3
   clear q0 q1 q2 q3
   obtain ⟨u, hu⟩ : ∃ u, ups.getD k up0 = u := ⟨_, rfl⟩
   rw [hu] at c0 c1 c2 c3
   have HU := Lib.hid hu
   clear hu
   have hlw : wr.heap.size < wr.heap.size + 1 := by omega
   cases hok : okUp u
   ·have HRF := Lib.hid (show R = false by rw [HR.out]; exact okUps_bad ups k (by rw [N1.out]; exact hlt) (by rw [HU.out]; exact hok))
    obtain ⟨u0, u1, u2, u3⟩ := u
    simp only at c0 c1 c2 c3
    have HOK := Lib.hid hok
    clear hok
    have BA := Lib.hid (hbel.out.alloc hbel.out.size (.cells #[.int .i64 u0, .int .i64 u1, .int .i64 u2, .int .i64 u3] 116))
    go_wp2_with fail
    refine (upFits_any _ _ _ _ _).mono ?_
    rintro e w1 ⟨rfl, b1⟩
    rw [HOK.out]
    have B1 := Lib.hid (BA.out.trans (b1.mono BA.out.size))
    clear b1
    go_wp2_with fail
    go_ret
    exact ⟨ret_bool HRF.out.symm, B1.out⟩
   ·have hs := Lib.hid (okUps_step ups k (by rw [N1.out]; exact hlt) hg.out (by rw [HU.out]; exact hok))
    obtain ⟨u0, u1, u2, u3⟩ := u
    simp only at c0 c1 c2 c3
    have HOK := Lib.hid hok
    clear hok
    have BA := Lib.hid (hbel.out.alloc hbel.out.size (.cells #[.int .i64 u0, .int .i64 u1, .int .i64 u2, .int .i64 u3] 116))
    go_wp2_with fail
    refine (upFits_any _ _ _ _ _).mono ?_
    rintro e w1 ⟨rfl, b1⟩
    rw [HOK.out]
    have B1 := Lib.hid (BA.out.trans (b1.mono BA.out.size))
    clear b1
    go_wp2_with fail
    go_roundw
    case rel => exact ⟨k + 1, by omega, by go_num, hs.out, B1.out⟩
    case measure => simp [intOf]; omega
  ·have hall := Lib.hid (show ups.all okUp = true by
    have := hg.out
    rwa [List.take_of_length_le (by rw [N1.out]; omega)] at this)
   by_cases h5 : len ≤ 5
   ·have HRT := Lib.hid (show R = true by
     rw [HR.out]
     simp only [okUps, hall.out, Bool.and_true, decide_eq_true_eq, N1.out]
     exact h5)
    go_wp2
    go_ret
    exact ⟨ret_bool (by rw [HRT.out]; simp; omega), hbel.out⟩
   ·have HRF := Lib.hid (show R = false by
     rw [HR.out]
     simp only [okUps, Bool.and_eq_false_iff, decide_eq_false_iff_not, N1.out]
     exact .inl h5)
    go_wp2
    go_ret
    exact ⟨ret_bool (by rw [HRF.out]; simp; omega), hbel.out⟩
theorem upsFit_nil (a : Option Addr) (cap : Nat) (w : World) :
  Calls Tryz.prog 222 #[.slice a 0 cap] w fun e w' => e = .returned (.bool (okUps [])) ∧ Below w.heap.size w w' := by
 go_enter Tryz.func222, Tryz.ntmps222
 go_wp2
 go_loop [7] (fun i => i = .int .i64 0) (fun _ => 0)
 case atStart => rfl
 case round =>
  obtain rfl := hrel
  go_wp2
  go_ret
  exact ⟨rfl, Below.refl _ _⟩
theorem upsFit_any (v : Value) (ups : List UpM) (w : World) (h : Ups w v ups) :
  Calls Tryz.prog 222 #[v] w fun e w' => e = .returned (.bool (okUps ups)) ∧ Below w.heap.size w w' := by
 have hm := ups_max h
 rcases h with ⟨a, cap, rfl, rfl⟩ | ⟨b, off, cap, rfl, h1, h2, h3, h4⟩
 ·exact upsFit_nil _ _ w
 ·exact upsFit_some b off cap _ ups w rfl hm h1 h4
set_option maxHeartbeats 400000 in
theorem total_some (b off cap n : Nat) (xs : List Int) (w : World) (hn : xs.length = n) (hl : n ≤ 9223372036854775807)
  (hc : ∀ i, i < n → w.cell? ⟨b, off + i, none⟩ = some (.int .i64 (xs.getD i 0))) :
  Calls Tryz.prog 129 #[.slice (some ⟨b, off, none⟩) n cap] w fun e w' => e = .returned (.int .i64 (sumW xs)) ∧ w' = w := by
 have HN := Lib.hid hn
 have HC := Lib.hid hc
 clear hn hc
 go_enter Tryz.func129, Tryz.ntmps129
 go_wp2
 go_loop [3, 8] (fun t i => ∃ (k : Nat) (s : Int), k ≤ n ∧ i = .int .i64 k ∧ t = .int .i64 s ∧ Hid (s = sumW (xs.take k))) (fun _ i => n - (intOf i).toNat)
 case atStart => exact ⟨0, 0, Nat.zero_le _, rfl, rfl, by simp [Hid, sumW]⟩
 case round =>
  obtain ⟨k, s, hk, rfl, rfl, hs⟩ := hrel
  by_cases hlt : k < n
  ·have hc1 := HC.out k hlt
   have hst := sumW_step xs k (by rw [HN.out]; exact hlt)
   generalize xs.getD k 0 = x at *
   have HS := Lib.hid hst
   clear hst
   go_wp2
   go_round
   case rel => exact ⟨k + 1, _, by omega, by go_num, rfl, by show _ = _; rw [HS.out, hs.out]⟩
   case measure => simp [intOf]; omega
  ·have : k = n := by omega
   subst this
   go_wp2
   go_ret
   exact ⟨ret_int (by rw [hs.out, List.take_of_length_le (by rw [HN.out]; omega)]), rfl⟩
theorem total_nil (a : Option Addr) (cap : Nat) (w : World) :
  Calls Tryz.prog 129 #[.slice a 0 cap] w fun e w' => e = .returned (.int .i64 (sumW [])) ∧ w' = w := by
 go_enter Tryz.func129, Tryz.ntmps129
 go_wp2
 go_loop [3, 8] (fun t i => t = .int .i64 0 ∧ i = .int .i64 0) (fun _ _ => 0)
 case atStart => exact ⟨rfl, rfl⟩
 case round =>
  obtain ⟨rfl, rfl⟩ := hrel
  go_wp2
  go_ret
  exact ⟨rfl, rfl⟩
theorem total_any (v : Value) (xs : List Int) (w : World) (h : Ints w v xs) :
  Calls Tryz.prog 129 #[v] w fun e w' => e = .returned (.int .i64 (sumW xs)) ∧ w' = w := by
 rcases h with ⟨a, cap, rfl, rfl⟩ | ⟨b, off, cap, rfl, h1, h2, h3, h4⟩
 ·exact total_nil _ _ w
 ·exact total_some b off cap _ xs w rfl (by unfold maxLen at h3; omega) h4
def actV (r n : Int) (vd : Value) (actor kind dst bucket mask gr gn : Int) (vs : Value) : Value := .agg #[.int .i64 r, .int .i64 n, vd, .int .i64 actor, .int .i64 kind, .int .i64 dst, .int .i64 bucket, .int .i64 mask, .int .i64 gr, .int .i64 gn, vs]
set_option maxHeartbeats 400000 in
theorem commonOf_any (r n actor kind dst bucket mask gr gn : Int) (a c : Nat) (x : Option Addr) (vs : Value) (w : World) :
  Calls Tryz.prog 121 #[.agg #[.int .i64 r, .int .i64 n, .slice x a c, .int .i64 actor, .int .i64 kind, .int .i64 dst, .int .i64 bucket, .int .i64 mask, .int .i64 gr, .int .i64 gn, vs]] w fun e w' =>
   e = .returned (.agg #[.int .i64 r, .int .i64 n, .slice x a c, .int .i64 actor]) ∧ Below w.heap.size w w' := by
 go_enter Tryz.func121, Tryz.ntmps121
 go_wp2
 refine bodyPost_ret (v := .agg #[.int .i64 r, .int .i64 n, .slice x a c, .int .i64 actor]) (by simp [results, Tryz.results121, go_sem]) rfl ⟨rfl, ?_⟩
 exact ((Below.refl _ _).alloc (Nat.le_refl _) _).alloc (by simp) _
set_option maxHeartbeats 400000 in
theorem actOf_any (r n actor kind : Int) (a c : Nat) (x : Option Addr) (w : World) :
  Calls Tryz.prog 214 #[.agg #[.int .i64 r, .int .i64 n, .slice x a c, .int .i64 actor], .int .i64 kind] w fun e w' =>
   e = .returned (.agg #[.int .i64 r, .int .i64 n, .slice x a c, .int .i64 actor, .int .i64 kind, .int .i64 0, .int .i64 0, .int .i64 0, .int .i64 0, .int .i64 0, .slice none 0 0]) ∧ Below w.heap.size w w' := by
 go_enter Tryz.func214, Tryz.ntmps214
 go_wp2
 refine bodyPost_ret (v := .agg #[.int .i64 r, .int .i64 n, .slice x a c, .int .i64 actor, .int .i64 kind, .int .i64 0, .int .i64 0, .int .i64 0, .int .i64 0, .int .i64 0, .slice none 0 0]) (by simp [results, Tryz.results214, go_sem]) rfl ⟨rfl, ?_⟩
 exact ((Below.refl _ _).alloc (Nat.le_refl _) _).alloc (by simp) _
end Go.Proofs.YtghgiefciijoeaaGreatDoor
namespace Go.Proofs.YtghgiefciijoeaaGreatDoor
open Go.RowKit
set_option linter.unusedVariables false
set_option maxHeartbeats 1600000 in
theorem knows_any (r n actor p q : Int) (vd : Value) (dep : List Int) (w : World) (hd : Ints w vd dep) :
  Calls Tryz.prog 122 #[.agg #[.int .i64 r, .int .i64 n, vd, .int .i64 actor], .int .i64 p, .int .i64 q] w fun e w' =>
   e = .returned (.bool (inB p 0 ((dep.length : Int) - 1) && inB q 1 (dep.getD p.toNat 0))) ∧ Below w.heap.size w w' := by
 have hm := ints_max hd
 obtain ⟨a0, c0, hvd⟩ := ints_len hd
 have bb := Lib.hid ((Below.refl w.heap.size w).alloc (Nat.le_refl _) (.cells #[.int .i64 r, .int .i64 n, vd, .int .i64 actor] 150))
 cases h1 : inB p 0 ((dep.length : Int) - 1)
 ·subst hvd
  clear hd
  generalize dep.length = len at *
  generalize dep.getD p.toNat 0 = x at *
  have e1 : IntKind.i64.wrap ((len : Int) - 1) = (len : Int) - 1 := IntWalk.i64_in _ (by omega)
  go_enter Tryz.func122, Tryz.ntmps122
  go_wp2_with fail
  refine (isIn_any _ _ _ _).mono ?_
  rintro e w2 ⟨rfl, rfl⟩
  go_wp2_with fail
  go_ret
  exact ⟨rfl, bb.out⟩
 ·have hp : 0 ≤ p ∧ p < dep.length := by
   simp only [inB, Bool.and_eq_true, decide_eq_true_eq] at h1; omega
  obtain ⟨k, rfl⟩ := Int.eq_ofNat_of_zero_le hp.1
  have hk : k < dep.length := by omega
  clear hp hvd a0 c0
  rcases hd with ⟨x, c, rfl, rfl⟩ | ⟨b, off, c, rfl, hb, hl, hm', hc⟩
  ·simp at hk
  ·have hck := hc k hk
   clear hc
   simp only [Int.toNat_natCast]
   generalize dep.length = len at *
   generalize dep.getD k 0 = x at *
   go_enter Tryz.func122, Tryz.ntmps122
   go_wp2_with fail
   refine (isIn_any _ _ _ _).mono ?_
   rintro e w2 ⟨rfl, rfl⟩
   go_wp2_with fail
   refine (isIn_any _ _ _ _).mono ?_
   rintro e w2 ⟨rfl, rfl⟩
   go_wp2_with fail
   go_ret
   exact ⟨rfl, bb.out⟩
set_option maxHeartbeats 800000 in
theorem grantFits_any (r n actor dst bucket mask : Int) (vd : Value) (w : World) :
  Calls Tryz.prog 213 #[.agg #[.int .i64 r, .int .i64 n, vd, .int .i64 actor, .int .i64 dst, .int .i64 bucket, .int .i64 mask]] w fun e w' => e = .returned (.bool (inB dst 0 5 && (inB bucket 0 2 && inB mask 0 15))) ∧ Below w.heap.size w w' := by
 have bb := Lib.hid ((Below.refl w.heap.size w).alloc (Nat.le_refl _) (.cells #[.int .i64 r, .int .i64 n, vd, .int .i64 actor, .int .i64 dst, .int .i64 bucket, .int .i64 mask] 188))
 cases h1 : inB dst 0 5
 ·go_enter Tryz.func213, Tryz.ntmps213
  go_wp2_with fail
  refine (isIn_any _ _ _ _).mono ?_
  rintro e w2 ⟨rfl, rfl⟩
  go_wp2_with fail
  go_ret
  exact ⟨rfl, bb.out⟩
 ·go_enter Tryz.func213, Tryz.ntmps213
  go_wp2_with fail
  refine (isIn_any _ _ _ _).mono ?_
  rintro e w2 ⟨rfl, rfl⟩
  go_wp2_with fail
  refine (maskFits_any _ _ _).mono ?_
  rintro e w2 ⟨rfl, rfl⟩
  go_wp2_with fail
  go_ret
  exact ⟨rfl, bb.out⟩
set_option maxHeartbeats 800000 in
theorem ceilingFits_any (r n actor bucket mask : Int) (vd : Value) (w : World) :
  Calls Tryz.prog 219 #[.agg #[.int .i64 r, .int .i64 n, vd, .int .i64 actor, .int .i64 bucket, .int .i64 mask]] w fun e w' => e = .returned (.bool (inB bucket 0 2 && inB mask 0 15)) ∧ Below w.heap.size w w' := by
 have bb := Lib.hid ((Below.refl w.heap.size w).alloc (Nat.le_refl _) (.cells #[.int .i64 r, .int .i64 n, vd, .int .i64 actor, .int .i64 bucket, .int .i64 mask] 192))
 ·go_enter Tryz.func219, Tryz.ntmps219
  go_wp2_with fail
  refine (maskFits_any _ _ _).mono ?_
  rintro e w2 ⟨rfl, rfl⟩
  go_wp2_with fail
  go_ret
  exact ⟨rfl, bb.out⟩
set_option maxHeartbeats 800000 in
theorem revokeFits_any (r n actor gr gn : Int) (vd : Value) (dep : List Int) (w : World) (hd : Ints w vd dep) :
  Calls Tryz.prog 217 #[.agg #[.int .i64 r, .int .i64 n, vd, .int .i64 actor, .int .i64 gr, .int .i64 gn]] w fun e w' => e = .returned (.bool (inB gr 0 ((dep.length : Int) - 1) && inB gn 1 (dep.getD gr.toNat 0))) ∧ Below w.heap.size w w' := by
 have bb := Lib.hid ((Below.refl w.heap.size w).alloc (Nat.le_refl _) (.cells #[.int .i64 r, .int .i64 n, vd, .int .i64 actor, .int .i64 gr, .int .i64 gn] 190))
 have HD := Lib.hid hd
 obtain ⟨a0, c0, hvd⟩ := ints_len hd
 clear hd
 subst hvd
 go_enter Tryz.func217, Tryz.ntmps217
 go_wp2_with fail
 refine (knows_any r n actor gr gn _ dep _ (HD.out.below (B := 0) bb.out)).mono ?_
 rintro e w2 ⟨rfl, b2⟩
 have B2 := Lib.hid (bb.out.trans (b2.mono bb.out.size))
 clear b2
 go_wp2_with fail
 go_ret
 exact ⟨rfl, B2.out⟩
set_option maxHeartbeats 800000 in
theorem transFits_any (r n actor : Int) (vd vs : Value) (ups : List UpM) (w : World) (hs : Ups w vs ups) :
  Calls Tryz.prog 221 #[.agg #[.int .i64 r, .int .i64 n, vd, .int .i64 actor, vs]] w fun e w' => e = .returned (.bool (okUps ups)) ∧ Below w.heap.size w w' := by
 have bb := Lib.hid ((Below.refl w.heap.size w).alloc (Nat.le_refl _) (.cells #[.int .i64 r, .int .i64 n, vd, .int .i64 actor, vs] 194))
 have HS := Lib.hid hs
 clear hs
 go_enter Tryz.func221, Tryz.ntmps221
 go_wp2_with fail
 refine (upsFit_any _ ups _ (HS.out.below bb.out)).mono ?_
 rintro e w2 ⟨rfl, b2⟩
 have B2 := Lib.hid (bb.out.trans (b2.mono bb.out.size))
 clear b2
 go_wp2_with fail
 go_ret
 exact ⟨rfl, B2.out⟩
set_option maxHeartbeats 1600000 in
theorem ceilingAct_any (r n actor bucket mask : Int) (a c : Nat) (x : Option Addr) (w : World) :
  Calls Tryz.prog 218 #[.agg #[.int .i64 r, .int .i64 n, .slice x a c, .int .i64 actor, .int .i64 bucket, .int .i64 mask]] w fun e w' => e = .returned (.agg #[.int .i64 r, .int .i64 n, .slice x a c, .int .i64 actor, .int .i64 3, .int .i64 0, .int .i64 bucket, .int .i64 mask, .int .i64 0, .int .i64 0, .slice none 0 0]) ∧ Below w.heap.size w w' := by
 have bb := Lib.hid (((Below.refl w.heap.size w).alloc (Nat.le_refl _) (.cells #[.int .i64 r, .int .i64 n, .slice x a c, .int .i64 actor, .int .i64 bucket, .int .i64 mask] 192)).alloc (by simp) (.cells #[.int .i64 0, .int .i64 0, .slice none 0 0, .int .i64 0, .int .i64 0, .int .i64 0, .int .i64 0, .int .i64 0, .int .i64 0, .int .i64 0, .slice none 0 0] 32))
 have k0 := ((Blk.new w #[.int .i64 r, .int .i64 n, .slice x a c, .int .i64 actor, .int .i64 bucket, .int .i64 mask] 192).alloc (.cells #[.int .i64 0, .int .i64 0, .slice none 0 0, .int .i64 0, .int .i64 0, .int .i64 0, .int .i64 0, .int .i64 0, .int .i64 0, .int .i64 0, .slice none 0 0] 32))
 have k1 := Blk.new (w.alloc (.cells #[.int .i64 r, .int .i64 n, .slice x a c, .int .i64 actor, .int .i64 bucket, .int .i64 mask] 192)) #[.int .i64 0, .int .i64 0, .slice none 0 0, .int .i64 0, .int .i64 0, .int .i64 0, .int .i64 0, .int .i64 0, .int .i64 0, .int .i64 0, .slice none 0 0] 32
 simp only [World.size_alloc] at k1
 have K0 := Lib.hid k0
 have K1 := Lib.hid k1
 clear k0 k1
 go_enter Tryz.func218, Tryz.ntmps218
 go_wp2_with fail
 refine (actOf_any r n actor 3 a c x _).mono ?_
 rintro e w2 ⟨rfl, b2⟩
 have B2 := Lib.hid (bb.out.trans (b2.mono bb.out.size))
 have k2 := Lib.hid (Blk.new w2 #[.int .i64 r, .int .i64 n, .slice x a c, .int .i64 actor, .int .i64 3, .int .i64 0, .int .i64 0, .int .i64 0, .int .i64 0, .int .i64 0, .slice none 0 0] 32)
 have B3 := Lib.hid (B2.out.alloc B2.out.size (.cells #[.int .i64 r, .int .i64 n, .slice x a c, .int .i64 actor, .int .i64 3, .int .i64 0, .int .i64 0, .int .i64 0, .int .i64 0, .int .i64 0, .slice none 0 0] 32))
 have k0 := Lib.hid ((K0.out.below b2 K0.out.lt).alloc (.cells #[.int .i64 r, .int .i64 n, .slice x a c, .int .i64 actor, .int .i64 3, .int .i64 0, .int .i64 0, .int .i64 0, .int .i64 0, .int .i64 0, .slice none 0 0] 32))
 have k1 := Lib.hid ((K1.out.below b2 K1.out.lt).alloc (.cells #[.int .i64 r, .int .i64 n, .slice x a c, .int .i64 actor, .int .i64 3, .int .i64 0, .int .i64 0, .int .i64 0, .int .i64 0, .int .i64 0, .slice none 0 0] 32))
 have l1 := (K1.out.below b2 K1.out.lt).lt
 clear b2 K0 K1
 go_wp2_with fail
 obtain ⟨W3, hW3⟩ : ∃ W3, W3 = (w2.alloc (.cells #[.int .i64 r, .int .i64 n, .slice x a c, .int .i64 actor, .int .i64 3, .int .i64 0, .int .i64 0, .int .i64 0, .int .i64 0, .int .i64 0, .slice none 0 0] 32)) := ⟨_, rfl⟩
 rw [← hW3] at k0 k1 k2 B3 ⊢
 clear hW3
 have a0 : W3.cell? ⟨w.heap.size, 4, none⟩ = some (.int .i64 bucket) := k0.out.cell 4
 have d0 : W3.cell? ⟨w2.heap.size, 6, none⟩ = some (.int .i64 0) := k2.out.cell 6
 have f0 : W3.frozen? ⟨w2.heap.size, 6, none⟩ = false := k2.out.free 6
 have a1 : W3.cell? ⟨w.heap.size, 5, none⟩ = some (.int .i64 mask) := k0.out.cell 5
 have d1 : W3.cell? ⟨w2.heap.size, 7, none⟩ = some (.int .i64 0) := k2.out.cell 7
 have f1 : W3.frozen? ⟨w2.heap.size, 7, none⟩ = false := k2.out.free 7
 go_region
 all_goals
  have c2 := k2.out.cell
  have f2 := k2.out.free
  have c1 := k1.out.cell
  have f1 := k1.out.free
  go_wp2
  refine bodyPost_ret (v := .agg #[.int .i64 r, .int .i64 n, .slice x a c, .int .i64 actor, .int .i64 3, .int .i64 0, .int .i64 bucket, .int .i64 mask, .int .i64 0, .int .i64 0, .slice none 0 0]) (by simp [results, Tryz.results218, go_sem, c1]) rfl ⟨rfl, ?_⟩
  repeat (first | with_reducible refine Below.setCell ?_ ?_ _ | with_reducible refine Below.drew ?_)
  all_goals (first | exact B3.out | (simp; done) | (simp; omega))
set_option maxHeartbeats 1600000 in
theorem grantAct_any (r n actor dst bucket mask : Int) (a c : Nat) (x : Option Addr) (w : World) :
  Calls Tryz.prog 212 #[.agg #[.int .i64 r, .int .i64 n, .slice x a c, .int .i64 actor, .int .i64 dst, .int .i64 bucket, .int .i64 mask]] w fun e w' => e = .returned (.agg #[.int .i64 r, .int .i64 n, .slice x a c, .int .i64 actor, .int .i64 1, .int .i64 dst, .int .i64 bucket, .int .i64 mask, .int .i64 0, .int .i64 0, .slice none 0 0]) ∧ Below w.heap.size w w' := by
 have bb := Lib.hid (((Below.refl w.heap.size w).alloc (Nat.le_refl _) (.cells #[.int .i64 r, .int .i64 n, .slice x a c, .int .i64 actor, .int .i64 dst, .int .i64 bucket, .int .i64 mask] 188)).alloc (by simp) (.cells #[.int .i64 0, .int .i64 0, .slice none 0 0, .int .i64 0, .int .i64 0, .int .i64 0, .int .i64 0, .int .i64 0, .int .i64 0, .int .i64 0, .slice none 0 0] 32))
 have k0 := ((Blk.new w #[.int .i64 r, .int .i64 n, .slice x a c, .int .i64 actor, .int .i64 dst, .int .i64 bucket, .int .i64 mask] 188).alloc (.cells #[.int .i64 0, .int .i64 0, .slice none 0 0, .int .i64 0, .int .i64 0, .int .i64 0, .int .i64 0, .int .i64 0, .int .i64 0, .int .i64 0, .slice none 0 0] 32))
 have k1 := Blk.new (w.alloc (.cells #[.int .i64 r, .int .i64 n, .slice x a c, .int .i64 actor, .int .i64 dst, .int .i64 bucket, .int .i64 mask] 188)) #[.int .i64 0, .int .i64 0, .slice none 0 0, .int .i64 0, .int .i64 0, .int .i64 0, .int .i64 0, .int .i64 0, .int .i64 0, .int .i64 0, .slice none 0 0] 32
 simp only [World.size_alloc] at k1
 have K0 := Lib.hid k0
 have K1 := Lib.hid k1
 clear k0 k1
 go_enter Tryz.func212, Tryz.ntmps212
 go_wp2_with fail
 refine (actOf_any r n actor 1 a c x _).mono ?_
 rintro e w2 ⟨rfl, b2⟩
 have B2 := Lib.hid (bb.out.trans (b2.mono bb.out.size))
 have k2 := Lib.hid (Blk.new w2 #[.int .i64 r, .int .i64 n, .slice x a c, .int .i64 actor, .int .i64 1, .int .i64 0, .int .i64 0, .int .i64 0, .int .i64 0, .int .i64 0, .slice none 0 0] 32)
 have B3 := Lib.hid (B2.out.alloc B2.out.size (.cells #[.int .i64 r, .int .i64 n, .slice x a c, .int .i64 actor, .int .i64 1, .int .i64 0, .int .i64 0, .int .i64 0, .int .i64 0, .int .i64 0, .slice none 0 0] 32))
 have k0 := Lib.hid ((K0.out.below b2 K0.out.lt).alloc (.cells #[.int .i64 r, .int .i64 n, .slice x a c, .int .i64 actor, .int .i64 1, .int .i64 0, .int .i64 0, .int .i64 0, .int .i64 0, .int .i64 0, .slice none 0 0] 32))
 have k1 := Lib.hid ((K1.out.below b2 K1.out.lt).alloc (.cells #[.int .i64 r, .int .i64 n, .slice x a c, .int .i64 actor, .int .i64 1, .int .i64 0, .int .i64 0, .int .i64 0, .int .i64 0, .int .i64 0, .slice none 0 0] 32))
 have l1 := (K1.out.below b2 K1.out.lt).lt
 clear b2 K0 K1
 go_wp2_with fail
 obtain ⟨W3, hW3⟩ : ∃ W3, W3 = (w2.alloc (.cells #[.int .i64 r, .int .i64 n, .slice x a c, .int .i64 actor, .int .i64 1, .int .i64 0, .int .i64 0, .int .i64 0, .int .i64 0, .int .i64 0, .slice none 0 0] 32)) := ⟨_, rfl⟩
 rw [← hW3] at k0 k1 k2 B3 ⊢
 clear hW3
 have a0 : W3.cell? ⟨w.heap.size, 4, none⟩ = some (.int .i64 dst) := k0.out.cell 4
 have d0 : W3.cell? ⟨w2.heap.size, 5, none⟩ = some (.int .i64 0) := k2.out.cell 5
 have f0 : W3.frozen? ⟨w2.heap.size, 5, none⟩ = false := k2.out.free 5
 have a1 : W3.cell? ⟨w.heap.size, 5, none⟩ = some (.int .i64 bucket) := k0.out.cell 5
 have d1 : W3.cell? ⟨w2.heap.size, 6, none⟩ = some (.int .i64 0) := k2.out.cell 6
 have f1 : W3.frozen? ⟨w2.heap.size, 6, none⟩ = false := k2.out.free 6
 have a2 : W3.cell? ⟨w.heap.size, 6, none⟩ = some (.int .i64 mask) := k0.out.cell 6
 have d2 : W3.cell? ⟨w2.heap.size, 7, none⟩ = some (.int .i64 0) := k2.out.cell 7
 have f2 : W3.frozen? ⟨w2.heap.size, 7, none⟩ = false := k2.out.free 7
 go_region
 all_goals
  have c2 := k2.out.cell
  have f2 := k2.out.free
  have c1 := k1.out.cell
  have f1 := k1.out.free
  go_wp2
  refine bodyPost_ret (v := .agg #[.int .i64 r, .int .i64 n, .slice x a c, .int .i64 actor, .int .i64 1, .int .i64 dst, .int .i64 bucket, .int .i64 mask, .int .i64 0, .int .i64 0, .slice none 0 0]) (by simp [results, Tryz.results212, go_sem, c1]) rfl ⟨rfl, ?_⟩
  repeat (first | with_reducible refine Below.setCell ?_ ?_ _ | with_reducible refine Below.drew ?_)
  all_goals (first | exact B3.out | (simp; done) | (simp; omega))
set_option maxHeartbeats 1600000 in
theorem revokeAct_any (r n actor gr gn : Int) (a c : Nat) (x : Option Addr) (w : World) :
  Calls Tryz.prog 216 #[.agg #[.int .i64 r, .int .i64 n, .slice x a c, .int .i64 actor, .int .i64 gr, .int .i64 gn]] w fun e w' => e = .returned (.agg #[.int .i64 r, .int .i64 n, .slice x a c, .int .i64 actor, .int .i64 2, .int .i64 0, .int .i64 0, .int .i64 0, .int .i64 gr, .int .i64 gn, .slice none 0 0]) ∧ Below w.heap.size w w' := by
 have bb := Lib.hid (((Below.refl w.heap.size w).alloc (Nat.le_refl _) (.cells #[.int .i64 r, .int .i64 n, .slice x a c, .int .i64 actor, .int .i64 gr, .int .i64 gn] 190)).alloc (by simp) (.cells #[.int .i64 0, .int .i64 0, .slice none 0 0, .int .i64 0, .int .i64 0, .int .i64 0, .int .i64 0, .int .i64 0, .int .i64 0, .int .i64 0, .slice none 0 0] 32))
 have k0 := ((Blk.new w #[.int .i64 r, .int .i64 n, .slice x a c, .int .i64 actor, .int .i64 gr, .int .i64 gn] 190).alloc (.cells #[.int .i64 0, .int .i64 0, .slice none 0 0, .int .i64 0, .int .i64 0, .int .i64 0, .int .i64 0, .int .i64 0, .int .i64 0, .int .i64 0, .slice none 0 0] 32))
 have k1 := Blk.new (w.alloc (.cells #[.int .i64 r, .int .i64 n, .slice x a c, .int .i64 actor, .int .i64 gr, .int .i64 gn] 190)) #[.int .i64 0, .int .i64 0, .slice none 0 0, .int .i64 0, .int .i64 0, .int .i64 0, .int .i64 0, .int .i64 0, .int .i64 0, .int .i64 0, .slice none 0 0] 32
 simp only [World.size_alloc] at k1
 have K0 := Lib.hid k0
 have K1 := Lib.hid k1
 clear k0 k1
 go_enter Tryz.func216, Tryz.ntmps216
 go_wp2_with fail
 refine (actOf_any r n actor 2 a c x _).mono ?_
 rintro e w2 ⟨rfl, b2⟩
 have B2 := Lib.hid (bb.out.trans (b2.mono bb.out.size))
 have k2 := Lib.hid (Blk.new w2 #[.int .i64 r, .int .i64 n, .slice x a c, .int .i64 actor, .int .i64 2, .int .i64 0, .int .i64 0, .int .i64 0, .int .i64 0, .int .i64 0, .slice none 0 0] 32)
 have B3 := Lib.hid (B2.out.alloc B2.out.size (.cells #[.int .i64 r, .int .i64 n, .slice x a c, .int .i64 actor, .int .i64 2, .int .i64 0, .int .i64 0, .int .i64 0, .int .i64 0, .int .i64 0, .slice none 0 0] 32))
 have k0 := Lib.hid ((K0.out.below b2 K0.out.lt).alloc (.cells #[.int .i64 r, .int .i64 n, .slice x a c, .int .i64 actor, .int .i64 2, .int .i64 0, .int .i64 0, .int .i64 0, .int .i64 0, .int .i64 0, .slice none 0 0] 32))
 have k1 := Lib.hid ((K1.out.below b2 K1.out.lt).alloc (.cells #[.int .i64 r, .int .i64 n, .slice x a c, .int .i64 actor, .int .i64 2, .int .i64 0, .int .i64 0, .int .i64 0, .int .i64 0, .int .i64 0, .slice none 0 0] 32))
 have l1 := (K1.out.below b2 K1.out.lt).lt
 clear b2 K0 K1
 go_wp2_with fail
 obtain ⟨W3, hW3⟩ : ∃ W3, W3 = (w2.alloc (.cells #[.int .i64 r, .int .i64 n, .slice x a c, .int .i64 actor, .int .i64 2, .int .i64 0, .int .i64 0, .int .i64 0, .int .i64 0, .int .i64 0, .slice none 0 0] 32)) := ⟨_, rfl⟩
 rw [← hW3] at k0 k1 k2 B3 ⊢
 clear hW3
 have a0 : W3.cell? ⟨w.heap.size, 4, none⟩ = some (.int .i64 gr) := k0.out.cell 4
 have d0 : W3.cell? ⟨w2.heap.size, 8, none⟩ = some (.int .i64 0) := k2.out.cell 8
 have f0 : W3.frozen? ⟨w2.heap.size, 8, none⟩ = false := k2.out.free 8
 have a1 : W3.cell? ⟨w.heap.size, 5, none⟩ = some (.int .i64 gn) := k0.out.cell 5
 have d1 : W3.cell? ⟨w2.heap.size, 9, none⟩ = some (.int .i64 0) := k2.out.cell 9
 have f1 : W3.frozen? ⟨w2.heap.size, 9, none⟩ = false := k2.out.free 9
 go_region
 all_goals
  have c2 := k2.out.cell
  have f2 := k2.out.free
  have c1 := k1.out.cell
  have f1 := k1.out.free
  go_wp2
  refine bodyPost_ret (v := .agg #[.int .i64 r, .int .i64 n, .slice x a c, .int .i64 actor, .int .i64 2, .int .i64 0, .int .i64 0, .int .i64 0, .int .i64 gr, .int .i64 gn, .slice none 0 0]) (by simp [results, Tryz.results216, go_sem, c1]) rfl ⟨rfl, ?_⟩
  repeat (first | with_reducible refine Below.setCell ?_ ?_ _ | with_reducible refine Below.drew ?_)
  all_goals (first | exact B3.out | (simp; done) | (simp; omega))
set_option maxHeartbeats 1600000 in
theorem transactionAct_any (r n actor : Int) (p q : Nat) (y : Option Addr) (a c : Nat) (x : Option Addr) (w : World) :
  Calls Tryz.prog 220 #[.agg #[.int .i64 r, .int .i64 n, .slice x a c, .int .i64 actor, .slice y p q]] w fun e w' => e = .returned (.agg #[.int .i64 r, .int .i64 n, .slice x a c, .int .i64 actor, .int .i64 4, .int .i64 0, .int .i64 0, .int .i64 0, .int .i64 0, .int .i64 0, .slice y p q]) ∧ Below w.heap.size w w' := by
 have bb := Lib.hid (((Below.refl w.heap.size w).alloc (Nat.le_refl _) (.cells #[.int .i64 r, .int .i64 n, .slice x a c, .int .i64 actor, .slice y p q] 194)).alloc (by simp) (.cells #[.int .i64 0, .int .i64 0, .slice none 0 0, .int .i64 0, .int .i64 0, .int .i64 0, .int .i64 0, .int .i64 0, .int .i64 0, .int .i64 0, .slice none 0 0] 32))
 have k0 := ((Blk.new w #[.int .i64 r, .int .i64 n, .slice x a c, .int .i64 actor, .slice y p q] 194).alloc (.cells #[.int .i64 0, .int .i64 0, .slice none 0 0, .int .i64 0, .int .i64 0, .int .i64 0, .int .i64 0, .int .i64 0, .int .i64 0, .int .i64 0, .slice none 0 0] 32))
 have k1 := Blk.new (w.alloc (.cells #[.int .i64 r, .int .i64 n, .slice x a c, .int .i64 actor, .slice y p q] 194)) #[.int .i64 0, .int .i64 0, .slice none 0 0, .int .i64 0, .int .i64 0, .int .i64 0, .int .i64 0, .int .i64 0, .int .i64 0, .int .i64 0, .slice none 0 0] 32
 simp only [World.size_alloc] at k1
 have K0 := Lib.hid k0
 have K1 := Lib.hid k1
 clear k0 k1
 go_enter Tryz.func220, Tryz.ntmps220
 go_wp2_with fail
 refine (actOf_any r n actor 4 a c x _).mono ?_
 rintro e w2 ⟨rfl, b2⟩
 have B2 := Lib.hid (bb.out.trans (b2.mono bb.out.size))
 have k2 := Lib.hid (Blk.new w2 #[.int .i64 r, .int .i64 n, .slice x a c, .int .i64 actor, .int .i64 4, .int .i64 0, .int .i64 0, .int .i64 0, .int .i64 0, .int .i64 0, .slice none 0 0] 32)
 have B3 := Lib.hid (B2.out.alloc B2.out.size (.cells #[.int .i64 r, .int .i64 n, .slice x a c, .int .i64 actor, .int .i64 4, .int .i64 0, .int .i64 0, .int .i64 0, .int .i64 0, .int .i64 0, .slice none 0 0] 32))
 have k0 := Lib.hid ((K0.out.below b2 K0.out.lt).alloc (.cells #[.int .i64 r, .int .i64 n, .slice x a c, .int .i64 actor, .int .i64 4, .int .i64 0, .int .i64 0, .int .i64 0, .int .i64 0, .int .i64 0, .slice none 0 0] 32))
 have k1 := Lib.hid ((K1.out.below b2 K1.out.lt).alloc (.cells #[.int .i64 r, .int .i64 n, .slice x a c, .int .i64 actor, .int .i64 4, .int .i64 0, .int .i64 0, .int .i64 0, .int .i64 0, .int .i64 0, .slice none 0 0] 32))
 have l1 := (K1.out.below b2 K1.out.lt).lt
 clear b2 K0 K1
 go_upto_region 2 with (fail)
 obtain ⟨W3, hW3⟩ : ∃ W3, W3 = (w2.alloc (.cells #[.int .i64 r, .int .i64 n, .slice x a c, .int .i64 actor, .int .i64 4, .int .i64 0, .int .i64 0, .int .i64 0, .int .i64 0, .int .i64 0, .slice none 0 0] 32)) := ⟨_, rfl⟩
 rw [← hW3] at k0 k1 k2 B3 ⊢
 clear hW3
 have a0 : W3.cell? ⟨w.heap.size, 4, none⟩ = some (.slice y p q) := k0.out.cell 4
 have d0 := k2.out.cell
 have g0 := k2.out.free
 have c1 := k1.out.cell
 have f1 := k1.out.free
 go_wp2
 refine bodyPost_ret (v := .agg #[.int .i64 r, .int .i64 n, .slice x a c, .int .i64 actor, .int .i64 4, .int .i64 0, .int .i64 0, .int .i64 0, .int .i64 0, .int .i64 0, .slice y p q]) (by simp [results, Tryz.results220, go_sem, c1]) rfl ⟨rfl, ?_⟩
 repeat (first | with_reducible refine Below.setCell ?_ ?_ _ | with_reducible refine Below.alloc ?_ ?_ _)
 all_goals (first | exact B3.out | (simp; done) | (simp; omega))
end Go.Proofs.YtghgiefciijoeaaGreatDoor
namespace Go.Proofs.YtghgiefciijoeaaGreatDoor
open Go.RowKit
set_option linter.unusedVariables false
theorem cn_yes {xs : List Int} (h : okB xs = true) : cn xs = xs.length := if_pos h
theorem cx_yes {xs : List Int} (h : okB xs = true) (i : Nat) : cx xs i = xs.getD i 0 := if_pos h
theorem okB_len4 {xs : List Int} (h : okB xs = true) : 1 ≤ xs.length ∧ xs.length ≤ 4 := by
 by_cases hl : 1 ≤ xs.length ∧ xs.length ≤ 4
 ·exact hl
 ·rw [okB_len xs (by omega)] at h; cases h
def standsM (r n actor : Int) (dep : List Int) (m : Int) : Bool :=
 okB dep && decide ((dep.length : Int) = m) && inB r 0 (m - 1) && inB n 1 100000 && decide (dep.getD r.toNat 0 = n - 1) && inB actor 0 5
set_option maxHeartbeats 3200000 in
theorem stands_any (r n actor m : Int) (vd : Value) (dep : List Int) (w : World) (hd : Ints w vd dep) (hm : -9223372036854775808 ≤ m ∧ m ≤ 9223372036854775807) :
  Calls Tryz.prog 208 #[.agg #[.int .i64 r, .int .i64 n, vd, .int .i64 actor], .int .i64 m] w fun e w' =>
   e = .returned (.bool (standsM r n actor dep m)) ∧ Below w.heap.size w w' := by
 have bb := Lib.hid ((Below.refl w.heap.size w).alloc (Nat.le_refl _) (.cells #[.int .i64 r, .int .i64 n, vd, .int .i64 actor] 150))
 have k0 := Lib.hid (Blk.new w #[.int .i64 r, .int .i64 n, vd, .int .i64 actor] 150)
 have HD := Lib.hid hd
 clear hd
 obtain ⟨R, hR⟩ : ∃ R, R = standsM r n actor dep m := ⟨_, rfl⟩
 rw [← hR]
 have HR := Lib.hid hR
 clear hR
 have HC := Lib.hid (fun w h => readClock_any vd dep w h)
 cases hok : okB dep
 ·have HF := Lib.hid (show R = false by rw [HR.out, standsM, hok]; rfl)
  rw [hok] at HC
  generalize cn dep = y at *
  generalize cx dep 0 = y0 at *
  generalize cx dep 1 = y1 at *
  generalize cx dep 2 = y2 at *
  generalize cx dep 3 = y3 at *
  clear hok
  go_enter Tryz.func208, Tryz.ntmps208
  go_wp2_with fail
  refine (HC.out _ (HD.out.below (B := 0) bb.out)).mono ?_
  rintro e w1 ⟨rfl, b1⟩
  have B1 := Lib.hid (bb.out.trans (b1.mono bb.out.size))
  have B2 := Lib.hid (B1.out.alloc B1.out.size (.cells #[.int .i64 y, .int .i64 y0, .int .i64 y1, .int .i64 y2, .int .i64 y3] 71))
  clear b1
  go_wp2_with fail
  go_quiet (fail)
  go_wp2_with fail
  go_ret
  exact ⟨ret_bool HF.out.symm, below_drewN B2.out _⟩
 ·have h14 := okB_len4 hok
  have HOK := Lib.hid hok
  have e0 := cn_yes hok
  have x0 := cx_yes hok 0
  have x1 := cx_yes hok 1
  have x2 := cx_yes hok 2
  have x3 := cx_yes hok 3
  rw [e0, x0, x1, x2, x3, hok] at HC
  clear e0 x0 x1 x2 x3 hok
  have hget : ∀ k : Nat, k < 4 → #[Value.int .i64 dep.length, .int .i64 (dep.getD 0 0), .int .i64 (dep.getD 1 0), .int .i64 (dep.getD 2 0), .int .i64 (dep.getD 3 0)].toList[1 + k]? = some (.int .i64 (dep.getD k 0)) := by
   intro k hk
   match k, hk with
   | 0, _ => rfl
   | 1, _ => rfl
   | 2, _ => rfl
   | 3, _ => rfl
   | k + 4, h => omega
  have HG := Lib.hid hget
  clear hget
  by_cases hlen : (dep.length : Int) = m
  ·subst hlen
   cases h1 : inB r 0 ((dep.length : Int) - 1)
   ·have HF := Lib.hid (show R = false by rw [HR.out, standsM, h1]; simp)
    clear HG
    generalize dep.getD 0 0 = y0 at *
    generalize dep.getD 1 0 = y1 at *
    generalize dep.getD 2 0 = y2 at *
    generalize dep.getD 3 0 = y3 at *
    obtain ⟨len, hl⟩ : ∃ len, len = dep.length := ⟨_, rfl⟩
    rw [← hl] at h1 HC h14 ⊢
    clear hl
    have e1 : IntKind.i64.wrap ((len : Int) - 1) = (len : Int) - 1 := IntWalk.i64_in _ (by omega)
    go_enter Tryz.func208, Tryz.ntmps208
    go_wp2_with fail
    refine (HC.out _ (HD.out.below (B := 0) bb.out)).mono ?_
    rintro e w1 ⟨rfl, b1⟩
    have B1 := Lib.hid (bb.out.trans (b1.mono bb.out.size))
    have B2 := Lib.hid (B1.out.alloc B1.out.size (.cells #[.int .i64 len, .int .i64 y0, .int .i64 y1, .int .i64 y2, .int .i64 y3] 71))
    have q0 := (k0.out.below b1 k0.out.lt).cell
    have l0 := (k0.out.below b1 k0.out.lt).lt
    clear b1
    go_wp2_with fail
    go_quiet ((go_at_call 42; exact Calls.quiet_of_same (isIn_any _ _ _ _)))
    go_wp2_with fail
    go_ret
    exact ⟨ret_bool HF.out.symm, below_drewN B2.out _⟩
   ·have hr1 : 0 ≤ r ∧ r < dep.length := by
     simp only [inB, Bool.and_eq_true, decide_eq_true_eq] at h1; omega
    obtain ⟨k, rfl⟩ := Int.eq_ofNat_of_zero_le hr1.1
    have hk4 : k < 4 := by omega
    have hkl : (k : Int) < dep.length := hr1.2
    have HG := Lib.hid (HG.out k hk4)
    have HS := Lib.hid (show R = (inB n 1 100000 && decide (dep.getD k 0 = n - 1) && inB actor 0 5) by rw [HR.out, standsM, HOK.out, h1]; simp)
    clear hr1
    obtain ⟨x, hx⟩ : ∃ x, x = dep.getD k 0 := ⟨_, rfl⟩
    rw [← hx] at HG HS
    clear hx
    generalize dep.getD 0 0 = y0 at *
    generalize dep.getD 1 0 = y1 at *
    generalize dep.getD 2 0 = y2 at *
    generalize dep.getD 3 0 = y3 at *
    obtain ⟨len, hl⟩ : ∃ len, len = dep.length := ⟨_, rfl⟩
    rw [← hl] at h1 HC h14 hkl HG ⊢
    clear hl
    have e1 : IntKind.i64.wrap ((len : Int) - 1) = (len : Int) - 1 := IntWalk.i64_in _ (by omega)
    have i0 : (0 : Int) ≤ k := by omega
    have i4 : (k : Int) < 4 := by omega
    cases h2 : inB n 1 100000
    ·have HF := Lib.hid (show R = false by rw [HS.out, h2]; rfl)
     go_enter Tryz.func208, Tryz.ntmps208
     go_wp2_with fail
     refine (HC.out _ (HD.out.below (B := 0) bb.out)).mono ?_
     rintro e w1 ⟨rfl, b1⟩
     have B1 := Lib.hid (bb.out.trans (b1.mono bb.out.size))
     have B2 := Lib.hid (B1.out.alloc B1.out.size (.cells #[.int .i64 len, .int .i64 y0, .int .i64 y1, .int .i64 y2, .int .i64 y3] 71))
     have k1 := Lib.hid ((k0.out.below b1 k0.out.lt).alloc (.cells #[.int .i64 len, .int .i64 y0, .int .i64 y1, .int .i64 y2, .int .i64 y3] 71))
     have k2 := Lib.hid (Blk.new w1 #[.int .i64 len, .int .i64 y0, .int .i64 y1, .int .i64 y2, .int .i64 y3] 71)
     clear b1
     go_wp2_with fail
     obtain ⟨W3, hW3⟩ : ∃ W3, W3 = (w1.alloc (.cells #[.int .i64 len, .int .i64 y0, .int .i64 y1, .int .i64 y2, .int .i64 y3] 71)) := ⟨_, rfl⟩
     rw [← hW3] at k1 k2 B2 ⊢
     clear hW3
     have q0 : W3.cell? ⟨w.heap.size, 0, none⟩ = some (.int .i64 k) := k1.out.cell 0
     have q1 : W3.cell? ⟨w.heap.size, 1, none⟩ = some (.int .i64 n) := k1.out.cell 1
     have q2 : W3.cell? ⟨w.heap.size, 3, none⟩ = some (.int .i64 actor) := k1.out.cell 3
     have p0 : W3.cell? ⟨w1.heap.size, 0, none⟩ = some (.int .i64 len) := k2.out.cell 0
     have p1 : W3.cell? ⟨w1.heap.size, 1 + k, none⟩ = some (.int .i64 x) := (k2.out.cell (1 + k)).trans HG.out
     go_quiet ((go_at_call 42; exact Calls.quiet_of_same (isIn_any _ _ _ _)))
     go_wp2_with fail
     go_ret
     exact ⟨ret_bool HF.out.symm, below_drewN B2.out _⟩
    ·have hn : 1 ≤ n ∧ n ≤ 100000 := by
      simp only [inB, Bool.and_eq_true, decide_eq_true_eq] at h2; omega
     have e2 : IntKind.i64.wrap (n - 1) = n - 1 := IntWalk.i64_in _ (by omega)
     by_cases h3 : x = n - 1
     ·have HF := Lib.hid (show R = inB actor 0 5 by rw [HS.out, h2]; simp [h3])
      have e3 : (x == n - 1) = true := by simpa using h3
      clear h3
      go_enter Tryz.func208, Tryz.ntmps208
      go_wp2_with fail
      refine (HC.out _ (HD.out.below (B := 0) bb.out)).mono ?_
      rintro e w1 ⟨rfl, b1⟩
      have B1 := Lib.hid (bb.out.trans (b1.mono bb.out.size))
      have B2 := Lib.hid (B1.out.alloc B1.out.size (.cells #[.int .i64 len, .int .i64 y0, .int .i64 y1, .int .i64 y2, .int .i64 y3] 71))
      have k1 := Lib.hid ((k0.out.below b1 k0.out.lt).alloc (.cells #[.int .i64 len, .int .i64 y0, .int .i64 y1, .int .i64 y2, .int .i64 y3] 71))
      have k2 := Lib.hid (Blk.new w1 #[.int .i64 len, .int .i64 y0, .int .i64 y1, .int .i64 y2, .int .i64 y3] 71)
      clear b1
      go_wp2_with fail
      obtain ⟨W3, hW3⟩ : ∃ W3, W3 = (w1.alloc (.cells #[.int .i64 len, .int .i64 y0, .int .i64 y1, .int .i64 y2, .int .i64 y3] 71)) := ⟨_, rfl⟩
      rw [← hW3] at k1 k2 B2 ⊢
      clear hW3
      have q0 : W3.cell? ⟨w.heap.size, 0, none⟩ = some (.int .i64 k) := k1.out.cell 0
      have q1 : W3.cell? ⟨w.heap.size, 1, none⟩ = some (.int .i64 n) := k1.out.cell 1
      have q2 : W3.cell? ⟨w.heap.size, 3, none⟩ = some (.int .i64 actor) := k1.out.cell 3
      have p0 : W3.cell? ⟨w1.heap.size, 0, none⟩ = some (.int .i64 len) := k2.out.cell 0
      have p1 : W3.cell? ⟨w1.heap.size, 1 + k, none⟩ = some (.int .i64 x) := (k2.out.cell (1 + k)).trans HG.out
      go_quiet ((go_at_call 42; exact Calls.quiet_of_same (isIn_any _ _ _ _)))
      go_wp2_with fail
      go_ret
      exact ⟨ret_bool HF.out.symm, below_drewN B2.out _⟩
     ·have HF := Lib.hid (show R = false by rw [HS.out, h2]; simp [h3])
      have e3 : (x == n - 1) = false := by simpa using h3
      clear h3
      go_enter Tryz.func208, Tryz.ntmps208
      go_wp2_with fail
      refine (HC.out _ (HD.out.below (B := 0) bb.out)).mono ?_
      rintro e w1 ⟨rfl, b1⟩
      have B1 := Lib.hid (bb.out.trans (b1.mono bb.out.size))
      have B2 := Lib.hid (B1.out.alloc B1.out.size (.cells #[.int .i64 len, .int .i64 y0, .int .i64 y1, .int .i64 y2, .int .i64 y3] 71))
      have k1 := Lib.hid ((k0.out.below b1 k0.out.lt).alloc (.cells #[.int .i64 len, .int .i64 y0, .int .i64 y1, .int .i64 y2, .int .i64 y3] 71))
      have k2 := Lib.hid (Blk.new w1 #[.int .i64 len, .int .i64 y0, .int .i64 y1, .int .i64 y2, .int .i64 y3] 71)
      clear b1
      go_wp2_with fail
      obtain ⟨W3, hW3⟩ : ∃ W3, W3 = (w1.alloc (.cells #[.int .i64 len, .int .i64 y0, .int .i64 y1, .int .i64 y2, .int .i64 y3] 71)) := ⟨_, rfl⟩
      rw [← hW3] at k1 k2 B2 ⊢
      clear hW3
      have q0 : W3.cell? ⟨w.heap.size, 0, none⟩ = some (.int .i64 k) := k1.out.cell 0
      have q1 : W3.cell? ⟨w.heap.size, 1, none⟩ = some (.int .i64 n) := k1.out.cell 1
      have q2 : W3.cell? ⟨w.heap.size, 3, none⟩ = some (.int .i64 actor) := k1.out.cell 3
      have p0 : W3.cell? ⟨w1.heap.size, 0, none⟩ = some (.int .i64 len) := k2.out.cell 0
      have p1 : W3.cell? ⟨w1.heap.size, 1 + k, none⟩ = some (.int .i64 x) := (k2.out.cell (1 + k)).trans HG.out
      go_quiet ((go_at_call 42; exact Calls.quiet_of_same (isIn_any _ _ _ _)))
      go_wp2_with fail
      go_ret
      exact ⟨ret_bool HF.out.symm, below_drewN B2.out _⟩
  ·have HF := Lib.hid (show R = false by rw [HR.out, standsM]; simp [hlen])
   have e1 : ((dep.length : Int) == m) = false := by simpa using hlen
   clear HG hlen
   generalize dep.getD 0 0 = y0 at *
   generalize dep.getD 1 0 = y1 at *
   generalize dep.getD 2 0 = y2 at *
   generalize dep.getD 3 0 = y3 at *
   obtain ⟨len, hl⟩ : ∃ len, len = dep.length := ⟨_, rfl⟩
   rw [← hl] at e1 HC h14
   clear hl
   go_enter Tryz.func208, Tryz.ntmps208
   go_wp2_with fail
   refine (HC.out _ (HD.out.below (B := 0) bb.out)).mono ?_
   rintro e w1 ⟨rfl, b1⟩
   have B1 := Lib.hid (bb.out.trans (b1.mono bb.out.size))
   have B2 := Lib.hid (B1.out.alloc B1.out.size (.cells #[.int .i64 len, .int .i64 y0, .int .i64 y1, .int .i64 y2, .int .i64 y3] 71))
   clear b1
   go_wp2_with fail
   go_quiet (fail)
   go_wp2_with fail
   go_ret
   exact ⟨ret_bool HF.out.symm, below_drewN B2.out _⟩
end Go.Proofs.YtghgiefciijoeaaGreatDoor
namespace Go.Proofs.YtghgiefciijoeaaGreatDoor
open Go.RowKit
set_option linter.unusedVariables false
set_option maxHeartbeats 1600000 in
theorem deedOf1 (r n actor kind dst bucket mask gr gn : Int) (x y : Option Addr) (a c p q : Nat) (w : World) (hk : kind = 1) :
  Calls Tryz.prog 125 #[.agg #[.int .i64 r, .int .i64 n, .slice x a c, .int .i64 actor, .int .i64 kind, .int .i64 dst, .int .i64 bucket, .int .i64 mask, .int .i64 gr, .int .i64 gn, .slice y p q]] w fun e w' => e = .returned (.tuple #[.iface 188 (.agg #[.int .i64 r, .int .i64 n, .slice x a c, .int .i64 actor, .int .i64 dst, .int .i64 bucket, .int .i64 mask]), .bool true]) ∧ Below w.heap.size w w' := by
 have bb := Lib.hid ((Below.refl w.heap.size w).alloc (Nat.le_refl _) (.cells #[.int .i64 r, .int .i64 n, .slice x a c, .int .i64 actor, .int .i64 kind, .int .i64 dst, .int .i64 bucket, .int .i64 mask, .int .i64 gr, .int .i64 gn, .slice y p q] 32))
 have k0 := Lib.hid (Blk.new w #[.int .i64 r, .int .i64 n, .slice x a c, .int .i64 actor, .int .i64 kind, .int .i64 dst, .int .i64 bucket, .int .i64 mask, .int .i64 gr, .int .i64 gn, .slice y p q] 32)
 subst hk
 go_enter Tryz.func125, Tryz.ntmps125
 go_wp2_with fail
 refine (commonOf_any _ _ _ _ _ _ _ _ _ _ _ _ _ _).mono ?_
 rintro e w1 ⟨rfl, b1⟩
 have B1 := Lib.hid (bb.out.trans (b1.mono bb.out.size))
 have B2 := Lib.hid (B1.out.alloc B1.out.size (.cells #[.int .i64 r, .int .i64 n, .slice x a c, .int .i64 actor] 150))
 have c0 := (k0.out.below b1 k0.out.lt).cell
 have l0 := (k0.out.below b1 k0.out.lt).lt
 clear b1
 go_wp2
 go_ret2
 exact ⟨rfl, B2.out⟩
set_option maxHeartbeats 1600000 in
theorem deedOf2 (r n actor kind dst bucket mask gr gn : Int) (x y : Option Addr) (a c p q : Nat) (w : World) (hk : kind = 2) :
  Calls Tryz.prog 125 #[.agg #[.int .i64 r, .int .i64 n, .slice x a c, .int .i64 actor, .int .i64 kind, .int .i64 dst, .int .i64 bucket, .int .i64 mask, .int .i64 gr, .int .i64 gn, .slice y p q]] w fun e w' => e = .returned (.tuple #[.iface 190 (.agg #[.int .i64 r, .int .i64 n, .slice x a c, .int .i64 actor, .int .i64 gr, .int .i64 gn]), .bool true]) ∧ Below w.heap.size w w' := by
 have bb := Lib.hid ((Below.refl w.heap.size w).alloc (Nat.le_refl _) (.cells #[.int .i64 r, .int .i64 n, .slice x a c, .int .i64 actor, .int .i64 kind, .int .i64 dst, .int .i64 bucket, .int .i64 mask, .int .i64 gr, .int .i64 gn, .slice y p q] 32))
 have k0 := Lib.hid (Blk.new w #[.int .i64 r, .int .i64 n, .slice x a c, .int .i64 actor, .int .i64 kind, .int .i64 dst, .int .i64 bucket, .int .i64 mask, .int .i64 gr, .int .i64 gn, .slice y p q] 32)
 subst hk
 go_enter Tryz.func125, Tryz.ntmps125
 go_wp2_with fail
 refine (commonOf_any _ _ _ _ _ _ _ _ _ _ _ _ _ _).mono ?_
 rintro e w1 ⟨rfl, b1⟩
 have B1 := Lib.hid (bb.out.trans (b1.mono bb.out.size))
 have B2 := Lib.hid (B1.out.alloc B1.out.size (.cells #[.int .i64 r, .int .i64 n, .slice x a c, .int .i64 actor] 150))
 have c0 := (k0.out.below b1 k0.out.lt).cell
 have l0 := (k0.out.below b1 k0.out.lt).lt
 clear b1
 go_wp2
 go_ret2
 exact ⟨rfl, B2.out⟩
set_option maxHeartbeats 1600000 in
theorem deedOf3 (r n actor kind dst bucket mask gr gn : Int) (x y : Option Addr) (a c p q : Nat) (w : World) (hk : kind = 3) :
  Calls Tryz.prog 125 #[.agg #[.int .i64 r, .int .i64 n, .slice x a c, .int .i64 actor, .int .i64 kind, .int .i64 dst, .int .i64 bucket, .int .i64 mask, .int .i64 gr, .int .i64 gn, .slice y p q]] w fun e w' => e = .returned (.tuple #[.iface 192 (.agg #[.int .i64 r, .int .i64 n, .slice x a c, .int .i64 actor, .int .i64 bucket, .int .i64 mask]), .bool true]) ∧ Below w.heap.size w w' := by
 have bb := Lib.hid ((Below.refl w.heap.size w).alloc (Nat.le_refl _) (.cells #[.int .i64 r, .int .i64 n, .slice x a c, .int .i64 actor, .int .i64 kind, .int .i64 dst, .int .i64 bucket, .int .i64 mask, .int .i64 gr, .int .i64 gn, .slice y p q] 32))
 have k0 := Lib.hid (Blk.new w #[.int .i64 r, .int .i64 n, .slice x a c, .int .i64 actor, .int .i64 kind, .int .i64 dst, .int .i64 bucket, .int .i64 mask, .int .i64 gr, .int .i64 gn, .slice y p q] 32)
 subst hk
 go_enter Tryz.func125, Tryz.ntmps125
 go_wp2_with fail
 refine (commonOf_any _ _ _ _ _ _ _ _ _ _ _ _ _ _).mono ?_
 rintro e w1 ⟨rfl, b1⟩
 have B1 := Lib.hid (bb.out.trans (b1.mono bb.out.size))
 have B2 := Lib.hid (B1.out.alloc B1.out.size (.cells #[.int .i64 r, .int .i64 n, .slice x a c, .int .i64 actor] 150))
 have c0 := (k0.out.below b1 k0.out.lt).cell
 have l0 := (k0.out.below b1 k0.out.lt).lt
 clear b1
 go_wp2
 go_ret2
 exact ⟨rfl, B2.out⟩
set_option maxHeartbeats 1600000 in
theorem deedOf4 (r n actor kind dst bucket mask gr gn : Int) (x y : Option Addr) (a c p q : Nat) (w : World) (hk : kind = 4) :
  Calls Tryz.prog 125 #[.agg #[.int .i64 r, .int .i64 n, .slice x a c, .int .i64 actor, .int .i64 kind, .int .i64 dst, .int .i64 bucket, .int .i64 mask, .int .i64 gr, .int .i64 gn, .slice y p q]] w fun e w' => e = .returned (.tuple #[.iface 194 (.agg #[.int .i64 r, .int .i64 n, .slice x a c, .int .i64 actor, .slice y p q]), .bool true]) ∧ Below w.heap.size w w' := by
 have bb := Lib.hid ((Below.refl w.heap.size w).alloc (Nat.le_refl _) (.cells #[.int .i64 r, .int .i64 n, .slice x a c, .int .i64 actor, .int .i64 kind, .int .i64 dst, .int .i64 bucket, .int .i64 mask, .int .i64 gr, .int .i64 gn, .slice y p q] 32))
 have k0 := Lib.hid (Blk.new w #[.int .i64 r, .int .i64 n, .slice x a c, .int .i64 actor, .int .i64 kind, .int .i64 dst, .int .i64 bucket, .int .i64 mask, .int .i64 gr, .int .i64 gn, .slice y p q] 32)
 subst hk
 go_enter Tryz.func125, Tryz.ntmps125
 go_wp2_with fail
 refine (commonOf_any _ _ _ _ _ _ _ _ _ _ _ _ _ _).mono ?_
 rintro e w1 ⟨rfl, b1⟩
 have B1 := Lib.hid (bb.out.trans (b1.mono bb.out.size))
 have B2 := Lib.hid (B1.out.alloc B1.out.size (.cells #[.int .i64 r, .int .i64 n, .slice x a c, .int .i64 actor] 150))
 have c0 := (k0.out.below b1 k0.out.lt).cell
 have l0 := (k0.out.below b1 k0.out.lt).lt
 clear b1
 go_wp2
 go_ret2
 exact ⟨rfl, B2.out⟩
set_option maxHeartbeats 1600000 in
theorem deedOf0 (r n actor kind dst bucket mask gr gn : Int) (x y : Option Addr) (a c p q : Nat) (w : World) (hk : ¬ (1 ≤ kind ∧ kind ≤ 4)) :
  Calls Tryz.prog 125 #[.agg #[.int .i64 r, .int .i64 n, .slice x a c, .int .i64 actor, .int .i64 kind, .int .i64 dst, .int .i64 bucket, .int .i64 mask, .int .i64 gr, .int .i64 gn, .slice y p q]] w fun e w' => e = .returned (.tuple #[.nilIface, .bool false]) ∧ Below w.heap.size w w' := by
 have bb := Lib.hid ((Below.refl w.heap.size w).alloc (Nat.le_refl _) (.cells #[.int .i64 r, .int .i64 n, .slice x a c, .int .i64 actor, .int .i64 kind, .int .i64 dst, .int .i64 bucket, .int .i64 mask, .int .i64 gr, .int .i64 gn, .slice y p q] 32))
 have k0 := Lib.hid (Blk.new w #[.int .i64 r, .int .i64 n, .slice x a c, .int .i64 actor, .int .i64 kind, .int .i64 dst, .int .i64 bucket, .int .i64 mask, .int .i64 gr, .int .i64 gn, .slice y p q] 32)
 have e1 : (kind == 1) = false := by simp; omega
 have e2 : (kind == 2) = false := by simp; omega
 have e3 : (kind == 3) = false := by simp; omega
 have e4 : (kind == 4) = false := by simp; omega
 clear hk
 go_enter Tryz.func125, Tryz.ntmps125
 go_wp2_with fail
 refine (commonOf_any _ _ _ _ _ _ _ _ _ _ _ _ _ _).mono ?_
 rintro e w1 ⟨rfl, b1⟩
 have B1 := Lib.hid (bb.out.trans (b1.mono bb.out.size))
 have B2 := Lib.hid (B1.out.alloc B1.out.size (.cells #[.int .i64 r, .int .i64 n, .slice x a c, .int .i64 actor] 150))
 have c0 := (k0.out.below b1 k0.out.lt).cell
 have l0 := (k0.out.below b1 k0.out.lt).lt
 clear b1
 go_wp2
 go_ret2
 exact ⟨rfl, B2.out⟩
end Go.Proofs.YtghgiefciijoeaaGreatDoor
namespace Go.Proofs.YtghgiefciijoeaaGreatDoor
open Go.RowKit
set_option linter.unusedVariables false
def cmpM (a b : Int) : Int := if a < b then -1 else if b < a then 1 else 0
theorem isNaN_any (x : Int) (w : World) : Calls Tryz.prog 152 #[.int .i64 x] w fun e w' => e = .returned (.bool false) ∧ w' = w := by
 go_enter Tryz.func152, Tryz.ntmps152
 go_wp2
 go_ret
 exact ⟨rfl, rfl⟩
theorem compare_any (a b : Int) (w : World) : Calls Tryz.prog 128 #[.int .i64 a, .int .i64 b] w fun e w' => e = .returned (.int .i64 (cmpM a b)) ∧ w' = w := by
 by_cases h1 : a < b
 ·have e : cmpM a b = -1 := if_pos h1
  rw [e]
  clear e
  go_enter Tryz.func128, Tryz.ntmps128
  go_wp2_with fail
  refine (isNaN_any _ _).mono ?_
  rintro e w1 ⟨rfl, rfl⟩
  go_wp2_with fail
  refine (isNaN_any _ _).mono ?_
  rintro e w1 ⟨rfl, rfl⟩
  go_wp2_with fail
  go_ret
  exact ⟨rfl, rfl⟩
 ·by_cases h2 : b < a
  ·have e : cmpM a b = 1 := by rw [cmpM, if_neg h1, if_pos h2]
   rw [e]
   clear e
   go_enter Tryz.func128, Tryz.ntmps128
   go_wp2_with fail
   refine (isNaN_any _ _).mono ?_
   rintro e w1 ⟨rfl, rfl⟩
   go_wp2_with fail
   refine (isNaN_any _ _).mono ?_
   rintro e w1 ⟨rfl, rfl⟩
   go_wp2_with fail
   go_ret
   exact ⟨rfl, rfl⟩
  ·have e : cmpM a b = 0 := by rw [cmpM, if_neg h1, if_neg h2]
   rw [e]
   clear e
   go_enter Tryz.func128, Tryz.ntmps128
   go_wp2_with fail
   refine (isNaN_any _ _).mono ?_
   rintro e w1 ⟨rfl, rfl⟩
   go_wp2_with fail
   refine (isNaN_any _ _).mono ?_
   rintro e w1 ⟨rfl, rfl⟩
   go_wp2_with fail
   go_ret
   exact ⟨rfl, rfl⟩
def orM : List Int → Int
 | [] => 0
 | x :: xs => if x = 0 then orM xs else x
theorem orM_hit (xs : List Int) (k : Nat) (hk : k < xs.length) (h : ∀ j, j < k → xs.getD j 0 = 0) (hx : xs.getD k 0 ≠ 0) : orM xs = xs.getD k 0 := by
 induction k generalizing xs with
 | zero =>
  match xs, hk with
  | x :: xs, _ => simp at hx; simp [orM, hx]
 | succ k ih =>
  match xs, hk with
  | x :: xs, hk =>
   have h0 : x = 0 := by simpa using h 0 (by omega)
   rw [orM, if_pos h0]
   simp only [List.getD_cons_succ] at hx ⊢
   exact ih xs (by simpa using hk) (fun j hj => by simpa using h (j + 1) (by omega)) hx
theorem orM_zero (xs : List Int) (h : ∀ j, j < xs.length → xs.getD j 0 = 0) : orM xs = 0 := by
 induction xs with
 | nil => rfl
 | cons x xs ih =>
  have h0 : x = 0 := by simpa using h 0 (by simp)
  rw [orM, if_pos h0]
  exact ih fun j hj => by simpa using h (j + 1) (by simpa using hj)
theorem zero_step {xs : List Int} {k : Nat} (h : ∀ j, j < k → xs.getD j 0 = 0) (hx : xs.getD k 0 = 0) : ∀ j, j < k + 1 → xs.getD j 0 = 0 := by
 intro j hj
 by_cases e : j = k
 ·rw [e]; exact hx
 ·exact h j (by omega)
theorem or_some (b off cap n : Nat) (xs : List Int) (w : World) (hn : xs.length = n) (hl : n ≤ 9223372036854775807)
  (hc : ∀ i, i < n → w.cell? ⟨b, off + i, none⟩ = some (.int .i64 (xs.getD i 0))) :
  Calls Tryz.prog 127 #[.slice (some ⟨b, off, none⟩) n cap] w fun e w' => e = .returned (.int .i64 (orM xs)) ∧ w' = w := by
 have HN := Lib.hid hn
 have HC := Lib.hid hc
 clear hn hc
 go_enter Tryz.func127, Tryz.ntmps127
 go_wp2
 go_loop [8] (fun i => ∃ k : Nat, k ≤ n ∧ i = .int .i64 k ∧ Hid (∀ j, j < k → xs.getD j 0 = 0)) (fun i => n - (intOf i).toNat)
 case atStart => exact ⟨0, Nat.zero_le _, rfl, by intro j hj; omega⟩
 case round =>
  obtain ⟨k, hk, rfl, hz⟩ := hrel
  by_cases hlt : k < n
  ·have hc1 := HC.out k hlt
   obtain ⟨x, hx⟩ : ∃ x, xs.getD k 0 = x := ⟨_, rfl⟩
   rw [hx] at hc1
   have HX := Lib.hid hx
   clear hx
   by_cases h0 : x = 0
   ·subst h0
    go_wp2
    go_round
    case rel => exact ⟨k + 1, by omega, by go_num, zero_step hz.out HX.out⟩
    case measure => simp [intOf]; omega
   ·have e1 : (x == 0) = false := by simpa using h0
    have e2 : (x != 0) = true := by simpa using h0
    have HH := Lib.hid h0
    clear h0
    go_wp2
    go_ret
    exact ⟨ret_int (by rw [orM_hit xs k (by rw [HN.out]; exact hlt) hz.out (by rw [HX.out]; exact HH.out), HX.out]), rfl⟩
  ·have : k = n := by omega
   subst this
   go_wp2
   go_ret
   exact ⟨ret_int (orM_zero xs (by rw [HN.out]; exact hz.out)).symm, rfl⟩
theorem ahead_eq (a b : ActM) : aheadM a b = decide (orM [cmpM (sumW a.dep) (sumW b.dep), cmpM a.r b.r, cmpM a.n b.n] < 0) := by
 unfold aheadM
 by_cases h : sumW a.dep = sumW b.dep
 ·rw [if_pos h]
  have e : cmpM (sumW a.dep) (sumW b.dep) = 0 := by simp [cmpM, h]
  rw [e]
  simp only [orM, if_true]
  by_cases h1 : a.r < b.r
  ·have e1 : cmpM a.r b.r = -1 := if_pos h1
   rw [e1]; simp [h1]
  ·by_cases h2 : b.r < a.r
   ·have e1 : cmpM a.r b.r = 1 := by rw [cmpM, if_neg h1, if_pos h2]
    have h3 : ¬ a.r = b.r := by omega
    rw [e1]; simp [h1, h3]
   ·have e1 : cmpM a.r b.r = 0 := by rw [cmpM, if_neg h1, if_neg h2]
    have h3 : a.r = b.r := by omega
    rw [e1]
    simp only [h3, if_true, decide_true, Bool.true_and]
    by_cases g1 : a.n < b.n
    ·have e2 : cmpM a.n b.n = -1 := if_pos g1
     rw [e2]; simp [g1]
    ·by_cases g2 : b.n < a.n
     ·have e2 : cmpM a.n b.n = 1 := by rw [cmpM, if_neg g1, if_pos g2]
      rw [e2]; simp [g1]
     ·have e2 : cmpM a.n b.n = 0 := by rw [cmpM, if_neg g1, if_neg g2]
      rw [e2]; simp [g1]
 ·rw [if_neg h]
  by_cases h1 : sumW a.dep < sumW b.dep
  ·have e : cmpM (sumW a.dep) (sumW b.dep) = -1 := if_pos h1
   rw [e]; simp [orM, h1]
  ·have e : cmpM (sumW a.dep) (sumW b.dep) = 1 := by rw [cmpM, if_neg h1, if_pos (by omega)]
   rw [e]; simp [orM, h1]
set_option maxRecDepth 100000 in
set_option maxHeartbeats 3200000 in
theorem implAhead_any : ImplAhead := by
 intro v v' a b w h h'
 rw [ahead_eq]
 obtain ⟨vd, vs, rfl, hd, hs⟩ := h
 obtain ⟨vd', vs', rfl, hd', hs'⟩ := h'
 clear hs hs'
 obtain ⟨r', n', dep', actor', kind', dst', bucket', mask', gr', gn', ups'⟩ := b
 obtain ⟨r, n, dep, actor, kind, dst, bucket, mask, gr, gn, ups⟩ := a
 simp only at hd hd' ⊢
 have bb := Lib.hid (((Below.refl w.heap.size w).alloc (Nat.le_refl _) (.cells #[.int .i64 r, .int .i64 n, vd, .int .i64 actor, .int .i64 kind, .int .i64 dst, .int .i64 bucket, .int .i64 mask, .int .i64 gr, .int .i64 gn, vs] 32)).alloc (by simp) (.cells #[.int .i64 r', .int .i64 n', vd', .int .i64 actor', .int .i64 kind', .int .i64 dst', .int .i64 bucket', .int .i64 mask', .int .i64 gr', .int .i64 gn', vs'] 32))
 have S1 := Lib.hid (fun w h => total_any vd dep w h)
 have S2 := Lib.hid (fun w h => total_any vd' dep' w h)
 have HD := Lib.hid hd
 have HD' := Lib.hid hd'
 clear hd hd'
 generalize sumW dep = x at *
 generalize sumW dep' = y at *
 have C1 := Lib.hid (fun w => compare_any x y w)
 have C2 := Lib.hid (fun w => compare_any r r' w)
 have C3 := Lib.hid (fun w => compare_any n n' w)
 generalize cmpM x y = p at *
 generalize cmpM r r' = q at *
 generalize cmpM n n' = s at *
 obtain ⟨z, hz⟩ : ∃ z, z = orM [p, q, s] := ⟨_, rfl⟩
 rw [← hz]
 have HZ := Lib.hid hz
 clear hz
 go_enter Tryz.func100, Tryz.ntmps100
 go_wp2_with fail
 have k0 := ((Blk.new w #[.int .i64 r, .int .i64 n, vd, .int .i64 actor, .int .i64 kind, .int .i64 dst, .int .i64 bucket, .int .i64 mask, .int .i64 gr, .int .i64 gn, vs] 32).alloc (.cells #[.int .i64 r', .int .i64 n', vd', .int .i64 actor', .int .i64 kind', .int .i64 dst', .int .i64 bucket', .int .i64 mask', .int .i64 gr', .int .i64 gn', vs'] 32)).cell
 have k1 := (Blk.new (w.alloc (.cells #[.int .i64 r, .int .i64 n, vd, .int .i64 actor, .int .i64 kind, .int .i64 dst, .int .i64 bucket, .int .i64 mask, .int .i64 gr, .int .i64 gn, vs] 32)) #[.int .i64 r', .int .i64 n', vd', .int .i64 actor', .int .i64 kind', .int .i64 dst', .int .i64 bucket', .int .i64 mask', .int .i64 gr', .int .i64 gn', vs'] 32).cell
 simp only [World.size_alloc] at k1
 obtain ⟨W3, hW3⟩ : ∃ W3, W3 = ((w.alloc (.cells #[.int .i64 r, .int .i64 n, vd, .int .i64 actor, .int .i64 kind, .int .i64 dst, .int .i64 bucket, .int .i64 mask, .int .i64 gr, .int .i64 gn, vs] 32)).alloc (.cells #[.int .i64 r', .int .i64 n', vd', .int .i64 actor', .int .i64 kind', .int .i64 dst', .int .i64 bucket', .int .i64 mask', .int .i64 gr', .int .i64 gn', vs'] 32)) := ⟨_, rfl⟩
 rw [← hW3] at k0 k1 bb ⊢
 clear hW3
 have c0 : W3.cell? ⟨w.heap.size, 0, none⟩ = some (.int .i64 r) := k0 0
 have c1 : W3.cell? ⟨w.heap.size, 1, none⟩ = some (.int .i64 n) := k0 1
 have c2 : W3.cell? ⟨w.heap.size, 2, none⟩ = some vd := k0 2
 have d0 : W3.cell? ⟨w.heap.size + 1, 0, none⟩ = some (.int .i64 r') := k1 0
 have d1 : W3.cell? ⟨w.heap.size + 1, 1, none⟩ = some (.int .i64 n') := k1 1
 have d2 : W3.cell? ⟨w.heap.size + 1, 2, none⟩ = some vd' := k1 2
 clear k0 k1
 refine wp_region_still_tail 17 (by kernel_rfl) (by kernel_rfl) ?_
 simp only [List.take_succ_cons, List.take_zero, List.drop_succ_cons, List.drop_zero]
 change wpStill _ _ W3.drew _ _ _
 have B1 := Lib.hid bb.out.drew
 repeat still_step
 still_call (S1.out _ (HD.out.below (B := 0) B1.out))
 repeat still_step
 still_call (S2.out _ (HD'.out.below (B := 0) B1.out))
 still_call (C1.out _)
 repeat still_step
 still_call (C2.out _)
 repeat still_step
 still_call (C3.out _)
 refine wpStill_nil ?_
 change wpList _ _ _ _ _ W3.drew
 generalize W3.drew = w2 at *
 have O1 := Lib.hid (or_some w2.heap.size 0 3 3 [p, q, s] (w2.alloc (.cells #[.int .i64 p, .int .i64 q, .int .i64 s] 3)) rfl (by omega) (by
  intro i hi
  rw [Nat.zero_add, (Blk.new w2 #[.int .i64 p, .int .i64 q, .int .i64 s] 3).cell i]
  match i, hi with
  | 0, _ => rfl
  | 1, _ => rfl
  | 2, _ => rfl))
 have B2 := Lib.hid (B1.out.alloc B1.out.size (.cells #[.int .i64 p, .int .i64 q, .int .i64 s] 3))
 rw [← HZ.out] at O1
 clear c0 c1 c2 d0 d1 d2
 go_wp2_with fail
 refine O1.out.mono ?_
 rintro e w4 ⟨rfl, rfl⟩
 go_wp2_with fail
 go_ret
 exact ⟨rfl, B2.out⟩
end Go.Proofs.YtghgiefciijoeaaGreatDoor
