/- AM, MD. -/
import Derived.Test.YtghgiefciijoeaaGreatDoorMB
import Derived.BigQuiet
import Derived.Deep.QuietTactic

namespace Go.Proofs.YtghgiefciijoeaaGreatDoor
open Go.RowKit
set_option linter.unusedVariables false
set_option maxHeartbeats 800000 in
theorem mask_any (r n actor kind to bucket mask gr gn : Int) (dep : List Int) (ups : List UpM) (vd vs : Value) (w : World) :
  Calls Tryz.prog 110 #[.agg #[.int .i64 r, .int .i64 n, vd, .int .i64 actor, .int .i64 kind, .int .i64 to, .int .i64 bucket, .int .i64 mask, .int .i64 gr, .int .i64 gn, vs]] w fun e w' => e = .returned (.bool (maskM ⟨r, n, dep, actor, kind, to, bucket, mask, gr, gn, ups⟩)) ∧ Below w.heap.size w w' := by
 have bb := Lib.hid ((Below.refl w.heap.size w).alloc (Nat.le_refl _) (.cells #[.int .i64 r, .int .i64 n, vd, .int .i64 actor, .int .i64 kind, .int .i64 to, .int .i64 bucket, .int .i64 mask, .int .i64 gr, .int .i64 gn, vs] 32))
 obtain ⟨R, hR⟩ : ∃ R, R = maskM ⟨r, n, dep, actor, kind, to, bucket, mask, gr, gn, ups⟩ := ⟨_, rfl⟩
 rw [← hR]
 simp only [maskM] at hR
 by_cases h0 : 0 ≤ bucket
 ·have d0 : decide (0 ≤ bucket) = true := by simpa using h0
  by_cases h1 : bucket < 3
  ·have d1 : decide (bucket < 3) = true := by simpa using h1
   by_cases h2 : 0 ≤ mask
   ·have d2 : decide (0 ≤ mask) = true := by simpa using h2
    have HR := Lib.hid (show R = decide (mask ≤ 15) by rw [hR]; simp [d0, d1, d2])
    clear hR
    go_enter Tryz.func110, Tryz.ntmps110
    go_wp2
    go_ret
    exact ⟨ret_bool HR.out.symm, bb.out⟩
   ·have d2 : decide (0 ≤ mask) = false := by simp; omega
    have HR := Lib.hid (show R = false by rw [hR]; simp [d2])
    clear hR
    go_enter Tryz.func110, Tryz.ntmps110
    go_wp2
    go_ret
    exact ⟨ret_bool HR.out.symm, bb.out⟩
  ·have d1 : decide (bucket < 3) = false := by simp; omega
   have HR := Lib.hid (show R = false by rw [hR]; simp [d1])
   clear hR
   go_enter Tryz.func110, Tryz.ntmps110
   go_wp2
   go_ret
   exact ⟨ret_bool HR.out.symm, bb.out⟩
 ·have d0 : decide (0 ≤ bucket) = false := by simp; omega
  have HR := Lib.hid (show R = false by rw [hR]; simp [d0])
  clear hR
  go_enter Tryz.func110, Tryz.ntmps110
  go_wp2
  go_ret
  exact ⟨ret_bool HR.out.symm, bb.out⟩
theorem okUp_iff (u : UpM) : okUp u = true ↔ 1 ≤ u.kind ∧ u.kind ≤ 4 ∧ 0 ≤ u.bucket ∧ u.bucket < 3 ∧ 0 ≤ u.key ∧ u.key < 4 := by
 simp [okUp, and_assoc]
theorem okUps_bad (l : List UpM) (k : Nat) (hk : k < l.length) (h : okUp (l.getD k up0) = false) : okUps l = false := by
 simp only [List.getD, List.getElem?_eq_getElem hk, Option.getD_some] at h
 simp only [okUps, Bool.and_eq_false_iff]
 refine .inr ?_
 rw [List.all_eq_false]
 exact ⟨l[k], List.getElem_mem _, by simp [h]⟩
theorem okUps_step (l : List UpM) (k : Nat) (hk : k < l.length) (h : (l.take k).all okUp = true) (h' : okUp (l.getD k up0) = true) : (l.take (k + 1)).all okUp = true := by
 simp only [List.getD, List.getElem?_eq_getElem hk, Option.getD_some] at h'
 rw [List.take_succ_eq_append_getElem hk, List.all_append, h]
 simp [h']
set_option maxHeartbeats 1600000 in
theorem ups_some (b off cap len : Nat) (ups : List UpM) (w : World) (h1 : ups.length = len) (hl : len ≤ 9223372036854775807) (hb : b < w.heap.size)
  (hc : ∀ i, i < len → UpAt w b (off + i * 4) (ups.getD i up0)) :
  Calls Tryz.prog 111 #[.slice (some ⟨b, off, none⟩) len cap] w fun e w' => e = .returned (.bool (okUps ups)) ∧ Below w.heap.size w w' := by
 have N1 := Lib.hid h1
 have HC := Lib.hid hc
 obtain ⟨R, hR⟩ : ∃ R, R = okUps ups := ⟨_, rfl⟩
 rw [← hR]
 have HR := Lib.hid hR
 clear h1 hc hR
 by_cases h5 : len ≤ 5
 ·go_enter Tryz.func111, Tryz.ntmps111
  go_wp2
  go_loopw [3] (fun i wr => ∃ k : Nat, k ≤ len ∧ i = .int .i64 k ∧ Hid ((ups.take k).all okUp = true) ∧ Hid (Below w.heap.size w wr)) (fun i _ => len - (intOf i).toNat)
  case atStart => exact ⟨0, Nat.zero_le _, rfl, by simp [Hid], Below.refl _ _⟩
  case round =>
   obtain ⟨k, hk, rfl, hg, hbel⟩ := hrel
   by_cases hlt : k < len
   ·obtain ⟨q0, q1, q2, q3⟩ := HC.out k hlt
    have c0 := (hbel.out.cell (p := ⟨b, off + k * 4, none⟩) hb).trans q0
    have c1 := (hbel.out.cell (p := ⟨b, off + k * 4 + 1, none⟩) hb).trans q1
    have c2 := (hbel.out.cell (p := ⟨b, off + k * 4 + 2, none⟩) hb).trans q2
    have c3 := (hbel.out.cell (p := ⟨b, off + k * 4 + 3, none⟩) hb).trans q3
    clear q0 q1 q2 q3
    obtain ⟨u, hu⟩ : ∃ u, ups.getD k up0 = u := ⟨_, rfl⟩
    rw [hu] at c0 c1 c2 c3
    have HU := Lib.hid hu
    clear hu
    have hlw : wr.heap.size < wr.heap.size + 1 := by omega
    by_cases hok : okUp u = true
    ·have hs := Lib.hid (okUps_step ups k (by rw [N1.out]; exact hlt) hg.out (by rw [HU.out]; exact hok))
     obtain ⟨p0, p1, p2, p3, p4, p5⟩ := (okUp_iff u).1 hok
     obtain ⟨u0, u1, u2, u3⟩ := u
     simp only at c0 c1 c2 c3 p0 p1 p2 p3 p4 p5
     clear hok
     go_wp2
     go_roundw
     case rel => exact ⟨k + 1, by omega, by go_num, hs.out, hbel.out.alloc hbel.out.size _⟩
     case measure => simp [intOf]; omega
    ·have hno : okUp u = false := by simpa using hok
     have HRF := Lib.hid (show R = false by rw [HR.out]; exact okUps_bad ups k (by rw [N1.out]; exact hlt) (by rw [HU.out]; exact hno))
     have hbad : ¬ (1 ≤ u.kind ∧ u.kind ≤ 4 ∧ 0 ≤ u.bucket ∧ u.bucket < 3 ∧ 0 ≤ u.key ∧ u.key < 4) := fun h => hok ((okUp_iff u).2 h)
     clear hok hno HU
     obtain ⟨u0, u1, u2, u3⟩ := u
     simp only at c0 c1 c2 c3 hbad
     have hcase : u0 < 1 ∨ (1 ≤ u0 ∧ 4 < u0) ∨ (1 ≤ u0 ∧ u0 ≤ 4 ∧ u1 < 0) ∨ (1 ≤ u0 ∧ u0 ≤ 4 ∧ 0 ≤ u1 ∧ 3 ≤ u1) ∨ (1 ≤ u0 ∧ u0 ≤ 4 ∧ 0 ≤ u1 ∧ u1 < 3 ∧ u2 < 0) ∨ (1 ≤ u0 ∧ u0 ≤ 4 ∧ 0 ≤ u1 ∧ u1 < 3 ∧ 0 ≤ u2 ∧ 4 ≤ u2) := by omega
     clear hbad
     rcases hcase with p | ⟨p, p'⟩ | ⟨p, p', p2⟩ | ⟨p, p', p2, p3⟩ | ⟨p, p', p2, p3, p4⟩ | ⟨p, p', p2, p3, p4, p5⟩
     all_goals
      go_wp2
      go_ret
      exact ⟨ret_bool HRF.out.symm, hbel.out.alloc hbel.out.size _⟩
   ·have HRT := Lib.hid (show R = true by
     have := hg.out
     rw [List.take_of_length_le (by rw [N1.out]; omega)] at this
     rw [HR.out]
     simp only [okUps, this, Bool.and_true, decide_eq_true_eq, N1.out]
     exact h5)
    go_wp2
    go_ret
    exact ⟨ret_bool HRT.out.symm, hbel.out⟩
 ·have HRF := Lib.hid (show R = false by
   rw [HR.out]
   simp only [okUps, Bool.and_eq_false_iff, decide_eq_false_iff_not, N1.out]
   exact .inl h5)
  go_enter Tryz.func111, Tryz.ntmps111
  go_wp2
  go_ret
  exact ⟨ret_bool HRF.out.symm, Below.refl _ _⟩
theorem ups_nil (a : Option Addr) (cap : Nat) (w : World) :
  Calls Tryz.prog 111 #[.slice a 0 cap] w fun e w' => e = .returned (.bool (okUps [])) ∧ Below w.heap.size w w' := by
 go_enter Tryz.func111, Tryz.ntmps111
 go_wp2
 go_loop [3] (fun i => i = .int .i64 0) (fun _ => 0)
 case atStart => rfl
 case round =>
  obtain rfl := hrel
  go_wp2
  go_ret
  exact ⟨rfl, Below.refl _ _⟩
theorem ups_any (v : Value) (ups : List UpM) (w : World) (h : Ups w v ups) :
  Calls Tryz.prog 111 #[v] w fun e w' => e = .returned (.bool (okUps ups)) ∧ Below w.heap.size w w' := by
 have hm := ups_max h
 rcases h with ⟨a, cap, rfl, rfl⟩ | ⟨b, off, cap, rfl, h1, h2, h3, h4⟩
 ·exact ups_nil _ _ w
 ·exact ups_some b off cap _ ups w rfl hm h1 h4
end Go.Proofs.YtghgiefciijoeaaGreatDoor
namespace Go.Proofs.YtghgiefciijoeaaGreatDoor
open Go.RowKit
set_option linter.unusedVariables false
set_option maxHeartbeats 1000000 in
set_option maxRecDepth 100000 in
theorem fields1 (r n actor kind to bucket mask gr gn : Int) (dep : List Int) (ups : List UpM) (vd : Value) (ua : Option Addr) (ul uc m : Nat) (w : World) (hn : dep.length = m) (hm4 : m ≤ 4) (hul : ups.length = ul) (hum : ul ≤ 9223372036854775807) :
  Calls Tryz.prog 86 #[.agg #[.int .i64 r, .int .i64 n, vd, .int .i64 actor, .int .i64 1, .int .i64 to, .int .i64 bucket, .int .i64 mask, .int .i64 gr, .int .i64 gn, .slice ua ul uc], .int .i64 m] w fun e w' => e = .returned (.bool (fieldsM ⟨r, n, dep, actor, 1, to, bucket, mask, gr, gn, ups⟩ m)) ∧ Below w.heap.size w w' := by
 have bb := Lib.hid ((Below.refl w.heap.size w).alloc (Nat.le_refl _) (.cells #[.int .i64 r, .int .i64 n, vd, .int .i64 actor, .int .i64 1, .int .i64 to, .int .i64 bucket, .int .i64 mask, .int .i64 gr, .int .i64 gn, .slice ua ul uc] 32))
 obtain ⟨R, hR⟩ : ∃ R, R = fieldsM ⟨r, n, dep, actor, 1, to, bucket, mask, gr, gn, ups⟩ m := ⟨_, rfl⟩
 rw [← hR]
 simp only [fieldsM, if_true, hul] at hR
 have MK := Lib.hid (fun w => mask_any r n actor 1 to bucket mask gr gn dep ups vd (.slice ua ul uc) w)
 obtain ⟨M, hM⟩ : ∃ M, M = maskM ⟨r, n, dep, actor, 1, to, bucket, mask, gr, gn, ups⟩ := ⟨_, rfl⟩
 rw [← hM] at hR MK
 clear hM
 by_cases q0 : 0 ≤ to
 ·have d0 : decide (0 ≤ to) = true := by simp; try omega
  by_cases q1 : to < 6
  ·have d1 : decide (to < 6) = true := by simp; try omega
   cases M
   ·have HR := Lib.hid (show R = false by rw [hR]; simp [*])
    clear hR q0 q1
    go_enter Tryz.func86, Tryz.ntmps86
    go_wp2_with fail
    refine (MK.out _).mono ?_
    rintro e w1 ⟨rfl, b1⟩
    have k1 := ((Blk.new w #[.int .i64 r, .int .i64 n, vd, .int .i64 actor, .int .i64 1, .int .i64 to, .int .i64 bucket, .int .i64 mask, .int .i64 gr, .int .i64 gn, .slice ua ul uc] 32).below b1 (by simp)).cell
    have B1 := Lib.hid (bb.out.trans (b1.mono bb.out.size))
    clear b1
    go_wp2
    go_ret
    exact ⟨ret_bool HR.out.symm, B1.out⟩
   ·skip
    by_cases q3 : gr = 0
    ·have d3 : (gr == 0) = true := by simp; try omega
     by_cases q4 : gn = 0
     ·have d4 : (gn == 0) = true := by simp; try omega
      by_cases q5 : ul = 0
      ·have d5 : ((ul : Int) == 0) = true := by simp; try omega
       have HR := Lib.hid (show R = true by rw [hR]; simp [*])
       clear hR q0 q1 q3 q4 q5
       go_enter Tryz.func86, Tryz.ntmps86
       go_wp2_with fail
       refine (MK.out _).mono ?_
       rintro e w1 ⟨rfl, b1⟩
       have k1 := ((Blk.new w #[.int .i64 r, .int .i64 n, vd, .int .i64 actor, .int .i64 1, .int .i64 to, .int .i64 bucket, .int .i64 mask, .int .i64 gr, .int .i64 gn, .slice ua ul uc] 32).below b1 (by simp)).cell
       have B1 := Lib.hid (bb.out.trans (b1.mono bb.out.size))
       clear b1
       go_wp2
       go_ret
       exact ⟨ret_bool HR.out.symm, B1.out⟩
      ·have d5 : ((ul : Int) == 0) = false := by simp; try omega
       have HR := Lib.hid (show R = false by rw [hR]; simp [*])
       clear hR q0 q1 q3 q4 q5
       go_enter Tryz.func86, Tryz.ntmps86
       go_wp2_with fail
       refine (MK.out _).mono ?_
       rintro e w1 ⟨rfl, b1⟩
       have k1 := ((Blk.new w #[.int .i64 r, .int .i64 n, vd, .int .i64 actor, .int .i64 1, .int .i64 to, .int .i64 bucket, .int .i64 mask, .int .i64 gr, .int .i64 gn, .slice ua ul uc] 32).below b1 (by simp)).cell
       have B1 := Lib.hid (bb.out.trans (b1.mono bb.out.size))
       clear b1
       go_wp2
       go_ret
       exact ⟨ret_bool HR.out.symm, B1.out⟩
     ·have d4 : (gn == 0) = false := by simp; try omega
      have HR := Lib.hid (show R = false by rw [hR]; simp [*])
      clear hR q0 q1 q3 q4
      go_enter Tryz.func86, Tryz.ntmps86
      go_wp2_with fail
      refine (MK.out _).mono ?_
      rintro e w1 ⟨rfl, b1⟩
      have k1 := ((Blk.new w #[.int .i64 r, .int .i64 n, vd, .int .i64 actor, .int .i64 1, .int .i64 to, .int .i64 bucket, .int .i64 mask, .int .i64 gr, .int .i64 gn, .slice ua ul uc] 32).below b1 (by simp)).cell
      have B1 := Lib.hid (bb.out.trans (b1.mono bb.out.size))
      clear b1
      go_wp2
      go_ret
      exact ⟨ret_bool HR.out.symm, B1.out⟩
    ·have d3 : (gr == 0) = false := by simp; try omega
     have HR := Lib.hid (show R = false by rw [hR]; simp [*])
     clear hR q0 q1 q3
     go_enter Tryz.func86, Tryz.ntmps86
     go_wp2_with fail
     refine (MK.out _).mono ?_
     rintro e w1 ⟨rfl, b1⟩
     have k1 := ((Blk.new w #[.int .i64 r, .int .i64 n, vd, .int .i64 actor, .int .i64 1, .int .i64 to, .int .i64 bucket, .int .i64 mask, .int .i64 gr, .int .i64 gn, .slice ua ul uc] 32).below b1 (by simp)).cell
     have B1 := Lib.hid (bb.out.trans (b1.mono bb.out.size))
     clear b1
     go_wp2
     go_ret
     exact ⟨ret_bool HR.out.symm, B1.out⟩
  ·have d1 : decide (to < 6) = false := by simp; try omega
   have HR := Lib.hid (show R = false by rw [hR]; simp [*])
   clear hR q0 q1
   go_enter Tryz.func86, Tryz.ntmps86
   go_wp2
   go_ret
   exact ⟨ret_bool HR.out.symm, bb.out⟩
 ·have d0 : decide (0 ≤ to) = false := by simp; try omega
  have HR := Lib.hid (show R = false by rw [hR]; simp [*])
  clear hR q0
  go_enter Tryz.func86, Tryz.ntmps86
  go_wp2
  go_ret
  exact ⟨ret_bool HR.out.symm, bb.out⟩
set_option maxHeartbeats 1000000 in
set_option maxRecDepth 100000 in
theorem fields3 (r n actor kind to bucket mask gr gn : Int) (dep : List Int) (ups : List UpM) (vd : Value) (ua : Option Addr) (ul uc m : Nat) (w : World) (hn : dep.length = m) (hm4 : m ≤ 4) (hul : ups.length = ul) (hum : ul ≤ 9223372036854775807) :
  Calls Tryz.prog 86 #[.agg #[.int .i64 r, .int .i64 n, vd, .int .i64 actor, .int .i64 3, .int .i64 to, .int .i64 bucket, .int .i64 mask, .int .i64 gr, .int .i64 gn, .slice ua ul uc], .int .i64 m] w fun e w' => e = .returned (.bool (fieldsM ⟨r, n, dep, actor, 3, to, bucket, mask, gr, gn, ups⟩ m)) ∧ Below w.heap.size w w' := by
 have bb := Lib.hid ((Below.refl w.heap.size w).alloc (Nat.le_refl _) (.cells #[.int .i64 r, .int .i64 n, vd, .int .i64 actor, .int .i64 3, .int .i64 to, .int .i64 bucket, .int .i64 mask, .int .i64 gr, .int .i64 gn, .slice ua ul uc] 32))
 obtain ⟨R, hR⟩ : ∃ R, R = fieldsM ⟨r, n, dep, actor, 3, to, bucket, mask, gr, gn, ups⟩ m := ⟨_, rfl⟩
 rw [← hR]
 simp only [fieldsM, show ¬ (3 : Int) = 1 by decide, show ¬ (3 : Int) = 2 by decide, if_false, if_true, hul] at hR
 have MK := Lib.hid (fun w => mask_any r n actor 3 to bucket mask gr gn dep ups vd (.slice ua ul uc) w)
 obtain ⟨M, hM⟩ : ∃ M, M = maskM ⟨r, n, dep, actor, 3, to, bucket, mask, gr, gn, ups⟩ := ⟨_, rfl⟩
 rw [← hM] at hR MK
 clear hM
 cases M
 ·have HR := Lib.hid (show R = false by rw [hR]; simp [*])
  clear hR 
  go_enter Tryz.func86, Tryz.ntmps86
  go_wp2_with fail
  refine (MK.out _).mono ?_
  rintro e w1 ⟨rfl, b1⟩
  have k1 := ((Blk.new w #[.int .i64 r, .int .i64 n, vd, .int .i64 actor, .int .i64 3, .int .i64 to, .int .i64 bucket, .int .i64 mask, .int .i64 gr, .int .i64 gn, .slice ua ul uc] 32).below b1 (by simp)).cell
  have B1 := Lib.hid (bb.out.trans (b1.mono bb.out.size))
  clear b1
  go_wp2
  go_ret
  exact ⟨ret_bool HR.out.symm, B1.out⟩
 ·skip
  by_cases q1 : to = 0
  ·have d1 : (to == 0) = true := by simp; try omega
   by_cases q2 : gr = 0
   ·have d2 : (gr == 0) = true := by simp; try omega
    by_cases q3 : gn = 0
    ·have d3 : (gn == 0) = true := by simp; try omega
     by_cases q4 : ul = 0
     ·have d4 : ((ul : Int) == 0) = true := by simp; try omega
      have HR := Lib.hid (show R = true by rw [hR]; simp [*])
      clear hR q1 q2 q3 q4
      go_enter Tryz.func86, Tryz.ntmps86
      go_wp2_with fail
      refine (MK.out _).mono ?_
      rintro e w1 ⟨rfl, b1⟩
      have k1 := ((Blk.new w #[.int .i64 r, .int .i64 n, vd, .int .i64 actor, .int .i64 3, .int .i64 to, .int .i64 bucket, .int .i64 mask, .int .i64 gr, .int .i64 gn, .slice ua ul uc] 32).below b1 (by simp)).cell
      have B1 := Lib.hid (bb.out.trans (b1.mono bb.out.size))
      clear b1
      go_wp2
      go_ret
      exact ⟨ret_bool HR.out.symm, B1.out⟩
     ·have d4 : ((ul : Int) == 0) = false := by simp; try omega
      have HR := Lib.hid (show R = false by rw [hR]; simp [*])
      clear hR q1 q2 q3 q4
      go_enter Tryz.func86, Tryz.ntmps86
      go_wp2_with fail
      refine (MK.out _).mono ?_
      rintro e w1 ⟨rfl, b1⟩
      have k1 := ((Blk.new w #[.int .i64 r, .int .i64 n, vd, .int .i64 actor, .int .i64 3, .int .i64 to, .int .i64 bucket, .int .i64 mask, .int .i64 gr, .int .i64 gn, .slice ua ul uc] 32).below b1 (by simp)).cell
      have B1 := Lib.hid (bb.out.trans (b1.mono bb.out.size))
      clear b1
      go_wp2
      go_ret
      exact ⟨ret_bool HR.out.symm, B1.out⟩
    ·have d3 : (gn == 0) = false := by simp; try omega
     have HR := Lib.hid (show R = false by rw [hR]; simp [*])
     clear hR q1 q2 q3
     go_enter Tryz.func86, Tryz.ntmps86
     go_wp2_with fail
     refine (MK.out _).mono ?_
     rintro e w1 ⟨rfl, b1⟩
     have k1 := ((Blk.new w #[.int .i64 r, .int .i64 n, vd, .int .i64 actor, .int .i64 3, .int .i64 to, .int .i64 bucket, .int .i64 mask, .int .i64 gr, .int .i64 gn, .slice ua ul uc] 32).below b1 (by simp)).cell
     have B1 := Lib.hid (bb.out.trans (b1.mono bb.out.size))
     clear b1
     go_wp2
     go_ret
     exact ⟨ret_bool HR.out.symm, B1.out⟩
   ·have d2 : (gr == 0) = false := by simp; try omega
    have HR := Lib.hid (show R = false by rw [hR]; simp [*])
    clear hR q1 q2
    go_enter Tryz.func86, Tryz.ntmps86
    go_wp2_with fail
    refine (MK.out _).mono ?_
    rintro e w1 ⟨rfl, b1⟩
    have k1 := ((Blk.new w #[.int .i64 r, .int .i64 n, vd, .int .i64 actor, .int .i64 3, .int .i64 to, .int .i64 bucket, .int .i64 mask, .int .i64 gr, .int .i64 gn, .slice ua ul uc] 32).below b1 (by simp)).cell
    have B1 := Lib.hid (bb.out.trans (b1.mono bb.out.size))
    clear b1
    go_wp2
    go_ret
    exact ⟨ret_bool HR.out.symm, B1.out⟩
  ·have d1 : (to == 0) = false := by simp; try omega
   have HR := Lib.hid (show R = false by rw [hR]; simp [*])
   clear hR q1
   go_enter Tryz.func86, Tryz.ntmps86
   go_wp2_with fail
   refine (MK.out _).mono ?_
   rintro e w1 ⟨rfl, b1⟩
   have k1 := ((Blk.new w #[.int .i64 r, .int .i64 n, vd, .int .i64 actor, .int .i64 3, .int .i64 to, .int .i64 bucket, .int .i64 mask, .int .i64 gr, .int .i64 gn, .slice ua ul uc] 32).below b1 (by simp)).cell
   have B1 := Lib.hid (bb.out.trans (b1.mono bb.out.size))
   clear b1
   go_wp2
   go_ret
   exact ⟨ret_bool HR.out.symm, B1.out⟩
set_option maxHeartbeats 1000000 in
set_option maxRecDepth 100000 in
theorem fields4 (r n actor kind to bucket mask gr gn : Int) (dep : List Int) (ups : List UpM) (vd : Value) (ua : Option Addr) (ul uc m : Nat) (w : World) (hn : dep.length = m) (hm4 : m ≤ 4) (hul : ups.length = ul) (hum : ul ≤ 9223372036854775807) (hs : Ups w (.slice ua ul uc) ups) :
  Calls Tryz.prog 86 #[.agg #[.int .i64 r, .int .i64 n, vd, .int .i64 actor, .int .i64 4, .int .i64 to, .int .i64 bucket, .int .i64 mask, .int .i64 gr, .int .i64 gn, .slice ua ul uc], .int .i64 m] w fun e w' => e = .returned (.bool (fieldsM ⟨r, n, dep, actor, 4, to, bucket, mask, gr, gn, ups⟩ m)) ∧ Below w.heap.size w w' := by
 have bb := Lib.hid ((Below.refl w.heap.size w).alloc (Nat.le_refl _) (.cells #[.int .i64 r, .int .i64 n, vd, .int .i64 actor, .int .i64 4, .int .i64 to, .int .i64 bucket, .int .i64 mask, .int .i64 gr, .int .i64 gn, .slice ua ul uc] 32))
 obtain ⟨R, hR⟩ : ∃ R, R = fieldsM ⟨r, n, dep, actor, 4, to, bucket, mask, gr, gn, ups⟩ m := ⟨_, rfl⟩
 rw [← hR]
 simp only [fieldsM, show ¬ (4 : Int) = 1 by decide, show ¬ (4 : Int) = 2 by decide, show ¬ (4 : Int) = 3 by decide, if_false, if_true, hul] at hR
 have US := Lib.hid (fun w h => ups_any (.slice ua ul uc) ups w h)
 have HSu := Lib.hid hs
 obtain ⟨M, hM⟩ : ∃ M, M = okUps ups := ⟨_, rfl⟩
 rw [← hM] at hR US
 clear hM hs
 cases M
 ·have HR := Lib.hid (show R = false by rw [hR]; simp [*])
  clear hR 
  go_enter Tryz.func86, Tryz.ntmps86
  go_wp2_with fail
  refine (US.out _ (HSu.out.below bb.out)).mono ?_
  rintro e w1 ⟨rfl, b1⟩
  have k1 := ((Blk.new w #[.int .i64 r, .int .i64 n, vd, .int .i64 actor, .int .i64 4, .int .i64 to, .int .i64 bucket, .int .i64 mask, .int .i64 gr, .int .i64 gn, .slice ua ul uc] 32).below b1 (by simp)).cell
  have B1 := Lib.hid (bb.out.trans (b1.mono bb.out.size))
  clear b1
  go_wp2
  go_ret
  exact ⟨ret_bool HR.out.symm, B1.out⟩
 ·skip
  by_cases q1 : to = 0
  ·have d1 : (to == 0) = true := by simp; try omega
   by_cases q2 : bucket = 0
   ·have d2 : (bucket == 0) = true := by simp; try omega
    by_cases q3 : mask = 0
    ·have d3 : (mask == 0) = true := by simp; try omega
     by_cases q4 : gr = 0
     ·have d4 : (gr == 0) = true := by simp; try omega
      by_cases q5 : gn = 0
      ·have d5 : (gn == 0) = true := by simp; try omega
       have HR := Lib.hid (show R = true by rw [hR]; simp [*])
       clear hR q1 q2 q3 q4 q5
       go_enter Tryz.func86, Tryz.ntmps86
       go_wp2_with fail
       refine (US.out _ (HSu.out.below bb.out)).mono ?_
       rintro e w1 ⟨rfl, b1⟩
       have k1 := ((Blk.new w #[.int .i64 r, .int .i64 n, vd, .int .i64 actor, .int .i64 4, .int .i64 to, .int .i64 bucket, .int .i64 mask, .int .i64 gr, .int .i64 gn, .slice ua ul uc] 32).below b1 (by simp)).cell
       have B1 := Lib.hid (bb.out.trans (b1.mono bb.out.size))
       clear b1
       go_wp2
       go_ret
       exact ⟨ret_bool HR.out.symm, B1.out⟩
      ·have d5 : (gn == 0) = false := by simp; try omega
       have HR := Lib.hid (show R = false by rw [hR]; simp [*])
       clear hR q1 q2 q3 q4 q5
       go_enter Tryz.func86, Tryz.ntmps86
       go_wp2_with fail
       refine (US.out _ (HSu.out.below bb.out)).mono ?_
       rintro e w1 ⟨rfl, b1⟩
       have k1 := ((Blk.new w #[.int .i64 r, .int .i64 n, vd, .int .i64 actor, .int .i64 4, .int .i64 to, .int .i64 bucket, .int .i64 mask, .int .i64 gr, .int .i64 gn, .slice ua ul uc] 32).below b1 (by simp)).cell
       have B1 := Lib.hid (bb.out.trans (b1.mono bb.out.size))
       clear b1
       go_wp2
       go_ret
       exact ⟨ret_bool HR.out.symm, B1.out⟩
     ·have d4 : (gr == 0) = false := by simp; try omega
      have HR := Lib.hid (show R = false by rw [hR]; simp [*])
      clear hR q1 q2 q3 q4
      go_enter Tryz.func86, Tryz.ntmps86
      go_wp2_with fail
      refine (US.out _ (HSu.out.below bb.out)).mono ?_
      rintro e w1 ⟨rfl, b1⟩
      have k1 := ((Blk.new w #[.int .i64 r, .int .i64 n, vd, .int .i64 actor, .int .i64 4, .int .i64 to, .int .i64 bucket, .int .i64 mask, .int .i64 gr, .int .i64 gn, .slice ua ul uc] 32).below b1 (by simp)).cell
      have B1 := Lib.hid (bb.out.trans (b1.mono bb.out.size))
      clear b1
      go_wp2
      go_ret
      exact ⟨ret_bool HR.out.symm, B1.out⟩
    ·have d3 : (mask == 0) = false := by simp; try omega
     have HR := Lib.hid (show R = false by rw [hR]; simp [*])
     clear hR q1 q2 q3
     go_enter Tryz.func86, Tryz.ntmps86
     go_wp2_with fail
     refine (US.out _ (HSu.out.below bb.out)).mono ?_
     rintro e w1 ⟨rfl, b1⟩
     have k1 := ((Blk.new w #[.int .i64 r, .int .i64 n, vd, .int .i64 actor, .int .i64 4, .int .i64 to, .int .i64 bucket, .int .i64 mask, .int .i64 gr, .int .i64 gn, .slice ua ul uc] 32).below b1 (by simp)).cell
     have B1 := Lib.hid (bb.out.trans (b1.mono bb.out.size))
     clear b1
     go_wp2
     go_ret
     exact ⟨ret_bool HR.out.symm, B1.out⟩
   ·have d2 : (bucket == 0) = false := by simp; try omega
    have HR := Lib.hid (show R = false by rw [hR]; simp [*])
    clear hR q1 q2
    go_enter Tryz.func86, Tryz.ntmps86
    go_wp2_with fail
    refine (US.out _ (HSu.out.below bb.out)).mono ?_
    rintro e w1 ⟨rfl, b1⟩
    have k1 := ((Blk.new w #[.int .i64 r, .int .i64 n, vd, .int .i64 actor, .int .i64 4, .int .i64 to, .int .i64 bucket, .int .i64 mask, .int .i64 gr, .int .i64 gn, .slice ua ul uc] 32).below b1 (by simp)).cell
    have B1 := Lib.hid (bb.out.trans (b1.mono bb.out.size))
    clear b1
    go_wp2
    go_ret
    exact ⟨ret_bool HR.out.symm, B1.out⟩
  ·have d1 : (to == 0) = false := by simp; try omega
   have HR := Lib.hid (show R = false by rw [hR]; simp [*])
   clear hR q1
   go_enter Tryz.func86, Tryz.ntmps86
   go_wp2_with fail
   refine (US.out _ (HSu.out.below bb.out)).mono ?_
   rintro e w1 ⟨rfl, b1⟩
   have k1 := ((Blk.new w #[.int .i64 r, .int .i64 n, vd, .int .i64 actor, .int .i64 4, .int .i64 to, .int .i64 bucket, .int .i64 mask, .int .i64 gr, .int .i64 gn, .slice ua ul uc] 32).below b1 (by simp)).cell
   have B1 := Lib.hid (bb.out.trans (b1.mono bb.out.size))
   clear b1
   go_wp2
   go_ret
   exact ⟨ret_bool HR.out.symm, B1.out⟩
set_option maxHeartbeats 1000000 in
set_option maxRecDepth 100000 in
theorem fields2 (r n actor kind to bucket mask gr gn : Int) (dep : List Int) (ups : List UpM) (vd : Value) (ua : Option Addr) (ul uc m : Nat) (w : World) (hn : dep.length = m) (hm4 : m ≤ 4) (hul : ups.length = ul) (hum : ul ≤ 9223372036854775807) (hd : Ints w vd dep) :
  Calls Tryz.prog 86 #[.agg #[.int .i64 r, .int .i64 n, vd, .int .i64 actor, .int .i64 2, .int .i64 to, .int .i64 bucket, .int .i64 mask, .int .i64 gr, .int .i64 gn, .slice ua ul uc], .int .i64 m] w fun e w' => e = .returned (.bool (fieldsM ⟨r, n, dep, actor, 2, to, bucket, mask, gr, gn, ups⟩ m)) ∧ Below w.heap.size w w' := by
 have bb := Lib.hid ((Below.refl w.heap.size w).alloc (Nat.le_refl _) (.cells #[.int .i64 r, .int .i64 n, vd, .int .i64 actor, .int .i64 2, .int .i64 to, .int .i64 bucket, .int .i64 mask, .int .i64 gr, .int .i64 gn, .slice ua ul uc] 32))
 obtain ⟨R, hR⟩ : ∃ R, R = fieldsM ⟨r, n, dep, actor, 2, to, bucket, mask, gr, gn, ups⟩ m := ⟨_, rfl⟩
 rw [← hR]
 simp only [fieldsM, show ¬ (2 : Int) = 1 by decide, if_false, if_true, hul] at hR
 have HD := Lib.hid hd
 clear hd
 by_cases q0 : 0 ≤ gr
 ·have d0 : decide (0 ≤ gr) = true := by simp; try omega
  by_cases q1 : gr < (m : Int)
  ·have d1 : decide (gr < (m : Int)) = true := by simp; try omega
   by_cases q2 : 1 ≤ gn
   ·have d2 : decide (1 ≤ gn) = true := by simp; try omega
    obtain ⟨g, rfl⟩ := Int.eq_ofNat_of_zero_le q0
    have hg : g < dep.length := by omega
    have j0 : (0 : Int) ≤ g := by omega
    have j1 : (g : Int) < m := by omega
    simp only [Int.toNat_natCast] at hR
    obtain ⟨bD, oD, cD, hvd, hbD, hcD⟩ : ∃ bD oD cD, vd = .slice (some ⟨bD, oD, none⟩) m cD ∧ bD < w.heap.size ∧ w.cell? ⟨bD, oD + g, none⟩ = some (.int .i64 (dep.getD g 0)) := by
     rcases HD.out with ⟨a', c', _, e0⟩ | ⟨bD, oD, cD, hv, h1, _, _, h4⟩
     ·rw [e0] at hg; simp at hg
     ·exact ⟨bD, oD, cD, by rw [← hn]; exact hv, h1, h4 g hg⟩
    subst hvd
    clear HD
    obtain ⟨x, hx⟩ : ∃ x, dep.getD g 0 = x := ⟨_, rfl⟩
    simp only [hx] at hcD hR
    have HX := Lib.hid hx
    clear hx
    by_cases q3 : gn ≤ x
    ·have d3 : decide (gn ≤ x) = true := by simp; try omega
     by_cases q4 : to = 0
     ·have d4 : (to == 0) = true := by simp; try omega
      by_cases q5 : bucket = 0
      ·have d5 : (bucket == 0) = true := by simp; try omega
       by_cases q6 : mask = 0
       ·have d6 : (mask == 0) = true := by simp; try omega
        by_cases q7 : ul = 0
        ·have d7 : ((ul : Int) == 0) = true := by simp; try omega
         have HR := Lib.hid (show R = true by rw [hR]; simp [*])
         clear hR q0 q1 q2 q3 q4 q5 q6 q7
         go_enter Tryz.func86, Tryz.ntmps86
         go_wp2
         go_quiet (fail)
         go_wp2
         go_ret
         exact ⟨ret_bool HR.out.symm, (below_drewN bb.out _)⟩
        ·have d7 : ((ul : Int) == 0) = false := by simp; try omega
         have HR := Lib.hid (show R = false by rw [hR]; simp [*])
         clear hR q0 q1 q2 q3 q4 q5 q6 q7
         go_enter Tryz.func86, Tryz.ntmps86
         go_wp2
         go_quiet (fail)
         go_wp2
         go_ret
         exact ⟨ret_bool HR.out.symm, (below_drewN bb.out _)⟩
       ·have d6 : (mask == 0) = false := by simp; try omega
        have HR := Lib.hid (show R = false by rw [hR]; simp [*])
        clear hR q0 q1 q2 q3 q4 q5 q6
        go_enter Tryz.func86, Tryz.ntmps86
        go_wp2
        go_quiet (fail)
        go_wp2
        go_ret
        exact ⟨ret_bool HR.out.symm, (below_drewN bb.out _)⟩
      ·have d5 : (bucket == 0) = false := by simp; try omega
       have HR := Lib.hid (show R = false by rw [hR]; simp [*])
       clear hR q0 q1 q2 q3 q4 q5
       go_enter Tryz.func86, Tryz.ntmps86
       go_wp2
       go_quiet (fail)
       go_wp2
       go_ret
       exact ⟨ret_bool HR.out.symm, (below_drewN bb.out _)⟩
     ·have d4 : (to == 0) = false := by simp; try omega
      have HR := Lib.hid (show R = false by rw [hR]; simp [*])
      clear hR q0 q1 q2 q3 q4
      go_enter Tryz.func86, Tryz.ntmps86
      go_wp2
      go_quiet (fail)
      go_wp2
      go_ret
      exact ⟨ret_bool HR.out.symm, (below_drewN bb.out _)⟩
    ·have d3 : decide (gn ≤ x) = false := by simp; try omega
     have HR := Lib.hid (show R = false by rw [hR]; simp [*])
     clear hR q0 q1 q2 q3
     go_enter Tryz.func86, Tryz.ntmps86
     go_wp2
     go_quiet (fail)
     go_wp2
     go_ret
     exact ⟨ret_bool HR.out.symm, (below_drewN bb.out _)⟩
   ·have d2 : decide (1 ≤ gn) = false := by simp; try omega
    have HR := Lib.hid (show R = false by rw [hR]; simp [*])
    clear hR q0 q1 q2
    go_enter Tryz.func86, Tryz.ntmps86
    go_wp2
    go_quiet (fail)
    go_wp2
    go_ret
    exact ⟨ret_bool HR.out.symm, (below_drewN bb.out _)⟩
  ·have d1 : decide (gr < (m : Int)) = false := by simp; try omega
   have HR := Lib.hid (show R = false by rw [hR]; simp [*])
   clear hR q0 q1
   go_enter Tryz.func86, Tryz.ntmps86
   go_wp2
   go_quiet (fail)
   go_wp2
   go_ret
   exact ⟨ret_bool HR.out.symm, (below_drewN bb.out _)⟩
 ·have d0 : decide (0 ≤ gr) = false := by simp; try omega
  have HR := Lib.hid (show R = false by rw [hR]; simp [*])
  clear hR q0
  go_enter Tryz.func86, Tryz.ntmps86
  go_wp2
  go_quiet (fail)
  go_wp2
  go_ret
  exact ⟨ret_bool HR.out.symm, (below_drewN bb.out _)⟩
end Go.Proofs.YtghgiefciijoeaaGreatDoor
namespace Go.Proofs.YtghgiefciijoeaaGreatDoor
open Go.RowKit
set_option linter.unusedVariables false
set_option maxHeartbeats 1000000 in
set_option maxRecDepth 100000 in
theorem fieldsX (r n actor kind to bucket mask gr gn : Int) (dep : List Int) (ups : List UpM) (vd : Value) (ua : Option Addr) (ul uc : Nat) (p : Int) (w : World) (h1 : kind ≠ 1) (h2 : kind ≠ 2) (h3 : kind ≠ 3) (h4 : kind ≠ 4) :
  Calls Tryz.prog 86 #[.agg #[.int .i64 r, .int .i64 n, vd, .int .i64 actor, .int .i64 kind, .int .i64 to, .int .i64 bucket, .int .i64 mask, .int .i64 gr, .int .i64 gn, .slice ua ul uc], .int .i64 p] w fun e w' => e = .returned (.bool false) ∧ Below w.heap.size w w' := by
 have bb := Lib.hid ((Below.refl w.heap.size w).alloc (Nat.le_refl _) (.cells #[.int .i64 r, .int .i64 n, vd, .int .i64 actor, .int .i64 kind, .int .i64 to, .int .i64 bucket, .int .i64 mask, .int .i64 gr, .int .i64 gn, .slice ua ul uc] 32))
 have e1 : (kind == 1) = false := by simpa using h1
 have e2 : (kind == 2) = false := by simpa using h2
 have e3 : (kind == 3) = false := by simpa using h3
 have e4 : (kind == 4) = false := by simpa using h4
 clear h1 h2 h3 h4
 go_enter Tryz.func86, Tryz.ntmps86
 go_wp2
 go_ret
 exact ⟨rfl, bb.out⟩
theorem fields_any (r n actor kind to bucket mask gr gn : Int) (dep : List Int) (ups : List UpM) (vd : Value) (ua : Option Addr) (ul uc m : Nat) (w : World) (hn : dep.length = m) (hm4 : m ≤ 4) (hul : ups.length = ul) (hum : ul ≤ 9223372036854775807) (hd : Ints w vd dep) (hs : Ups w (.slice ua ul uc) ups) :
  Calls Tryz.prog 86 #[.agg #[.int .i64 r, .int .i64 n, vd, .int .i64 actor, .int .i64 kind, .int .i64 to, .int .i64 bucket, .int .i64 mask, .int .i64 gr, .int .i64 gn, .slice ua ul uc], .int .i64 m] w fun e w' => e = .returned (.bool (fieldsM ⟨r, n, dep, actor, kind, to, bucket, mask, gr, gn, ups⟩ m)) ∧ Below w.heap.size w w' := by
 by_cases k1 : kind = 1
 ·subst k1; exact fields1 r n actor 0 to bucket mask gr gn dep ups vd ua ul uc m w hn hm4 hul hum
 ·by_cases k2 : kind = 2
  ·subst k2; exact fields2 r n actor 0 to bucket mask gr gn dep ups vd ua ul uc m w hn hm4 hul hum hd
  ·by_cases k3 : kind = 3
   ·subst k3; exact fields3 r n actor 0 to bucket mask gr gn dep ups vd ua ul uc m w hn hm4 hul hum
   ·by_cases k4 : kind = 4
    ·subst k4; exact fields4 r n actor 0 to bucket mask gr gn dep ups vd ua ul uc m w hn hm4 hul hum hs
    ·have e : fieldsM ⟨r, n, dep, actor, kind, to, bucket, mask, gr, gn, ups⟩ m = false := by simp only [fieldsM, k1, k2, k3, k4, if_false]
     rw [e]
     exact fieldsX r n actor kind to bucket mask gr gn dep ups vd ua ul uc m w k1 k2 k3 k4
set_option maxHeartbeats 3200000 in
set_option maxRecDepth 100000 in
theorem specActOk_in (r n actor kind to bucket mask gr gn : Int) (dep : List Int) (ups : List UpM) (vd : Value) (ua : Option Addr) (ul uc : Nat) (p : Int) (w : World) (hul : ups.length = ul) (hum : ul ≤ 9223372036854775807) (hd : Ints w vd dep) (hs : Ups w (.slice ua ul uc) ups) :
  Calls Tryz.prog 45 #[.agg #[.int .i64 r, .int .i64 n, vd, .int .i64 actor, .int .i64 kind, .int .i64 to, .int .i64 bucket, .int .i64 mask, .int .i64 gr, .int .i64 gn, .slice ua ul uc], .int .i64 p] w fun e w' => e = .returned (.bool (actOkM ⟨r, n, dep, actor, kind, to, bucket, mask, gr, gn, ups⟩ p)) ∧ Below w.heap.size w w' := by
 have bb := Lib.hid ((Below.refl w.heap.size w).alloc (Nat.le_refl _) (.cells #[.int .i64 r, .int .i64 n, vd, .int .i64 actor, .int .i64 kind, .int .i64 to, .int .i64 bucket, .int .i64 mask, .int .i64 gr, .int .i64 gn, .slice ua ul uc] 32))
 obtain ⟨R, hR⟩ : ∃ R, R = actOkM ⟨r, n, dep, actor, kind, to, bucket, mask, gr, gn, ups⟩ p := ⟨_, rfl⟩
 rw [← hR]
 simp only [actOkM] at hR
 have HD := Lib.hid hd
 have HS := Lib.hid hs
 have CK := Lib.hid (specOk_any vd dep _ (hd.below (B := 0) bb.out))
 have CQ := Lib.hid (fun q => specOk_any vd dep _ (ints_drewN (hd.below (B := 0) bb.out) q))
 have hdl := ints_max hd
 obtain ⟨da, dc, hvd⟩ := ints_len hd
 clear hd hs
 by_cases q0 : 1 ≤ p
 ·have d0 : decide (p < 1) = false := by simp; try omega
  by_cases q1 : p ≤ 4
  ·have d1 : decide (4 < p) = false := by simp; try omega
   by_cases q2 : 0 ≤ r
   ·have d2 : decide (r < 0) = false := by simp; try omega
    by_cases q3 : r < p
    ·have d3 : decide (p ≤ r) = false := by simp; try omega
     by_cases q4 : 1 ≤ n
     ·have d4 : decide (n < 1) = false := by simp; try omega
      by_cases q5 : n ≤ 100000
      ·have d5 : decide (100000 < n) = false := by simp; try omega
       obtain ⟨O, hO⟩ : ∃ O, O = okB dep := ⟨_, rfl⟩
       rw [← hO] at hR CK
       simp only [← hO] at CQ
       cases O
       ·clear hO
        have HR := Lib.hid (show R = false by rw [hR]; simp [*])
        clear hR
        subst hvd
        go_enter Tryz.func45, Tryz.ntmps45
        go_wp2
        go_quiet (((go_at_call 85; first | exact Calls.quiet_of_same CK.out | exact Calls.quiet_of_same (CQ.out _) | exact Calls.quiet_of_same (CQ.out 1))))
        go_wp2
        go_ret
        exact ⟨ret_bool HR.out.symm, below_drewN bb.out _⟩
       ·have kO := (okB_iff dep).1 hO.symm
        clear hO
        by_cases q7 : (dep.length : Int) = p
        ·have d7 : ((dep.length : Int) != p) = false := by simpa using q7
         have d7' : ((dep.length : Int) == p) = true := by simpa using q7
         obtain ⟨g, rfl⟩ := Int.eq_ofNat_of_zero_le q2
         obtain ⟨m, hmm⟩ : ∃ m, dep.length = m := ⟨_, rfl⟩
         have hpm : p = (m : Int) := by omega
         subst hpm
         have hg : g < dep.length := by omega
         have j0 : (0 : Int) ≤ g := by omega
         have j1 : (g : Int) < m := by omega
         have FL := Lib.hid (fun w h h' => fields_any g n actor kind to bucket mask gr gn dep ups vd ua ul uc m w hmm (by omega) hul hum h h')
         simp only [Int.toNat_natCast] at hR
         have hnn : 1 ≤ n ∧ n ≤ 100000 := ⟨q4, q5⟩
         obtain ⟨n1, n2⟩ := hnn
         have hcase : (∃ bD oD cD, vd = .slice (some ⟨bD, oD, none⟩) m cD ∧ bD < w.heap.size ∧ w.cell? ⟨bD, oD + g, none⟩ = some (.int .i64 (dep.getD g 0))) := by
          rcases HD.out with ⟨a', c', _, e0⟩ | ⟨bD, oD, cD, hv, h1, _, _, h4⟩
          ·rw [e0] at hg; simp at hg
          ·exact ⟨bD, oD, cD, by rw [← hmm]; exact hv, h1, h4 g hg⟩
         obtain ⟨bD, oD, cD, hv2, hbD, hcD⟩ := hcase
         clear hvd
         obtain ⟨x, hx⟩ : ∃ x, dep.getD g 0 = x := ⟨_, rfl⟩
         simp only [hx] at hcD hR
         have HX := Lib.hid hx
         clear hx
         rw [hmm] at d7 d7' hR
         have HA : Hid (R = (decide (x = n - 1) && decide (0 ≤ actor) && decide (actor < 6) && fieldsM ⟨g, n, dep, actor, kind, to, bucket, mask, gr, gn, ups⟩ m)) := by
          show R = _
          rw [hR]; simp [q0, q1, q3, q4, q5]
         clear hR kO q0 q1 q2 q3 q4 q5 hdl
         obtain ⟨Fv, hFv⟩ : ∃ F, F = fieldsM ⟨g, n, dep, actor, kind, to, bucket, mask, gr, gn, ups⟩ m := ⟨_, rfl⟩
         rw [← hFv] at HA
         simp only [← hFv] at FL
         have dN : decide (m ≤ g) = false := by simp; omega
         subst hv2
         by_cases qa : x = n - 1
         ·have da : (x != n - 1) = false := by simpa using qa
          have da' : (x == n - 1) = true := by simpa using qa
          by_cases qb : 0 ≤ actor
          ·have db : decide (0 ≤ actor) = true := by simpa using qb
           by_cases qc : actor < 6
           ·have dc1 : decide (actor < 6) = true := by simpa using qc
            have HR := Lib.hid (show R = Fv by rw [HA.out]; simp [*])
            clear hFv hg hmm q7 qa qb qc
            have hwr : IntKind.i64.wrap (n - 1) = n - 1 := by rw [IntKind.wrap_i64]; omega
            go_enter Tryz.func45, Tryz.ntmps45
            go_wp2
            go_quiet ((go_at_call 85; first | exact Calls.quiet_of_same CK.out | exact Calls.quiet_of_same (CQ.out _) | exact Calls.quiet_of_same (CQ.out 1)))
            go_wp2_with fail
            refine (FL.out _ (ints_drewN (HD.out.below (B := 0) bb.out) _) (ups_drewN (HS.out.below bb.out) _)).mono ?_
            rintro e w1 ⟨rfl, b1⟩
            have B1 := Lib.hid ((below_drewN bb.out _).trans (b1.mono (below_drewN bb.out _).size))
            clear b1
            go_wp2
            go_ret
            exact ⟨ret_bool HR.out.symm, B1.out⟩
           ·have dc1 : decide (actor < 6) = false := by simp; omega
            have HR := Lib.hid (show R = false by rw [HA.out]; simp [*])
            clear hFv hg hmm q7 qa qb qc
            have hwr : IntKind.i64.wrap (n - 1) = n - 1 := by rw [IntKind.wrap_i64]; omega
            go_enter Tryz.func45, Tryz.ntmps45
            go_wp2
            go_quiet ((go_at_call 85; first | exact Calls.quiet_of_same CK.out | exact Calls.quiet_of_same (CQ.out _) | exact Calls.quiet_of_same (CQ.out 1)))
            go_wp2
            go_ret
            exact ⟨ret_bool HR.out.symm, below_drewN bb.out _⟩
          ·have db : decide (0 ≤ actor) = false := by simp; omega
           have HR := Lib.hid (show R = false by rw [HA.out]; simp [*])
           clear hFv hg hmm q7 qa qb
           have hwr : IntKind.i64.wrap (n - 1) = n - 1 := by rw [IntKind.wrap_i64]; omega
           go_enter Tryz.func45, Tryz.ntmps45
           go_wp2
           go_quiet ((go_at_call 85; first | exact Calls.quiet_of_same CK.out | exact Calls.quiet_of_same (CQ.out _) | exact Calls.quiet_of_same (CQ.out 1)))
           go_wp2
           go_ret
           exact ⟨ret_bool HR.out.symm, below_drewN bb.out _⟩
         ·have da : (x != n - 1) = true := by simpa using qa
          have da' : (x == n - 1) = false := by simpa using qa
          have HR := Lib.hid (show R = false by rw [HA.out]; simp [*])
          clear hFv hg hmm q7 qa
          have hwr : IntKind.i64.wrap (n - 1) = n - 1 := by rw [IntKind.wrap_i64]; omega
          go_enter Tryz.func45, Tryz.ntmps45
          go_wp2
          go_quiet ((go_at_call 85; first | exact Calls.quiet_of_same CK.out | exact Calls.quiet_of_same (CQ.out _) | exact Calls.quiet_of_same (CQ.out 1)))
          go_wp2
          go_ret
          exact ⟨ret_bool HR.out.symm, below_drewN bb.out _⟩
        ·have d7 : ((dep.length : Int) != p) = true := by simpa using q7
         have d7' : ((dep.length : Int) == p) = false := by simpa using q7
         clear kO
         have HR := Lib.hid (show R = false by rw [hR]; simp [*])
         clear hR q7
         subst hvd
         generalize dep.length = dl at *
         go_enter Tryz.func45, Tryz.ntmps45
         go_wp2
         go_quiet (((go_at_call 85; first | exact Calls.quiet_of_same CK.out | exact Calls.quiet_of_same (CQ.out _) | exact Calls.quiet_of_same (CQ.out 1))))
         go_wp2
         go_ret
         exact ⟨ret_bool HR.out.symm, below_drewN bb.out _⟩
      ·have d5 : decide (100000 < n) = true := by simp; try omega
       have HR := Lib.hid (show R = false by rw [hR]; simp [*])
       clear hR
       subst hvd
       go_enter Tryz.func45, Tryz.ntmps45
       go_wp2
       go_quiet (fail)
       go_wp2
       go_ret
       exact ⟨ret_bool HR.out.symm, below_drewN bb.out _⟩
     ·have d4 : decide (n < 1) = true := by simp; try omega
      have HR := Lib.hid (show R = false by rw [hR]; simp [*])
      clear hR
      subst hvd
      go_enter Tryz.func45, Tryz.ntmps45
      go_wp2
      go_quiet (fail)
      go_wp2
      go_ret
      exact ⟨ret_bool HR.out.symm, below_drewN bb.out _⟩
    ·have d3 : decide (p ≤ r) = true := by simp; try omega
     have HR := Lib.hid (show R = false by rw [hR]; simp [*])
     clear hR
     subst hvd
     go_enter Tryz.func45, Tryz.ntmps45
     go_wp2
     go_quiet (fail)
     go_wp2
     go_ret
     exact ⟨ret_bool HR.out.symm, below_drewN bb.out _⟩
   ·have d2 : decide (r < 0) = true := by simp; try omega
    have HR := Lib.hid (show R = false by rw [hR]; simp [*])
    clear hR
    subst hvd
    go_enter Tryz.func45, Tryz.ntmps45
    go_wp2
    go_quiet (fail)
    go_wp2
    go_ret
    exact ⟨ret_bool HR.out.symm, below_drewN bb.out _⟩
  ·have d1 : decide (4 < p) = true := by simp; try omega
   have HR := Lib.hid (show R = false by rw [hR]; simp [*])
   clear hR
   subst hvd
   go_enter Tryz.func45, Tryz.ntmps45
   go_wp2
   go_quiet (fail)
   go_wp2
   go_ret
   exact ⟨ret_bool HR.out.symm, below_drewN bb.out _⟩
 ·have d0 : decide (p < 1) = true := by simp; try omega
  have HR := Lib.hid (show R = false by rw [hR]; simp [*])
  clear hR
  subst hvd
  go_enter Tryz.func45, Tryz.ntmps45
  go_wp2
  go_quiet (fail)
  go_wp2
  go_ret
  exact ⟨ret_bool HR.out.symm, below_drewN bb.out _⟩
theorem specActOk_any : SpecActOk := by
 intro v a p w h _
 obtain ⟨vd, vs, rfl, hd, hs⟩ := h
 obtain ⟨ua, uc, hv⟩ := ups_len hs
 subst hv
 have hm := ups_max hs
 obtain ⟨r, n, dep, actor, kind, to, bucket, mask, gr, gn, ups⟩ := a
 exact specActOk_in r n actor kind to bucket mask gr gn dep ups vd ua ups.length uc p w rfl hm hd hs
end Go.Proofs.YtghgiefciijoeaaGreatDoor
