/- The program's Needs. -/
import Derived.Test.YtghgiefciijoeaaGreatDoorBG
import Derived.Test.YtghgiefciijoeaaGreatDoorAK

namespace Go.Proofs.YtghgiefciijoeaaGreatDoor
open Go.RowKit
set_option linter.unusedVariables false
theorem rightM_or (t k : Int) (ht : t = 0 ∨ t = 2 ∨ t = 4 ∨ t = 6) : bits .or .i64 t (rightM k) = (if k = 2 then bits .or .i64 t 4 else if k = 1 ∨ k = 3 ∨ k = 4 then bits .or .i64 t 2 else t) := by
 unfold rightM
 by_cases h1 : k = 1
 ·subst h1; simp
 ·by_cases h3 : k = 3
  ·subst h3; simp
  ·by_cases h4 : k = 4
   ·subst h4; simp
   ·by_cases h2 : k = 2
    ·subst h2; simp
    ·simp only [h1, h2, h3, h4, if_false, or_self]
     rcases ht with rfl | rfl | rfl | rfl <;> decide
set_option maxHeartbeats 3200000 in
theorem implNeeds_some (r n actor kind dst bucket mask gr gn x : Int) (vd : Value) (ups : List UpM) (b off cap len : Nat) (w : World)
  (h1 : ups.length = len) (hl : len ≤ 9223372036854775807) (hb : b < w.heap.size)
  (hc : ∀ i, i < len → UpAt w b (off + i * 4) (ups.getD i up0)) :
  Calls Tryz.prog 106 #[.agg #[.int .i64 r, .int .i64 n, vd, .int .i64 actor, .int .i64 kind, .int .i64 dst, .int .i64 bucket, .int .i64 mask, .int .i64 gr, .int .i64 gn, .slice (some ⟨b, off, none⟩) len cap], .int .i64 x] w fun e w' => e = .returned (.int .i64 (nd ups x)) ∧ Below w.heap.size w w' := by
 have bb := Lib.hid ((Below.refl w.heap.size w).alloc (Nat.le_refl _) (.cells #[.int .i64 r, .int .i64 n, vd, .int .i64 actor, .int .i64 kind, .int .i64 dst, .int .i64 bucket, .int .i64 mask, .int .i64 gr, .int .i64 gn, .slice (some ⟨b, off, none⟩) len cap] 32))
 have N1 := Lib.hid h1
 have HC := Lib.hid hc
 clear h1 hc
 go_enter Tryz.func106, Tryz.ntmps106
 go_wp2
 go_loopw [5, 11] (fun t i wr => ∃ (k : Nat) (s : Int), k ≤ len ∧ i = .int .i64 k ∧ t = .int .i64 s ∧ Hid (s = nd (ups.take k) x) ∧ Hid (Below w.heap.size w wr)) (fun _ i _ => len - (intOf i).toNat)
 case atStart => exact ⟨0, 0, Nat.zero_le _, rfl, rfl, by simp [Hid, nd], bb.out⟩
 case round =>
  obtain ⟨k, s, hk, rfl, rfl, hs, hbel⟩ := hrel
  by_cases hlt : k < len
  ·obtain ⟨q0, q1, q2, q3⟩ := HC.out k hlt
   have c0 := (hbel.out.cell (p := ⟨b, off + k * 4, none⟩) hb).trans q0
   have c1 := (hbel.out.cell (p := ⟨b, off + k * 4 + 1, none⟩) hb).trans q1
   have c2 := (hbel.out.cell (p := ⟨b, off + k * 4 + 2, none⟩) hb).trans q2
   have c3 := (hbel.out.cell (p := ⟨b, off + k * 4 + 3, none⟩) hb).trans q3
   clear q0 q1 q2 q3
   have hst := nd_step ups x k (by rw [N1.out]; exact hlt)
   rw [← hs.out] at hst
   have hval := Lib.hid (hs.out ▸ nd_values (ups.take k) x)
   obtain ⟨u, hu⟩ : ∃ u, ups.getD k up0 = u := ⟨_, rfl⟩
   rw [hu] at c0 c1 c2 c3 hst
   clear hu
   obtain ⟨u0, u1, u2, u3⟩ := u
   simp only [ndStep] at hst c0 c1 c2 c3
   have BA := Lib.hid (hbel.out.alloc hbel.out.size (.cells #[.int .i64 u0, .int .i64 u1, .int .i64 u2, .int .i64 u3] 116))
   by_cases hb1 : u1 = x
   ·subst hb1
    rw [if_pos rfl, ← rightM_or s u0 hval.out] at hst
    have HST := Lib.hid hst
    clear hst
    go_wp2_with fail
    refine (right_any _ _ _ _ _).mono ?_
    rintro e w1 ⟨rfl, b1⟩
    have B1 := Lib.hid (BA.out.trans (b1.mono BA.out.size))
    clear b1
    go_wp2_with fail
    go_roundw
    case rel => exact ⟨k + 1, _, by omega, by go_num, rfl, HST.out.symm, B1.out⟩
    case measure => simp [intOf]; omega
   ·rw [if_neg hb1] at hst
    have HST := Lib.hid hst
    have e1 : (u1 == x) = false := by simpa using hb1
    clear hst hb1
    go_wp2
    go_roundw
    case rel => exact ⟨k + 1, _, by omega, by go_num, rfl, HST.out.symm, BA.out⟩
    case measure => simp [intOf]; omega
  ·have hkl : k = len := by omega
   subst hkl
   go_wp2
   go_ret
   exact ⟨ret_int (by rw [hs.out, List.take_of_length_le (by rw [N1.out]; omega)]), hbel.out⟩
theorem implNeeds_nil (r n actor kind dst bucket mask gr gn x : Int) (vd : Value) (a : Option Addr) (cap : Nat) (w : World) :
  Calls Tryz.prog 106 #[.agg #[.int .i64 r, .int .i64 n, vd, .int .i64 actor, .int .i64 kind, .int .i64 dst, .int .i64 bucket, .int .i64 mask, .int .i64 gr, .int .i64 gn, .slice a 0 cap], .int .i64 x] w fun e w' => e = .returned (.int .i64 (nd [] x)) ∧ Below w.heap.size w w' := by
 have bb := Lib.hid ((Below.refl w.heap.size w).alloc (Nat.le_refl _) (.cells #[.int .i64 r, .int .i64 n, vd, .int .i64 actor, .int .i64 kind, .int .i64 dst, .int .i64 bucket, .int .i64 mask, .int .i64 gr, .int .i64 gn, .slice a 0 cap] 32))
 go_enter Tryz.func106, Tryz.ntmps106
 go_wp2
 go_loop [5, 11] (fun t i => t = .int .i64 0 ∧ i = .int .i64 0) (fun _ _ => 0)
 case atStart => exact ⟨rfl, rfl⟩
 case round =>
  obtain ⟨rfl, rfl⟩ := hrel
  go_wp2
  go_ret
  exact ⟨ret_int (by simp [nd]), bb.out⟩
theorem implNeeds_any : ImplNeeds := by
 intro v a x w h _
 obtain ⟨vd, vs, rfl, hd, hs⟩ := h
 obtain ⟨r, n, dep, actor, kind, dst, bucket, mask, gr, gn, ups⟩ := a
 have e : needsM ⟨r, n, dep, actor, kind, dst, bucket, mask, gr, gn, ups⟩ x = nd ups x := rfl
 rw [e]
 have hm := ups_max hs
 simp only at hm
 rcases hs with ⟨a, cap, rfl, h0⟩ | ⟨b, off, cap, rfl, h1, h2, h3, h4⟩
 ·simp only at h0
  subst h0
  exact implNeeds_nil r n actor kind dst bucket mask gr gn x vd a cap w
 ·exact implNeeds_some r n actor kind dst bucket mask gr gn x vd ups b off cap _ w rfl hm h1 h4
end Go.Proofs.YtghgiefciijoeaaGreatDoor
