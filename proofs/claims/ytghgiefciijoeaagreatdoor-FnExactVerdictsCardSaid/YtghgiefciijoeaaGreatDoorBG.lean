/- The program's Knows. -/
import Derived.Test.YtghgiefciijoeaaGreatDoorMI
import Derived.Test.YtghgiefciijoeaaGreatDoorMB
import Derived.BigQuiet
import Derived.Deep.QuietTactic
import Derived.Deep.RegionWith

namespace Go.Proofs.YtghgiefciijoeaaGreatDoor
open Go.RowKit
set_option linter.unusedVariables false
theorem knows_eq (a b : ActM) : knowsM a b = (inB b.r 0 ((a.dep.length : Int) - 1) && inB b.n 1 (a.dep.getD b.r.toNat 0)) := by
 have e : decide (b.r < (a.dep.length : Int)) = decide (b.r ≤ (a.dep.length : Int) - 1) := decide_eq_decide.2 (by omega)
 simp only [knowsM, inB, e, Bool.and_assoc]
set_option maxHeartbeats 1600000 in
theorem implKnows_any : ImplKnows := by
 intro v v' a b w h h'
 rw [knows_eq]
 obtain ⟨vd, vs, rfl, hd, hs⟩ := h
 obtain ⟨vd', vs', rfl, hd', hs'⟩ := h'
 clear hs hs' hd'
 obtain ⟨r', n', dep', actor', kind', dst', bucket', mask', gr', gn', ups'⟩ := b
 obtain ⟨r, n, dep, actor, kind, dst, bucket, mask, gr, gn, ups⟩ := a
 simp only at hd ⊢
 obtain ⟨x, c, hvd⟩ := ints_len hd
 have HD := Lib.hid hd
 clear hd
 subst hvd
 have HK := Lib.hid (fun w h => knows_any r n actor r' n' (.slice x dep.length c) dep w h)
 generalize (inB r' 0 ((dep.length : Int) - 1) && inB n' 1 (dep.getD r'.toNat 0)) = R at *
 have bb := Lib.hid (((Below.refl w.heap.size w).alloc (Nat.le_refl _) (.cells #[.int .i64 r, .int .i64 n, .slice x dep.length c, .int .i64 actor, .int .i64 kind, .int .i64 dst, .int .i64 bucket, .int .i64 mask, .int .i64 gr, .int .i64 gn, vs] 32)).alloc (by simp) (.cells #[.int .i64 r', .int .i64 n', vd', .int .i64 actor', .int .i64 kind', .int .i64 dst', .int .i64 bucket', .int .i64 mask', .int .i64 gr', .int .i64 gn', vs'] 32))
 have k1 := Blk.new (w.alloc (.cells #[.int .i64 r, .int .i64 n, .slice x dep.length c, .int .i64 actor, .int .i64 kind, .int .i64 dst, .int .i64 bucket, .int .i64 mask, .int .i64 gr, .int .i64 gn, vs] 32)) #[.int .i64 r', .int .i64 n', vd', .int .i64 actor', .int .i64 kind', .int .i64 dst', .int .i64 bucket', .int .i64 mask', .int .i64 gr', .int .i64 gn', vs'] 32
 simp only [World.size_alloc] at k1
 have K1 := Lib.hid k1
 clear k1
 go_enter Tryz.func94, Tryz.ntmps94
 go_wp2_with fail
 go_region_with (first | (go_at_call 121; refine (commonOf_any _ _ _ _ _ _ _ _ _ _ _ _ _ _).mono ?_; rintro e w1 ⟨rfl, b1⟩; have B1 := Lib.hid (bb.out.drew.trans (b1.mono bb.out.drew.size)); have c1 := (K1.out.drew.below b1 K1.out.lt).cell; clear b1) | (go_at_call 122; refine (HK.out _ (HD.out.below (B := 0) B1.out)).mono ?_; rintro e w2 ⟨rfl, b2⟩; have B2 := Lib.hid (B1.out.trans (b2.mono B1.out.size)); clear b2))
 all_goals go_wp2
 all_goals go_ret
 all_goals exact ⟨rfl, B2.out⟩
end Go.Proofs.YtghgiefciijoeaaGreatDoor
