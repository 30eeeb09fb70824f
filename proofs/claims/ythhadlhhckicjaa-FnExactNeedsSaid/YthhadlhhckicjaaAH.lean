/- The laws FnExactActOk and FnExactNeeds from what the reference and the program answer. -/
import Derived.Test.YthhadlhhckicjaaAG
import Derived.Deep.RegionWith
namespace Go.Proofs.Ythhadlhhckicjaa
open Go.RowKit
set_option linter.unusedVariables false

set_option maxHeartbeats 3200000 in
theorem law_actOk (hI : ImplActOk) (hS : SpecActOk) (v0 : Value) (a0 : ActM) (x1 : Int) (w : World) (h0 : ActIs w v0 a0) (w1 : -9223372036854775808 ≤ x1 ∧ x1 ≤ 9223372036854775807) :
    Calls Try.prog 14 #[v0, .int .i64 x1] w fun e w' => e = .returned (.bool true) ∧ Below w.heap.size w w' := by
  have H0 := Lib.hid h0
  have HI := Lib.hid hI
  have HSp := Lib.hid hS
  clear hI hS h0
  obtain ⟨vd0, vs0, hv0, hd0, hs0⟩ := H0.out
  subst hv0
  clear hd0 hs0
  have B0 := Lib.hid ((Below.refl w.heap.size w).alloc (by simp) (.cells #[.int .i64 a0.r, .int .i64 a0.n, vd0, .int .i64 a0.actor, .int .i64 a0.kind, .int .i64 a0.to, .int .i64 a0.bucket, .int .i64 a0.mask, .int .i64 a0.gr, .int .i64 a0.gn, vs0] 48))
  have k0 := (Blk.new w #[.int .i64 a0.r, .int .i64 a0.n, vd0, .int .i64 a0.actor, .int .i64 a0.kind, .int .i64 a0.to, .int .i64 a0.bucket, .int .i64 a0.mask, .int .i64 a0.gr, .int .i64 a0.gn, vs0] 48)
  have K0 := Lib.hid k0
  clear k0
  obtain ⟨R, hR⟩ : ∃ R, R = (actOkM a0 x1) := ⟨_, rfl⟩
  have HR := Lib.hid hR
  clear hR
  have e1 : (R == R) = true := by simp
  have e2 : (R != R) = false := by simp
  obtain ⟨sa0, sb0⟩ := szM_range a0.dep.length a0.ups.length 1048576 (by omega)
  obtain ⟨s0, hs0⟩ : ∃ s, s = szM a0.dep.length a0.ups.length 1048576 := ⟨_, rfl⟩
  rw [← hs0] at sa0 sb0
  have HS0 := Lib.hid hs0
  clear hs0
  by_cases hneg : s0 < 0
  · go_enter Try.func14, Try.ntmps14
    go_wp2_with fail
    refine (szAct_any _ a0 1048576 _ (H0.out.below B0.out) (by omega) (by omega)).mono ?_
    rintro e ws0 ⟨rfl, bs0⟩
    rw [← HS0.out]
    have BS0 := Lib.hid (B0.out.trans (bs0.mono B0.out.size))
    have K0s0 := Lib.hid (K0.out.below bs0 K0.out.lt)
    have ca0s0 := K0s0.out.cell
    clear bs0
    go_wp2
    go_ret
    exact ⟨rfl, BS0.out⟩
  · have hp0 : ¬ s0 < 0 := by omega
    clear hneg
    have z0 := szM_ok (show ¬ szM a0.dep.length a0.ups.length 1048576 < 0 by rw [← HS0.out]; omega)
    rw [← HS0.out] at z0
    have D0 := Lib.hid (show a0.dep.length ≤ 1048576 by omega)
    have U0 := Lib.hid (show a0.ups.length ≤ 1048576 by omega)
    clear z0
    go_enter Try.func14, Try.ntmps14
    go_wp2_with fail
    refine (szAct_any _ a0 1048576 _ (H0.out.below B0.out) (by omega) (by omega)).mono ?_
    rintro e ws0 ⟨rfl, bs0⟩
    rw [← HS0.out]
    have BS0 := Lib.hid (B0.out.trans (bs0.mono B0.out.size))
    have K0s0 := Lib.hid (K0.out.below bs0 K0.out.lt)
    have ca0s0 := K0s0.out.cell
    clear bs0
    go_wp2_with fail
    refine (toAct_any _ a0 _ (H0.out.below BS0.out) D0.out U0.out).mono ?_
    rintro e wr0 ⟨vr0, gr0, hr0, rfl, or0, ger0, glr0, hlr0, br0⟩
    have Ar0r0 := Lib.hid (ownA_act or0)
    obtain ⟨dr0, ur0, hvr0, hodr0, hour0⟩ := or0
    obtain ⟨dar0, dcr0, rfl⟩ := ints_len (own_ints hodr0)
    obtain ⟨uar0, ucr0, rfl⟩ := ups_len (ownU_ups hour0)
    clear hodr0 hour0
    subst hvr0
    have Br0 := Lib.hid (BS0.out.trans (br0.mono BS0.out.size))
    have K0r0 := Lib.hid (K0s0.out.below br0 K0s0.out.lt)
    have ca0r0 := K0r0.out.cell
    clear br0 ca0s0
    clear ger0 glr0 hlr0
    go_wp2_with fail
    refine (HSp.out _ a0 x1 _ Ar0r0.out w1).mono ?_
    rintro e wq ⟨rfl, bq⟩
    rw [← HR.out]
    have Bq := Lib.hid (Br0.out.trans (bq.mono Br0.out.size))
    have K0q := Lib.hid (K0r0.out.below bq K0r0.out.lt)
    have ca0q := K0q.out.cell
    clear bq ca0r0
    go_wp2_with fail
    refine (toAct_any _ a0 _ (H0.out.below Bq.out) D0.out U0.out).mono ?_
    rintro e wx0 ⟨vx0, gx0, hx0, rfl, ox0, gex0, glx0, hlx0, bx0⟩
    have Ax0x0 := Lib.hid (ownA_act ox0)
    obtain ⟨dx0, ux0, hvx0, hodx0, houx0⟩ := ox0
    obtain ⟨dax0, dcx0, rfl⟩ := ints_len (own_ints hodx0)
    obtain ⟨uax0, ucx0, rfl⟩ := ups_len (ownU_ups houx0)
    clear hodx0 houx0
    subst hvx0
    have Bx0 := Lib.hid (Bq.out.trans (bx0.mono Bq.out.size))
    have K0x0 := Lib.hid (K0q.out.below bx0 K0q.out.lt)
    have ca0x0 := K0x0.out.cell
    clear bx0 ca0q
    clear gex0 glx0 hlx0
    have By0 := Lib.hid (Bx0.out.alloc Bx0.out.size (.cells #[.int .i64 a0.r, .int .i64 a0.n, .slice dax0 a0.dep.length dcx0, .int .i64 a0.actor, .int .i64 a0.kind, .int .i64 a0.to, .int .i64 a0.bucket, .int .i64 a0.mask, .int .i64 a0.gr, .int .i64 a0.gn, .slice uax0 a0.ups.length ucx0] 34))
    have K0y0 := Lib.hid (K0x0.out.alloc (.cells #[.int .i64 a0.r, .int .i64 a0.n, .slice dax0 a0.dep.length dcx0, .int .i64 a0.actor, .int .i64 a0.kind, .int .i64 a0.to, .int .i64 a0.bucket, .int .i64 a0.mask, .int .i64 a0.gr, .int .i64 a0.gn, .slice uax0 a0.ups.length ucx0] 34))
    have Kx0y0 := Lib.hid (Blk.new wx0 #[.int .i64 a0.r, .int .i64 a0.n, .slice dax0 a0.dep.length dcx0, .int .i64 a0.actor, .int .i64 a0.kind, .int .i64 a0.to, .int .i64 a0.bucket, .int .i64 a0.mask, .int .i64 a0.gr, .int .i64 a0.gn, .slice uax0 a0.ups.length ucx0] 34)
    have Ax0y0 := Lib.hid (Ax0x0.out.below ((Below.refl wx0.heap.size wx0).alloc (Nat.le_refl _) (.cells #[.int .i64 a0.r, .int .i64 a0.n, .slice dax0 a0.dep.length dcx0, .int .i64 a0.actor, .int .i64 a0.kind, .int .i64 a0.to, .int .i64 a0.bucket, .int .i64 a0.mask, .int .i64 a0.gr, .int .i64 a0.gn, .slice uax0 a0.ups.length ucx0] 34)))
    have lt0y0 := K0x0.out.lt
    have ca0y0 := ca0x0
    clear ca0x0
    go_wp2_with fail
    refine (HI.out _ a0 x1 _ Ax0y0.out w1).mono ?_
    rintro e wp ⟨rfl, bp⟩
    rw [← HR.out]
    have Bp := Lib.hid (By0.out.trans (bp.mono By0.out.size))
    have K0p := Lib.hid (K0y0.out.below bp K0y0.out.lt)
    have Kx0p := Lib.hid (Kx0y0.out.below bp Kx0y0.out.lt)
    have Ax0p := Lib.hid (Ax0y0.out.below bp)
    have ca0p := K0p.out.cell
    have cax0p := Kx0p.out.cell
    clear bp ca0y0
    clear lt0y0
    go_wp2_with fail
    go_region_with (first | (go_at_call 52; refine (toAct_any _ a0 _ (H0.out.below Bp.out.drew) D0.out U0.out).mono ?_; rintro e wz0 ⟨vz0, gz0, hz0, rfl, oz0, gez0, glz0, hlz0, bz0⟩; have Az0 := Lib.hid (ownA_act oz0); obtain ⟨dz0, uz0, hvz0, _, _⟩ := oz0; subst hvz0; have Bz0 := Lib.hid (Bp.out.drew.trans (bz0.mono Bp.out.drew.size)); have K0z0 := Lib.hid (K0p.out.drew.below bz0 K0p.out.lt); have ca0z0 := K0z0.out.cell; have Kx0z0 := Lib.hid (Kx0p.out.drew.below bz0 Kx0p.out.lt); have cax0z0 := Kx0z0.out.cell; have Ax0z0 := Lib.hid ((act_drewN Ax0p.out 1).below bz0); clear bz0 gez0 glz0 hlz0) | (go_at_call 54; refine (eqAct_same _ _ a0 _ Ax0z0.out Az0.out).mono ?_; rintro e we0 ⟨rfl, be0⟩; have Be0 := Lib.hid (Bz0.out.trans (be0.mono Bz0.out.size)); have K0e0 := Lib.hid (K0z0.out.below be0 K0z0.out.lt); have Kx0e0 := Lib.hid (Kx0z0.out.below be0 Kx0z0.out.lt); have ca0e0 := K0e0.out.cell; have cax0e0 := Kx0e0.out.cell; clear be0 ca0z0 ca0p cax0z0 cax0p))
    all_goals go_wp2_with fail
    all_goals go_wp2
    all_goals go_ret
    all_goals exact ⟨rfl, Be0.out⟩

set_option maxHeartbeats 3200000 in
theorem law_needs (hI : ImplNeeds) (hS : SpecNeeds) (v0 : Value) (a0 : ActM) (x1 : Int) (w : World) (h0 : ActIs w v0 a0) (w1 : -9223372036854775808 ≤ x1 ∧ x1 ≤ 9223372036854775807) :
    Calls Try.prog 17 #[v0, .int .i64 x1] w fun e w' => e = .returned (.bool true) ∧ Below w.heap.size w w' := by
  have H0 := Lib.hid h0
  have HI := Lib.hid hI
  have HSp := Lib.hid hS
  clear hI hS h0
  obtain ⟨vd0, vs0, hv0, hd0, hs0⟩ := H0.out
  subst hv0
  clear hd0 hs0
  have B0 := Lib.hid ((Below.refl w.heap.size w).alloc (by simp) (.cells #[.int .i64 a0.r, .int .i64 a0.n, vd0, .int .i64 a0.actor, .int .i64 a0.kind, .int .i64 a0.to, .int .i64 a0.bucket, .int .i64 a0.mask, .int .i64 a0.gr, .int .i64 a0.gn, vs0] 48))
  have k0 := (Blk.new w #[.int .i64 a0.r, .int .i64 a0.n, vd0, .int .i64 a0.actor, .int .i64 a0.kind, .int .i64 a0.to, .int .i64 a0.bucket, .int .i64 a0.mask, .int .i64 a0.gr, .int .i64 a0.gn, vs0] 48)
  have K0 := Lib.hid k0
  clear k0
  obtain ⟨R, hR⟩ : ∃ R, R = (needsM a0 x1) := ⟨_, rfl⟩
  have HR := Lib.hid hR
  clear hR
  have e1 : (R == R) = true := by simp
  have e2 : (R != R) = false := by simp
  obtain ⟨sa0, sb0⟩ := szM_range a0.dep.length a0.ups.length 1048576 (by omega)
  obtain ⟨s0, hs0⟩ : ∃ s, s = szM a0.dep.length a0.ups.length 1048576 := ⟨_, rfl⟩
  rw [← hs0] at sa0 sb0
  have HS0 := Lib.hid hs0
  clear hs0
  by_cases hneg : s0 < 0
  · go_enter Try.func17, Try.ntmps17
    go_wp2_with fail
    refine (szAct_any _ a0 1048576 _ (H0.out.below B0.out) (by omega) (by omega)).mono ?_
    rintro e ws0 ⟨rfl, bs0⟩
    rw [← HS0.out]
    have BS0 := Lib.hid (B0.out.trans (bs0.mono B0.out.size))
    have K0s0 := Lib.hid (K0.out.below bs0 K0.out.lt)
    have ca0s0 := K0s0.out.cell
    clear bs0
    go_wp2
    go_ret
    exact ⟨rfl, BS0.out⟩
  · have hp0 : ¬ s0 < 0 := by omega
    clear hneg
    have z0 := szM_ok (show ¬ szM a0.dep.length a0.ups.length 1048576 < 0 by rw [← HS0.out]; omega)
    rw [← HS0.out] at z0
    have D0 := Lib.hid (show a0.dep.length ≤ 1048576 by omega)
    have U0 := Lib.hid (show a0.ups.length ≤ 1048576 by omega)
    clear z0
    go_enter Try.func17, Try.ntmps17
    go_wp2_with fail
    refine (szAct_any _ a0 1048576 _ (H0.out.below B0.out) (by omega) (by omega)).mono ?_
    rintro e ws0 ⟨rfl, bs0⟩
    rw [← HS0.out]
    have BS0 := Lib.hid (B0.out.trans (bs0.mono B0.out.size))
    have K0s0 := Lib.hid (K0.out.below bs0 K0.out.lt)
    have ca0s0 := K0s0.out.cell
    clear bs0
    go_wp2_with fail
    refine (toAct_any _ a0 _ (H0.out.below BS0.out) D0.out U0.out).mono ?_
    rintro e wr0 ⟨vr0, gr0, hr0, rfl, or0, ger0, glr0, hlr0, br0⟩
    have Ar0r0 := Lib.hid (ownA_act or0)
    obtain ⟨dr0, ur0, hvr0, hodr0, hour0⟩ := or0
    obtain ⟨dar0, dcr0, rfl⟩ := ints_len (own_ints hodr0)
    obtain ⟨uar0, ucr0, rfl⟩ := ups_len (ownU_ups hour0)
    clear hodr0 hour0
    subst hvr0
    have Br0 := Lib.hid (BS0.out.trans (br0.mono BS0.out.size))
    have K0r0 := Lib.hid (K0s0.out.below br0 K0s0.out.lt)
    have ca0r0 := K0r0.out.cell
    clear br0 ca0s0
    clear ger0 glr0 hlr0
    go_wp2_with fail
    refine (HSp.out _ a0 x1 _ Ar0r0.out w1).mono ?_
    rintro e wq ⟨rfl, bq⟩
    rw [← HR.out]
    have Bq := Lib.hid (Br0.out.trans (bq.mono Br0.out.size))
    have K0q := Lib.hid (K0r0.out.below bq K0r0.out.lt)
    have ca0q := K0q.out.cell
    clear bq ca0r0
    go_wp2_with fail
    refine (toAct_any _ a0 _ (H0.out.below Bq.out) D0.out U0.out).mono ?_
    rintro e wx0 ⟨vx0, gx0, hx0, rfl, ox0, gex0, glx0, hlx0, bx0⟩
    have Ax0x0 := Lib.hid (ownA_act ox0)
    obtain ⟨dx0, ux0, hvx0, hodx0, houx0⟩ := ox0
    obtain ⟨dax0, dcx0, rfl⟩ := ints_len (own_ints hodx0)
    obtain ⟨uax0, ucx0, rfl⟩ := ups_len (ownU_ups houx0)
    clear hodx0 houx0
    subst hvx0
    have Bx0 := Lib.hid (Bq.out.trans (bx0.mono Bq.out.size))
    have K0x0 := Lib.hid (K0q.out.below bx0 K0q.out.lt)
    have ca0x0 := K0x0.out.cell
    clear bx0 ca0q
    clear gex0 glx0 hlx0
    have By0 := Lib.hid (Bx0.out.alloc Bx0.out.size (.cells #[.int .i64 a0.r, .int .i64 a0.n, .slice dax0 a0.dep.length dcx0, .int .i64 a0.actor, .int .i64 a0.kind, .int .i64 a0.to, .int .i64 a0.bucket, .int .i64 a0.mask, .int .i64 a0.gr, .int .i64 a0.gn, .slice uax0 a0.ups.length ucx0] 34))
    have K0y0 := Lib.hid (K0x0.out.alloc (.cells #[.int .i64 a0.r, .int .i64 a0.n, .slice dax0 a0.dep.length dcx0, .int .i64 a0.actor, .int .i64 a0.kind, .int .i64 a0.to, .int .i64 a0.bucket, .int .i64 a0.mask, .int .i64 a0.gr, .int .i64 a0.gn, .slice uax0 a0.ups.length ucx0] 34))
    have Kx0y0 := Lib.hid (Blk.new wx0 #[.int .i64 a0.r, .int .i64 a0.n, .slice dax0 a0.dep.length dcx0, .int .i64 a0.actor, .int .i64 a0.kind, .int .i64 a0.to, .int .i64 a0.bucket, .int .i64 a0.mask, .int .i64 a0.gr, .int .i64 a0.gn, .slice uax0 a0.ups.length ucx0] 34)
    have Ax0y0 := Lib.hid (Ax0x0.out.below ((Below.refl wx0.heap.size wx0).alloc (Nat.le_refl _) (.cells #[.int .i64 a0.r, .int .i64 a0.n, .slice dax0 a0.dep.length dcx0, .int .i64 a0.actor, .int .i64 a0.kind, .int .i64 a0.to, .int .i64 a0.bucket, .int .i64 a0.mask, .int .i64 a0.gr, .int .i64 a0.gn, .slice uax0 a0.ups.length ucx0] 34)))
    have lt0y0 := K0x0.out.lt
    have ca0y0 := ca0x0
    clear ca0x0
    go_wp2_with fail
    refine (HI.out _ a0 x1 _ Ax0y0.out w1).mono ?_
    rintro e wp ⟨rfl, bp⟩
    rw [← HR.out]
    have Bp := Lib.hid (By0.out.trans (bp.mono By0.out.size))
    have K0p := Lib.hid (K0y0.out.below bp K0y0.out.lt)
    have Kx0p := Lib.hid (Kx0y0.out.below bp Kx0y0.out.lt)
    have Ax0p := Lib.hid (Ax0y0.out.below bp)
    have ca0p := K0p.out.cell
    have cax0p := Kx0p.out.cell
    clear bp ca0y0
    clear lt0y0
    go_wp2_with fail
    go_region_with (first | (go_at_call 52; refine (toAct_any _ a0 _ (H0.out.below Bp.out.drew) D0.out U0.out).mono ?_; rintro e wz0 ⟨vz0, gz0, hz0, rfl, oz0, gez0, glz0, hlz0, bz0⟩; have Az0 := Lib.hid (ownA_act oz0); obtain ⟨dz0, uz0, hvz0, _, _⟩ := oz0; subst hvz0; have Bz0 := Lib.hid (Bp.out.drew.trans (bz0.mono Bp.out.drew.size)); have K0z0 := Lib.hid (K0p.out.drew.below bz0 K0p.out.lt); have ca0z0 := K0z0.out.cell; have Kx0z0 := Lib.hid (Kx0p.out.drew.below bz0 Kx0p.out.lt); have cax0z0 := Kx0z0.out.cell; have Ax0z0 := Lib.hid ((act_drewN Ax0p.out 1).below bz0); clear bz0 gez0 glz0 hlz0) | (go_at_call 54; refine (eqAct_same _ _ a0 _ Ax0z0.out Az0.out).mono ?_; rintro e we0 ⟨rfl, be0⟩; have Be0 := Lib.hid (Bz0.out.trans (be0.mono Bz0.out.size)); have K0e0 := Lib.hid (K0z0.out.below be0 K0z0.out.lt); have Kx0e0 := Lib.hid (Kx0z0.out.below be0 Kx0z0.out.lt); have ca0e0 := K0e0.out.cell; have cax0e0 := Kx0e0.out.cell; clear be0 ca0z0 ca0p cax0z0 cax0p))
    all_goals go_wp2_with fail
    all_goals go_wp2
    all_goals go_ret
    all_goals exact ⟨rfl, Be0.out⟩
end Go.Proofs.Ythhadlhhckicjaa
