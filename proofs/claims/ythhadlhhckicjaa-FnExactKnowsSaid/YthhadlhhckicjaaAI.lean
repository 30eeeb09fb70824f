/- The laws FnExactKnows, FnExactAhead, FnExactSameAct from what the reference and the program answer. -/
import Derived.Test.YthhadlhhckicjaaAG
import Derived.Deep.RegionWith
import Derived.Deep.DeepCutAuto
namespace Go.Proofs.Ythhadlhhckicjaa
open Go.RowKit
set_option linter.unusedVariables false

set_option maxHeartbeats 3200000 in
theorem law_knows (hI : ImplKnows) (hS : SpecKnows) (v0 : Value) (a0 : ActM) (v1 : Value) (a1 : ActM) (w : World) (h0 : ActIs w v0 a0) (h1 : ActIs w v1 a1) :
    Calls Try.prog 15 #[v0, v1] w fun e w' => e = .returned (.bool true) ∧ Below w.heap.size w w' := by
  have H0 := Lib.hid h0
  have H1 := Lib.hid h1
  have HI := Lib.hid hI
  have HSp := Lib.hid hS
  clear hI hS h0 h1
  obtain ⟨vd0, vs0, hv0, hd0, hs0⟩ := H0.out
  subst hv0
  clear hd0 hs0
  obtain ⟨vd1, vs1, hv1, hd1, hs1⟩ := H1.out
  subst hv1
  clear hd1 hs1
  have B0 := Lib.hid (((Below.refl w.heap.size w).alloc (by simp) (.cells #[.int .i64 a0.r, .int .i64 a0.n, vd0, .int .i64 a0.actor, .int .i64 a0.kind, .int .i64 a0.to, .int .i64 a0.bucket, .int .i64 a0.mask, .int .i64 a0.gr, .int .i64 a0.gn, vs0] 48)).alloc (by simp) (.cells #[.int .i64 a1.r, .int .i64 a1.n, vd1, .int .i64 a1.actor, .int .i64 a1.kind, .int .i64 a1.to, .int .i64 a1.bucket, .int .i64 a1.mask, .int .i64 a1.gr, .int .i64 a1.gn, vs1] 48))
  have k0 := ((Blk.new w #[.int .i64 a0.r, .int .i64 a0.n, vd0, .int .i64 a0.actor, .int .i64 a0.kind, .int .i64 a0.to, .int .i64 a0.bucket, .int .i64 a0.mask, .int .i64 a0.gr, .int .i64 a0.gn, vs0] 48).alloc (.cells #[.int .i64 a1.r, .int .i64 a1.n, vd1, .int .i64 a1.actor, .int .i64 a1.kind, .int .i64 a1.to, .int .i64 a1.bucket, .int .i64 a1.mask, .int .i64 a1.gr, .int .i64 a1.gn, vs1] 48))
  have K0 := Lib.hid k0
  clear k0
  have k1 := (Blk.new (w.alloc (.cells #[.int .i64 a0.r, .int .i64 a0.n, vd0, .int .i64 a0.actor, .int .i64 a0.kind, .int .i64 a0.to, .int .i64 a0.bucket, .int .i64 a0.mask, .int .i64 a0.gr, .int .i64 a0.gn, vs0] 48)) #[.int .i64 a1.r, .int .i64 a1.n, vd1, .int .i64 a1.actor, .int .i64 a1.kind, .int .i64 a1.to, .int .i64 a1.bucket, .int .i64 a1.mask, .int .i64 a1.gr, .int .i64 a1.gn, vs1] 48)
  simp only [World.size_alloc] at k1
  have K1 := Lib.hid k1
  clear k1
  obtain ⟨R, hR⟩ : ∃ R, R = (knowsM a0 a1) := ⟨_, rfl⟩
  have HR := Lib.hid hR
  clear hR
  have e1 : (R == R) = true := by simp
  have e2 : (R != R) = false := by simp
  obtain ⟨sa0, sb0⟩ := szM_range a0.dep.length a0.ups.length 1048576 (by omega)
  obtain ⟨s0, hs0⟩ : ∃ s, s = szM a0.dep.length a0.ups.length 1048576 := ⟨_, rfl⟩
  rw [← hs0] at sa0 sb0
  have HS0 := Lib.hid hs0
  clear hs0
  obtain ⟨sa1, sb1⟩ := szM_range a1.dep.length a1.ups.length s0 (by omega)
  obtain ⟨s1, hs1⟩ : ∃ s, s = szM a1.dep.length a1.ups.length s0 := ⟨_, rfl⟩
  rw [← hs1] at sa1 sb1
  have HS1 := Lib.hid hs1
  clear hs1
  by_cases hneg : s0 < 0 ∨ s1 < 0
  · by_cases hn0 : s0 < 0
    · clear hneg
      go_enter Try.func15, Try.ntmps15
      go_wp2_with fail
      refine (szAct_any _ a0 1048576 _ (H0.out.below B0.out) (by omega) (by omega)).mono ?_
      rintro e ws0 ⟨rfl, bs0⟩
      rw [← HS0.out]
      have BS0 := Lib.hid (B0.out.trans (bs0.mono B0.out.size))
      have K0s0 := Lib.hid (K0.out.below bs0 K0.out.lt)
      have K1s0 := Lib.hid (K1.out.below bs0 K1.out.lt)
      have ca0s0 := K0s0.out.cell
      have ca1s0 := K1s0.out.cell
      clear bs0
      go_wp2
      go_ret
      exact ⟨rfl, BS0.out⟩
    · have hn1 : s1 < 0 := by omega
      clear hneg
      go_enter Try.func15, Try.ntmps15
      go_wp2_with fail
      refine (szAct_any _ a0 1048576 _ (H0.out.below B0.out) (by omega) (by omega)).mono ?_
      rintro e ws0 ⟨rfl, bs0⟩
      rw [← HS0.out]
      have BS0 := Lib.hid (B0.out.trans (bs0.mono B0.out.size))
      have K0s0 := Lib.hid (K0.out.below bs0 K0.out.lt)
      have K1s0 := Lib.hid (K1.out.below bs0 K1.out.lt)
      have ca0s0 := K0s0.out.cell
      have ca1s0 := K1s0.out.cell
      clear bs0
      go_wp2_with fail
      refine (szAct_any _ a1 s0 _ (H1.out.below BS0.out) (by omega) (by omega)).mono ?_
      rintro e ws1 ⟨rfl, bs1⟩
      rw [← HS1.out]
      have BS1 := Lib.hid (BS0.out.trans (bs1.mono BS0.out.size))
      have K0s1 := Lib.hid (K0s0.out.below bs1 K0s0.out.lt)
      have K1s1 := Lib.hid (K1s0.out.below bs1 K1s0.out.lt)
      have ca0s1 := K0s1.out.cell
      have ca1s1 := K1s1.out.cell
      clear bs1 ca0s0 ca1s0
      go_wp2
      go_ret
      exact ⟨rfl, BS1.out⟩
  · have hp0 : ¬ s0 < 0 := by omega
    have hp1 : ¬ s1 < 0 := by omega
    clear hneg
    have z0 := szM_ok (show ¬ szM a0.dep.length a0.ups.length 1048576 < 0 by rw [← HS0.out]; omega)
    rw [← HS0.out] at z0
    have D0 := Lib.hid (show a0.dep.length ≤ 1048576 by omega)
    have U0 := Lib.hid (show a0.ups.length ≤ 1048576 by omega)
    have z1 := szM_ok (show ¬ szM a1.dep.length a1.ups.length s0 < 0 by rw [← HS1.out]; omega)
    rw [← HS1.out] at z1
    have D1 := Lib.hid (show a1.dep.length ≤ 1048576 by omega)
    have U1 := Lib.hid (show a1.ups.length ≤ 1048576 by omega)
    clear z0 z1
    go_enter Try.func15, Try.ntmps15
    go_wp2_with fail
    refine (szAct_any _ a0 1048576 _ (H0.out.below B0.out) (by omega) (by omega)).mono ?_
    rintro e ws0 ⟨rfl, bs0⟩
    rw [← HS0.out]
    have BS0 := Lib.hid (B0.out.trans (bs0.mono B0.out.size))
    have K0s0 := Lib.hid (K0.out.below bs0 K0.out.lt)
    have K1s0 := Lib.hid (K1.out.below bs0 K1.out.lt)
    have ca0s0 := K0s0.out.cell
    have ca1s0 := K1s0.out.cell
    clear bs0
    go_wp2_with fail
    refine (szAct_any _ a1 s0 _ (H1.out.below BS0.out) (by omega) (by omega)).mono ?_
    rintro e ws1 ⟨rfl, bs1⟩
    rw [← HS1.out]
    have BS1 := Lib.hid (BS0.out.trans (bs1.mono BS0.out.size))
    have K0s1 := Lib.hid (K0s0.out.below bs1 K0s0.out.lt)
    have K1s1 := Lib.hid (K1s0.out.below bs1 K1s0.out.lt)
    have ca0s1 := K0s1.out.cell
    have ca1s1 := K1s1.out.cell
    clear bs1 ca0s0 ca1s0
    go_upto_region 8 with (fail)
    go_cut [6] (fun s wx => s = .bool R ∧ Hid (Below w.heap.size w wx) ∧ Hid (Blk wx (w.heap.size) (#[.int .i64 a0.r, .int .i64 a0.n, vd0, .int .i64 a0.actor, .int .i64 a0.kind, .int .i64 a0.to, .int .i64 a0.bucket, .int .i64 a0.mask, .int .i64 a0.gr, .int .i64 a0.gn, vs0]).toList) ∧ Hid (Blk wx (w.heap.size + 1) (#[.int .i64 a1.r, .int .i64 a1.n, vd1, .int .i64 a1.actor, .int .i64 a1.kind, .int .i64 a1.to, .int .i64 a1.bucket, .int .i64 a1.mask, .int .i64 a1.gr, .int .i64 a1.gn, vs1]).toList))
    case first =>
      go_region_with (first | (go_at_call 52; (with_reducible refine (toAct_any (.agg #[.int .i64 a0.r, .int .i64 a0.n, vd0, .int .i64 a0.actor, .int .i64 a0.kind, .int .i64 a0.to, .int .i64 a0.bucket, .int .i64 a0.mask, .int .i64 a0.gr, .int .i64 a0.gn, vs0]) a0 _ (H0.out.below BS1.out.drew) D0.out U0.out).mono ?_); rintro e wr0 ⟨vr0, gr0, hr0, rfl, or0, ger0, glr0, hlr0, br0⟩; have Ar0r0 := Lib.hid (ownA_act or0); obtain ⟨dr0, ur0, hvr0, _, _⟩ := or0; subst hvr0; have Br0 := Lib.hid (BS1.out.drew.trans (br0.mono BS1.out.drew.size)); have K0r0 := Lib.hid (K0s1.out.drew.below br0 K0s1.out.lt); have ca0r0 := K0r0.out.cell; have K1r0 := Lib.hid (K1s1.out.drew.below br0 K1s1.out.lt); have ca1r0 := K1r0.out.cell; clear br0 ger0 glr0 hlr0) | (go_at_call 52; (with_reducible refine (toAct_any (.agg #[.int .i64 a1.r, .int .i64 a1.n, vd1, .int .i64 a1.actor, .int .i64 a1.kind, .int .i64 a1.to, .int .i64 a1.bucket, .int .i64 a1.mask, .int .i64 a1.gr, .int .i64 a1.gn, vs1]) a1 _ (H1.out.below Br0.out) D1.out U1.out).mono ?_); rintro e wr1 ⟨vr1, gr1, hr1, rfl, or1, ger1, glr1, hlr1, br1⟩; have Ar1r1 := Lib.hid (ownA_act or1); obtain ⟨dr1, ur1, hvr1, _, _⟩ := or1; subst hvr1; have Br1 := Lib.hid (Br0.out.trans (br1.mono Br0.out.size)); have K0r1 := Lib.hid (K0r0.out.below br1 K0r0.out.lt); have ca0r1 := K0r1.out.cell; have K1r1 := Lib.hid (K1r0.out.below br1 K1r0.out.lt); have ca1r1 := K1r1.out.cell; have Ar0r1 := Lib.hid (Ar0r0.out.below br1); clear br1 ger1 glr1 hlr1) | (go_at_call 34; refine (HSp.out _ _ a0 a1 _ Ar0r1.out Ar1r1.out).mono ?_; rintro e wq ⟨rfl, bq⟩; rw [← HR.out]; have Bq := Lib.hid (Br1.out.trans (bq.mono Br1.out.size)); have K0q := Lib.hid (K0r1.out.below bq K0r1.out.lt); have K1q := Lib.hid (K1r1.out.below bq K1r1.out.lt); clear bq))
      all_goals go_wp2_with fail
      all_goals go_meet
      all_goals exact ⟨rfl, Bq.out, K0q.out, K1q.out⟩
    case rest =>
      obtain ⟨rfl, Bq, K0q, K1q⟩ := hcut
      rename_i wq0
      clear ca0s1 ca1s1
      have ca0q := K0q.out.cell
      have ca1q := K1q.out.cell
      go_wp2_with fail
      refine (toAct_any _ a0 _ (H0.out.below Bq.out) D0.out U0.out).mono ?_
      rintro e wx0 ⟨vx0, gx0, hx0, rfl, ox0, gex0, glx0, hlx0, bx0⟩
      have Ax0x0 := Lib.hid (ownA_act ox0)
      obtain ⟨dx0, ux0, hvx0, hodx0, houx0⟩ := ox0
      obtain ⟨dax0, dcx0, rfl⟩ := ints_len (own_ints hodx0)
      obtain ⟨uax0, ucx0, rfl⟩ := ups_len (ownU_ups houx0)
      clear hodx0 houx0
      subst hvx0
      have Bx0 := Lib.hid (Bq.out.trans (bx0.mono Bq.out.size))
      have K0x0 := Lib.hid (K0q.out.below bx0 K0q.out.lt)
      have K1x0 := Lib.hid (K1q.out.below bx0 K1q.out.lt)
      have ca0x0 := K0x0.out.cell
      have ca1x0 := K1x0.out.cell
      clear bx0 ca0q ca1q
      clear gex0 glx0 hlx0
      have By0 := Lib.hid (Bx0.out.alloc Bx0.out.size (.cells #[.int .i64 a0.r, .int .i64 a0.n, .slice dax0 a0.dep.length dcx0, .int .i64 a0.actor, .int .i64 a0.kind, .int .i64 a0.to, .int .i64 a0.bucket, .int .i64 a0.mask, .int .i64 a0.gr, .int .i64 a0.gn, .slice uax0 a0.ups.length ucx0] 34))
      have K0y0 := Lib.hid (K0x0.out.alloc (.cells #[.int .i64 a0.r, .int .i64 a0.n, .slice dax0 a0.dep.length dcx0, .int .i64 a0.actor, .int .i64 a0.kind, .int .i64 a0.to, .int .i64 a0.bucket, .int .i64 a0.mask, .int .i64 a0.gr, .int .i64 a0.gn, .slice uax0 a0.ups.length ucx0] 34))
      have K1y0 := Lib.hid (K1x0.out.alloc (.cells #[.int .i64 a0.r, .int .i64 a0.n, .slice dax0 a0.dep.length dcx0, .int .i64 a0.actor, .int .i64 a0.kind, .int .i64 a0.to, .int .i64 a0.bucket, .int .i64 a0.mask, .int .i64 a0.gr, .int .i64 a0.gn, .slice uax0 a0.ups.length ucx0] 34))
      have Kx0y0 := Lib.hid (Blk.new wx0 #[.int .i64 a0.r, .int .i64 a0.n, .slice dax0 a0.dep.length dcx0, .int .i64 a0.actor, .int .i64 a0.kind, .int .i64 a0.to, .int .i64 a0.bucket, .int .i64 a0.mask, .int .i64 a0.gr, .int .i64 a0.gn, .slice uax0 a0.ups.length ucx0] 34)
      have Ax0y0 := Lib.hid (Ax0x0.out.below ((Below.refl wx0.heap.size wx0).alloc (Nat.le_refl _) (.cells #[.int .i64 a0.r, .int .i64 a0.n, .slice dax0 a0.dep.length dcx0, .int .i64 a0.actor, .int .i64 a0.kind, .int .i64 a0.to, .int .i64 a0.bucket, .int .i64 a0.mask, .int .i64 a0.gr, .int .i64 a0.gn, .slice uax0 a0.ups.length ucx0] 34)))
      have lt0y0 := K0x0.out.lt
      have lt1y0 := K1x0.out.lt
      have ca0y0 := ca0x0
      have ca1y0 := ca1x0
      clear ca0x0 ca1x0
      go_wp2_with fail
      refine (toAct_any _ a1 _ (H1.out.below By0.out) D1.out U1.out).mono ?_
      rintro e wx1 ⟨vx1, gx1, hx1, rfl, ox1, gex1, glx1, hlx1, bx1⟩
      have Ax1x1 := Lib.hid (ownA_act ox1)
      obtain ⟨dx1, ux1, hvx1, hodx1, houx1⟩ := ox1
      obtain ⟨dax1, dcx1, rfl⟩ := ints_len (own_ints hodx1)
      obtain ⟨uax1, ucx1, rfl⟩ := ups_len (ownU_ups houx1)
      clear hodx1 houx1
      subst hvx1
      have Bx1 := Lib.hid (By0.out.trans (bx1.mono By0.out.size))
      have K0x1 := Lib.hid (K0y0.out.below bx1 K0y0.out.lt)
      have K1x1 := Lib.hid (K1y0.out.below bx1 K1y0.out.lt)
      have Kx0x1 := Lib.hid (Kx0y0.out.below bx1 Kx0y0.out.lt)
      have Ax0x1 := Lib.hid (Ax0y0.out.below bx1)
      have ca0x1 := K0x1.out.cell
      have ca1x1 := K1x1.out.cell
      have cax0x1 := Kx0x1.out.cell
      clear bx1 ca0y0 ca1y0
      clear gex1 glx1 hlx1
      have By1 := Lib.hid (Bx1.out.alloc Bx1.out.size (.cells #[.int .i64 a1.r, .int .i64 a1.n, .slice dax1 a1.dep.length dcx1, .int .i64 a1.actor, .int .i64 a1.kind, .int .i64 a1.to, .int .i64 a1.bucket, .int .i64 a1.mask, .int .i64 a1.gr, .int .i64 a1.gn, .slice uax1 a1.ups.length ucx1] 34))
      have K0y1 := Lib.hid (K0x1.out.alloc (.cells #[.int .i64 a1.r, .int .i64 a1.n, .slice dax1 a1.dep.length dcx1, .int .i64 a1.actor, .int .i64 a1.kind, .int .i64 a1.to, .int .i64 a1.bucket, .int .i64 a1.mask, .int .i64 a1.gr, .int .i64 a1.gn, .slice uax1 a1.ups.length ucx1] 34))
      have K1y1 := Lib.hid (K1x1.out.alloc (.cells #[.int .i64 a1.r, .int .i64 a1.n, .slice dax1 a1.dep.length dcx1, .int .i64 a1.actor, .int .i64 a1.kind, .int .i64 a1.to, .int .i64 a1.bucket, .int .i64 a1.mask, .int .i64 a1.gr, .int .i64 a1.gn, .slice uax1 a1.ups.length ucx1] 34))
      have Kx0y1 := Lib.hid (Kx0x1.out.alloc (.cells #[.int .i64 a1.r, .int .i64 a1.n, .slice dax1 a1.dep.length dcx1, .int .i64 a1.actor, .int .i64 a1.kind, .int .i64 a1.to, .int .i64 a1.bucket, .int .i64 a1.mask, .int .i64 a1.gr, .int .i64 a1.gn, .slice uax1 a1.ups.length ucx1] 34))
      have Kx1y1 := Lib.hid (Blk.new wx1 #[.int .i64 a1.r, .int .i64 a1.n, .slice dax1 a1.dep.length dcx1, .int .i64 a1.actor, .int .i64 a1.kind, .int .i64 a1.to, .int .i64 a1.bucket, .int .i64 a1.mask, .int .i64 a1.gr, .int .i64 a1.gn, .slice uax1 a1.ups.length ucx1] 34)
      have Ax0y1 := Lib.hid (Ax0x1.out.below ((Below.refl wx1.heap.size wx1).alloc (Nat.le_refl _) (.cells #[.int .i64 a1.r, .int .i64 a1.n, .slice dax1 a1.dep.length dcx1, .int .i64 a1.actor, .int .i64 a1.kind, .int .i64 a1.to, .int .i64 a1.bucket, .int .i64 a1.mask, .int .i64 a1.gr, .int .i64 a1.gn, .slice uax1 a1.ups.length ucx1] 34)))
      have Ax1y1 := Lib.hid (Ax1x1.out.below ((Below.refl wx1.heap.size wx1).alloc (Nat.le_refl _) (.cells #[.int .i64 a1.r, .int .i64 a1.n, .slice dax1 a1.dep.length dcx1, .int .i64 a1.actor, .int .i64 a1.kind, .int .i64 a1.to, .int .i64 a1.bucket, .int .i64 a1.mask, .int .i64 a1.gr, .int .i64 a1.gn, .slice uax1 a1.ups.length ucx1] 34)))
      have lt0y1 := K0x1.out.lt
      have lt1y1 := K1x1.out.lt
      have ltx0y1 := Kx0x1.out.lt
      have ca0y1 := ca0x1
      have ca1y1 := ca1x1
      have cax0y1 := cax0x1
      clear ca0x1 ca1x1 cax0x1
      go_wp2_with fail
      refine (HI.out _ _ a0 a1 _ Ax0y1.out Ax1y1.out).mono ?_
      rintro e wp ⟨rfl, bp⟩
      rw [← HR.out]
      have Bp := Lib.hid (By1.out.trans (bp.mono By1.out.size))
      have K0p := Lib.hid (K0y1.out.below bp K0y1.out.lt)
      have K1p := Lib.hid (K1y1.out.below bp K1y1.out.lt)
      have Kx0p := Lib.hid (Kx0y1.out.below bp Kx0y1.out.lt)
      have Kx1p := Lib.hid (Kx1y1.out.below bp Kx1y1.out.lt)
      have Ax0p := Lib.hid (Ax0y1.out.below bp)
      have Ax1p := Lib.hid (Ax1y1.out.below bp)
      have ca0p := K0p.out.cell
      have ca1p := K1p.out.cell
      have cax0p := Kx0p.out.cell
      have cax1p := Kx1p.out.cell
      clear bp ca0y1 ca1y1 cax0y1
      clear lt0y0 lt1y0 lt0y1 lt1y1 ltx0y1
      go_wp2_with fail
      go_region_with (first | (go_at_call 52; refine (toAct_any _ a0 _ (H0.out.below Bp.out.drew) D0.out U0.out).mono ?_; rintro e wz0 ⟨vz0, gz0, hz0, rfl, oz0, gez0, glz0, hlz0, bz0⟩; have Az0 := Lib.hid (ownA_act oz0); obtain ⟨dz0, uz0, hvz0, _, _⟩ := oz0; subst hvz0; have Bz0 := Lib.hid (Bp.out.drew.trans (bz0.mono Bp.out.drew.size)); have K0z0 := Lib.hid (K0p.out.drew.below bz0 K0p.out.lt); have ca0z0 := K0z0.out.cell; have K1z0 := Lib.hid (K1p.out.drew.below bz0 K1p.out.lt); have ca1z0 := K1z0.out.cell; have Kx0z0 := Lib.hid (Kx0p.out.drew.below bz0 Kx0p.out.lt); have cax0z0 := Kx0z0.out.cell; have Kx1z0 := Lib.hid (Kx1p.out.drew.below bz0 Kx1p.out.lt); have cax1z0 := Kx1z0.out.cell; have Ax0z0 := Lib.hid ((act_drewN Ax0p.out 1).below bz0); have Ax1z0 := Lib.hid ((act_drewN Ax1p.out 1).below bz0); clear bz0 gez0 glz0 hlz0) | (go_at_call 54; refine (eqAct_same _ _ a0 _ Ax0z0.out Az0.out).mono ?_; rintro e we0 ⟨rfl, be0⟩; have Be0 := Lib.hid (Bz0.out.trans (be0.mono Bz0.out.size)); have K0e0 := Lib.hid (K0z0.out.below be0 K0z0.out.lt); have K1e0 := Lib.hid (K1z0.out.below be0 K1z0.out.lt); have Kx0e0 := Lib.hid (Kx0z0.out.below be0 Kx0z0.out.lt); have Kx1e0 := Lib.hid (Kx1z0.out.below be0 Kx1z0.out.lt); have Ax1e0 := Lib.hid (Ax1z0.out.below be0); have ca0e0 := K0e0.out.cell; have ca1e0 := K1e0.out.cell; have cax0e0 := Kx0e0.out.cell; have cax1e0 := Kx1e0.out.cell; clear be0 ca0z0 ca0p ca1z0 ca1p cax0z0 cax0p cax1z0 cax1p))
      all_goals go_wp2_with fail
      all_goals go_region_with (first | (go_at_call 52; refine (toAct_any _ a1 _ (H1.out.below Be0.out.drew) D1.out U1.out).mono ?_; rintro e wz1 ⟨vz1, gz1, hz1, rfl, oz1, gez1, glz1, hlz1, bz1⟩; have Az1 := Lib.hid (ownA_act oz1); obtain ⟨dz1, uz1, hvz1, _, _⟩ := oz1; subst hvz1; have Bz1 := Lib.hid (Be0.out.drew.trans (bz1.mono Be0.out.drew.size)); have K0z1 := Lib.hid (K0e0.out.drew.below bz1 K0e0.out.lt); have ca0z1 := K0z1.out.cell; have K1z1 := Lib.hid (K1e0.out.drew.below bz1 K1e0.out.lt); have ca1z1 := K1z1.out.cell; have Kx0z1 := Lib.hid (Kx0e0.out.drew.below bz1 Kx0e0.out.lt); have cax0z1 := Kx0z1.out.cell; have Kx1z1 := Lib.hid (Kx1e0.out.drew.below bz1 Kx1e0.out.lt); have cax1z1 := Kx1z1.out.cell; have Ax1z1 := Lib.hid ((act_drewN Ax1e0.out 1).below bz1); clear bz1 gez1 glz1 hlz1) | (go_at_call 54; refine (eqAct_same _ _ a1 _ Ax1z1.out Az1.out).mono ?_; rintro e we1 ⟨rfl, be1⟩; have Be1 := Lib.hid (Bz1.out.trans (be1.mono Bz1.out.size)); have K0e1 := Lib.hid (K0z1.out.below be1 K0z1.out.lt); have K1e1 := Lib.hid (K1z1.out.below be1 K1z1.out.lt); have Kx0e1 := Lib.hid (Kx0z1.out.below be1 Kx0z1.out.lt); have Kx1e1 := Lib.hid (Kx1z1.out.below be1 Kx1z1.out.lt); have ca0e1 := K0e1.out.cell; have ca1e1 := K1e1.out.cell; have cax0e1 := Kx0e1.out.cell; have cax1e1 := Kx1e1.out.cell; clear be1 ca0z1 ca0e0 ca1z1 ca1e0 cax0z1 cax0e0 cax1z1 cax1e0))
      all_goals go_wp2_with fail
      all_goals go_wp2
      all_goals go_ret
      all_goals exact ⟨rfl, Be1.out⟩
end Go.Proofs.Ythhadlhhckicjaa
