/- The law FnExactUnion. -/
import Derived.Test.YtjmefifdofgncaaUO
import Derived.Test.YtjmefifdofgncaaNE
import Derived.Test.YtjmefifdofgncaaKA
import Derived.Test.YtjmefifdofgncaaHG
import Derived.Deep.DeepCutAuto
namespace Go.Proofs.Ytjmefifdofgncaa
open Go.RowKit
set_option linter.unusedVariables false

set_option maxRecDepth 100000 in
set_option maxHeartbeats 12800000 in
theorem law_union (v0 : Value) (l0 : List ActM) (v1 : Value) (l1 : List ActM) (n2 : Int) (w0 : World) (h0 : Acts w0 v0 l0) (h1 : Acts w0 v1 l1) (h2 : -9223372036854775808 ≤ n2 ∧ n2 ≤ 9223372036854775807) :
    Calls Try.prog 6 #[v0, v1, .int .i64 n2] w0 fun e w' => e = .returned (.bool true) ∧ Below w0.heap.size w0 w' := by
  have H0 := Lib.hid h0
  have H1 := Lib.hid h1
  obtain ⟨M0, hM0⟩ : ∃ M, M = unL l0 l1 n2 := ⟨_, rfl⟩
  obtain ⟨M1, hM1⟩ : ∃ M, M = unB l0 l1 n2 := ⟨_, rfl⟩
  have CS := Lib.hid (fun W u0 u1 (h0 : Acts W u0 l0) (h1 : Acts W u1 l1) (s0 : SmallL l0) (s1 : SmallL l1) => specUnion2 u0 u1 l0 l1 n2 W h0 h1 h2)
  have CI := Lib.hid (fun W u0 u1 (h0 : Acts W u0 l0) (h1 : Acts W u1 l1) (s0 : SmallL l0) (s1 : SmallL l1) => implUnion_any u0 u1 l0 l1 n2 W h0 h1 h2)
  simp only [← hM0] at CS CI
  simp only [← hM1] at CS CI
  have HB0 : szL M0 ≤ 1980 := by rw [hM0]; exact szL_un _ _ _
  obtain ⟨Y0, hY0⟩ : ∃ Y, szL M0 = Y := ⟨_, rfl⟩
  rw [hY0] at HB0
  have HY0 := Lib.hid hY0
  clear hY0
  have be1 : (M1 == M1) = true := by simp
  have bn1 : (M1 != M1) = false := by simp
  clear hM0 hM1 h0 h1
  have B0 := Lib.hid (Below.refl w0.heap.size w0)
  go_enter Try.func6, Try.ntmps6
  go_wp2_with fail
  refine (szActS_any _ l0 1048576 _ (H0.out.below B0.out) (by omega) (by omega)).mono ?_
  rintro e w1 ⟨r0, rfl, ra0, rb0, rs0, b1⟩
  have B1 := Lib.hid (B0.out.trans ((b1).mono B0.out.size))
  have RS0 := Lib.hid rs0
  clear b1 rs0
  by_cases hr0 : r0 < 0
  · go_wp2_with fail
    go_ret
    exact ⟨rfl, B1.out⟩
  have SM0 := Lib.hid (RS0.out (by omega)).1
  have hz0 : szL l0 ≤ 9437184 := by have h1 := (RS0.out (by omega)).2; have h2 := szL_tot l0; omega
  obtain ⟨Z0, hZ0⟩ : ∃ Z, szL l0 = Z := ⟨_, rfl⟩
  rw [hZ0] at hz0
  have HZ0 := Lib.hid hZ0
  clear hZ0
  go_wp2_with fail
  refine (szActS_any _ l1 r0 _ (H1.out.below B1.out) (by omega) (by omega)).mono ?_
  rintro e w2 ⟨r1, rfl, ra1, rb1, rs1, b2⟩
  have B2 := Lib.hid (B1.out.trans ((b2).mono B1.out.size))
  have RS1 := Lib.hid rs1
  clear b2 rs1
  by_cases hr1 : r1 < 0
  · go_wp2_with fail
    go_ret
    exact ⟨rfl, B2.out⟩
  have SM1 := Lib.hid (RS1.out (by omega)).1
  have hz1 : szL l1 ≤ 9437184 := by have h1 := (RS1.out (by omega)).2; have h2 := szL_tot l1; omega
  obtain ⟨Z1, hZ1⟩ : ∃ Z, szL l1 = Z := ⟨_, rfl⟩
  rw [hZ1] at hz1
  have HZ1 := Lib.hid hZ1
  clear hZ1
  go_wp2_with fail
  refine (toL_any _ l0 _ (H0.out.below B2.out) SM0.out).mono ?_
  rintro e w3 ⟨us0, ss0, rfl, os0, gs0, b3⟩
  have Os0_3 := Lib.hid os0
  have B3 := Lib.hid (B2.out.trans ((b3).mono B2.out.size))
  clear b3 gs0 os0
  go_wp2_with fail
  refine (toL_any _ l1 _ (H1.out.below B3.out) SM1.out).mono ?_
  rintro e w4 ⟨us1, ss1, rfl, os1, gs1, b4⟩
  have Os1_4 := Lib.hid os1
  have Ds0_s1 := Lib.hid (show ∀ b ∈ ss0, b ∉ ss1 from fun b hb hc => by have h1 := Os0_3.out.lt b hb; have h2 := gs1 b hc; omega)
  have Ds1_s0 := Lib.hid (show ∀ b ∈ ss1, b ∉ ss0 from fun b hc hb => by have h1 := Os0_3.out.lt b hb; have h2 := gs1 b hc; omega)
  have B4 := Lib.hid (B3.out.trans ((b4).mono B3.out.size))
  have Os0_4 := Lib.hid (Os0_3.out.below (b4))
  clear Os0_3 b4 gs1 os1
  go_wp2_with fail
  refine (CS.out _ _ _ Os0_4.out.acts Os1_4.out.acts SM0.out SM1.out).mono ?_
  rintro e w5 ⟨uS, rfl, oS, b5⟩
  have B5 := Lib.hid (B4.out.trans ((b5).mono B4.out.size))
  have S := Lib.hid oS
  clear Os0_4 Os1_4 b5 oS
  have E5 := Lib.hid (Below.refl w5.heap.size w5)
  go_wp2_with fail
  refine (toL_any _ l0 _ (H0.out.below B5.out) SM0.out).mono ?_
  rintro e w6 ⟨ux0, sx0, rfl, ox0, gx0, b6⟩
  have Ox0_6 := Lib.hid ox0
  have Gx0 := Lib.hid (fun b hb => Nat.le_trans E5.out.size (gx0 b hb))
  have B6 := Lib.hid (B5.out.trans ((b6).mono B5.out.size))
  have E6 := Lib.hid (E5.out.trans ((b6).mono E5.out.size))
  clear b6 gx0 ox0
  go_wp2_with fail
  refine (toL_any _ l1 _ (H1.out.below B6.out) SM1.out).mono ?_
  rintro e w7 ⟨ux1, sx1, rfl, ox1, gx1, b7⟩
  have Ox1_7 := Lib.hid ox1
  have Dx0_x1 := Lib.hid (show ∀ b ∈ sx0, b ∉ sx1 from fun b hb hc => by have h1 := Ox0_6.out.lt b hb; have h2 := gx1 b hc; omega)
  have Dx1_x0 := Lib.hid (show ∀ b ∈ sx1, b ∉ sx0 from fun b hc hb => by have h1 := Ox0_6.out.lt b hb; have h2 := gx1 b hc; omega)
  have Gx1 := Lib.hid (fun b hb => Nat.le_trans E6.out.size (gx1 b hb))
  have B7 := Lib.hid (B6.out.trans ((b7).mono B6.out.size))
  have E7 := Lib.hid (E6.out.trans ((b7).mono E6.out.size))
  have Ox0_7 := Lib.hid (Ox0_6.out.below (b7))
  clear Ox0_6 b7 gx1 ox1
  go_wp2_with fail
  refine (CI.out _ _ _ Ox0_7.out.acts Ox1_7.out.acts SM0.out SM1.out).mono ?_
  rintro e w8 ⟨ug, sg, rfl, og, gg, b8⟩
  have Og_8 := Lib.hid og
  have Dx0_g := Lib.hid (show ∀ b ∈ sx0, b ∉ sg from fun b hb hc => by have h1 := Ox0_7.out.lt b hb; have h2 := gg b hc; omega)
  have Dg_x0 := Lib.hid (show ∀ b ∈ sg, b ∉ sx0 from fun b hc hb => by have h1 := Ox0_7.out.lt b hb; have h2 := gg b hc; omega)
  have Dx1_g := Lib.hid (show ∀ b ∈ sx1, b ∉ sg from fun b hb hc => by have h1 := Ox1_7.out.lt b hb; have h2 := gg b hc; omega)
  have Dg_x1 := Lib.hid (show ∀ b ∈ sg, b ∉ sx1 from fun b hc hb => by have h1 := Ox1_7.out.lt b hb; have h2 := gg b hc; omega)
  have Gg := Lib.hid (fun b hb => Nat.le_trans E7.out.size (gg b hb))
  have B8 := Lib.hid (B7.out.trans ((b8).mono B7.out.size))
  have E8 := Lib.hid (E7.out.trans ((b8).mono E7.out.size))
  have Ox0_8 := Lib.hid (Ox0_7.out.below (b8))
  have Ox1_8 := Lib.hid (Ox1_7.out.below (b8))
  clear Ox0_7 Ox1_7 b8 gg og
  go_wp2_with fail
  refine (eqActS_any _ _ M0 _ Og_8.out.acts (S.out.below E8.out)).mono ?_
  rintro e w9 ⟨rfl, b9⟩
  have B9 := Lib.hid (B8.out.trans ((b9).mono B8.out.size))
  have E9 := Lib.hid (E8.out.trans ((b9).mono E8.out.size))
  have Ox0_9 := Lib.hid (Ox0_8.out.below (b9))
  have Ox1_9 := Lib.hid (Ox1_8.out.below (b9))
  have Og_9 := Lib.hid (Og_8.out.below (b9))
  clear Ox0_8 Ox1_8 Og_8 b9
  go_wp2_with fail
  refine (toL_any _ l0 _ (H0.out.below B9.out) SM0.out).mono ?_
  rintro e w10 ⟨uy0, sy0, rfl, oy0, gy0, b10⟩
  have Oy0_10 := Lib.hid oy0
  have Dx0_y0 := Lib.hid (show ∀ b ∈ sx0, b ∉ sy0 from fun b hb hc => by have h1 := Ox0_9.out.lt b hb; have h2 := gy0 b hc; omega)
  have Dy0_x0 := Lib.hid (show ∀ b ∈ sy0, b ∉ sx0 from fun b hc hb => by have h1 := Ox0_9.out.lt b hb; have h2 := gy0 b hc; omega)
  have Dx1_y0 := Lib.hid (show ∀ b ∈ sx1, b ∉ sy0 from fun b hb hc => by have h1 := Ox1_9.out.lt b hb; have h2 := gy0 b hc; omega)
  have Dy0_x1 := Lib.hid (show ∀ b ∈ sy0, b ∉ sx1 from fun b hc hb => by have h1 := Ox1_9.out.lt b hb; have h2 := gy0 b hc; omega)
  have Dg_y0 := Lib.hid (show ∀ b ∈ sg, b ∉ sy0 from fun b hb hc => by have h1 := Og_9.out.lt b hb; have h2 := gy0 b hc; omega)
  have Dy0_g := Lib.hid (show ∀ b ∈ sy0, b ∉ sg from fun b hc hb => by have h1 := Og_9.out.lt b hb; have h2 := gy0 b hc; omega)
  have Gy0 := Lib.hid (fun b hb => Nat.le_trans E9.out.size (gy0 b hb))
  have B10 := Lib.hid (B9.out.trans ((b10).mono B9.out.size))
  have E10 := Lib.hid (E9.out.trans ((b10).mono E9.out.size))
  have Ox0_10 := Lib.hid (Ox0_9.out.below (b10))
  have Ox1_10 := Lib.hid (Ox1_9.out.below (b10))
  have Og_10 := Lib.hid (Og_9.out.below (b10))
  clear Ox0_9 Ox1_9 Og_9 b10 gy0 oy0
  go_wp2_with fail
  refine (eqActS_any _ _ l0 _ Ox0_10.out.acts Oy0_10.out.acts).mono ?_
  rintro e w11 ⟨rfl, b11⟩
  have B11 := Lib.hid (B10.out.trans ((b11).mono B10.out.size))
  have E11 := Lib.hid (E10.out.trans ((b11).mono E10.out.size))
  have Ox0_11 := Lib.hid (Ox0_10.out.below (b11))
  have Ox1_11 := Lib.hid (Ox1_10.out.below (b11))
  have Og_11 := Lib.hid (Og_10.out.below (b11))
  have Oy0_11 := Lib.hid (Oy0_10.out.below (b11))
  clear Ox0_10 Ox1_10 Og_10 Oy0_10 b11
  clear Oy0_11
  go_wp2_with fail
  refine (toL_any _ l1 _ (H1.out.below B11.out) SM1.out).mono ?_
  rintro e w12 ⟨uy1, sy1, rfl, oy1, gy1, b12⟩
  have Oy1_12 := Lib.hid oy1
  have Dx0_y1 := Lib.hid (show ∀ b ∈ sx0, b ∉ sy1 from fun b hb hc => by have h1 := Ox0_11.out.lt b hb; have h2 := gy1 b hc; omega)
  have Dy1_x0 := Lib.hid (show ∀ b ∈ sy1, b ∉ sx0 from fun b hc hb => by have h1 := Ox0_11.out.lt b hb; have h2 := gy1 b hc; omega)
  have Dx1_y1 := Lib.hid (show ∀ b ∈ sx1, b ∉ sy1 from fun b hb hc => by have h1 := Ox1_11.out.lt b hb; have h2 := gy1 b hc; omega)
  have Dy1_x1 := Lib.hid (show ∀ b ∈ sy1, b ∉ sx1 from fun b hc hb => by have h1 := Ox1_11.out.lt b hb; have h2 := gy1 b hc; omega)
  have Dg_y1 := Lib.hid (show ∀ b ∈ sg, b ∉ sy1 from fun b hb hc => by have h1 := Og_11.out.lt b hb; have h2 := gy1 b hc; omega)
  have Dy1_g := Lib.hid (show ∀ b ∈ sy1, b ∉ sg from fun b hc hb => by have h1 := Og_11.out.lt b hb; have h2 := gy1 b hc; omega)
  have Gy1 := Lib.hid (fun b hb => Nat.le_trans E11.out.size (gy1 b hb))
  have B12 := Lib.hid (B11.out.trans ((b12).mono B11.out.size))
  have E12 := Lib.hid (E11.out.trans ((b12).mono E11.out.size))
  have Ox0_12 := Lib.hid (Ox0_11.out.below (b12))
  have Ox1_12 := Lib.hid (Ox1_11.out.below (b12))
  have Og_12 := Lib.hid (Og_11.out.below (b12))
  clear Ox0_11 Ox1_11 Og_11 b12 gy1 oy1
  go_wp2_with fail
  refine (eqActS_any _ _ l1 _ Ox1_12.out.acts Oy1_12.out.acts).mono ?_
  rintro e w13 ⟨rfl, b13⟩
  have B13 := Lib.hid (B12.out.trans ((b13).mono B12.out.size))
  have E13 := Lib.hid (E12.out.trans ((b13).mono E12.out.size))
  have Ox0_13 := Lib.hid (Ox0_12.out.below (b13))
  have Ox1_13 := Lib.hid (Ox1_12.out.below (b13))
  have Og_13 := Lib.hid (Og_12.out.below (b13))
  have Oy1_13 := Lib.hid (Oy1_12.out.below (b13))
  clear Ox0_12 Ox1_12 Og_12 Oy1_12 b13
  clear Oy1_13
  go_wp2_with fail
  refine (markLZ Ox0_13.out HZ0.out 1 (by omega) (by omega)).mono ?_
  rintro e w14 ⟨rfl, o14, g14⟩
  have Ox0_14 := Lib.hid o14
  have Ox1_14 := Lib.hid (Ox1_13.out.other g14 Dx1_x0.out)
  have Og_14 := Lib.hid (Og_13.out.other g14 Dg_x0.out)
  have bE := g14.below Gx0.out E13.out.size
  have E14 := Lib.hid (E13.out.trans bE)
  have B14 := Lib.hid (B5.out.trans (E14.out.mono B5.out.size))
  clear Ox0_13 Ox1_13 Og_13 bE o14 g14
  go_wp2_with fail
  refine (markLZ Ox1_14.out HZ1.out (1 + (Z0 : Int)) (by omega) (by omega)).mono ?_
  rintro e w15 ⟨rfl, o15, g15⟩
  have Ox1_15 := Lib.hid o15
  have Ox0_15 := Lib.hid (Ox0_14.out.other g15 Dx0_x1.out)
  have Og_15 := Lib.hid (Og_14.out.other g15 Dg_x1.out)
  have bE := g15.below Gx1.out E14.out.size
  have E15 := Lib.hid (E14.out.trans bE)
  have B15 := Lib.hid (B5.out.trans (E15.out.mono B5.out.size))
  clear Ox0_14 Ox1_14 Og_14 bE o15 g15
  have kk7 : decide (((1 + (Z0 : Int)) + (Z1 : Int)) < 0) = false := by simp; omega
  go_wp2_with fail
  refine (eqActS_any _ _ M0 _ Og_15.out.acts (S.out.below E15.out)).mono ?_
  rintro e w16 ⟨rfl, b16⟩
  have B16 := Lib.hid (B15.out.trans ((b16).mono B15.out.size))
  have E16 := Lib.hid (E15.out.trans ((b16).mono E15.out.size))
  have Ox0_16 := Lib.hid (Ox0_15.out.below (b16))
  have Ox1_16 := Lib.hid (Ox1_15.out.below (b16))
  have Og_16 := Lib.hid (Og_15.out.below (b16))
  clear Ox0_15 Ox1_15 Og_15 b16
  go_wp2_with fail
  refine (markLZ Og_16.out HY0.out 1 (by omega) (by omega)).mono ?_
  rintro e w17 ⟨rfl, o17, g17⟩
  have Og_17 := Lib.hid o17
  have Ox0_17 := Lib.hid (Ox0_16.out.other g17 Dx0_g.out)
  have Ox1_17 := Lib.hid (Ox1_16.out.other g17 Dx1_g.out)
  have bE := g17.below Gg.out E16.out.size
  have E17 := Lib.hid (E16.out.trans bE)
  have B17 := Lib.hid (B5.out.trans (E17.out.mono B5.out.size))
  clear Ox0_16 Ox1_16 Og_16 bE o17 g17
  go_wp2_with fail
  refine (heldLZ Og_17.out HY0.out (by omega) (by omega)).mono ?_
  rintro e wq ⟨rfl, hq⟩
  subst wq
  skip
  have kk8 : decide ((1 + (Y0 : Int)) < 0) = false := by simp; omega
  have kq9 : ((1 + (Y0 : Int)) == (1 + (Y0 : Int))) = true := by simp
  have kp9 : ((1 + (Y0 : Int)) != (1 + (Y0 : Int))) = false := by simp
  go_wp2_with fail
  refine (toL_any _ l0 _ (H0.out.below B17.out) SM0.out).mono ?_
  rintro e w18 ⟨uz0, sz0, rfl, oz0, gz0, b18⟩
  have Oz0_18 := Lib.hid oz0
  have Dx0_z0 := Lib.hid (show ∀ b ∈ sx0, b ∉ sz0 from fun b hb hc => by have h1 := Ox0_17.out.lt b hb; have h2 := gz0 b hc; omega)
  have Dz0_x0 := Lib.hid (show ∀ b ∈ sz0, b ∉ sx0 from fun b hc hb => by have h1 := Ox0_17.out.lt b hb; have h2 := gz0 b hc; omega)
  have Dx1_z0 := Lib.hid (show ∀ b ∈ sx1, b ∉ sz0 from fun b hb hc => by have h1 := Ox1_17.out.lt b hb; have h2 := gz0 b hc; omega)
  have Dz0_x1 := Lib.hid (show ∀ b ∈ sz0, b ∉ sx1 from fun b hc hb => by have h1 := Ox1_17.out.lt b hb; have h2 := gz0 b hc; omega)
  have Dg_z0 := Lib.hid (show ∀ b ∈ sg, b ∉ sz0 from fun b hb hc => by have h1 := Og_17.out.lt b hb; have h2 := gz0 b hc; omega)
  have Dz0_g := Lib.hid (show ∀ b ∈ sz0, b ∉ sg from fun b hc hb => by have h1 := Og_17.out.lt b hb; have h2 := gz0 b hc; omega)
  have Gz0 := Lib.hid (fun b hb => Nat.le_trans E17.out.size (gz0 b hb))
  have B18 := Lib.hid (B17.out.trans ((b18).mono B17.out.size))
  have E18 := Lib.hid (E17.out.trans ((b18).mono E17.out.size))
  have Ox0_18 := Lib.hid (Ox0_17.out.below (b18))
  have Ox1_18 := Lib.hid (Ox1_17.out.below (b18))
  have Og_18 := Lib.hid (Og_17.out.below (b18))
  clear Ox0_17 Ox1_17 Og_17 b18 gz0 oz0
  go_wp2_with fail
  refine (toL_any _ l1 _ (H1.out.below B18.out) SM1.out).mono ?_
  rintro e w19 ⟨uz1, sz1, rfl, oz1, gz1, b19⟩
  have Oz1_19 := Lib.hid oz1
  have Dx0_z1 := Lib.hid (show ∀ b ∈ sx0, b ∉ sz1 from fun b hb hc => by have h1 := Ox0_18.out.lt b hb; have h2 := gz1 b hc; omega)
  have Dz1_x0 := Lib.hid (show ∀ b ∈ sz1, b ∉ sx0 from fun b hc hb => by have h1 := Ox0_18.out.lt b hb; have h2 := gz1 b hc; omega)
  have Dx1_z1 := Lib.hid (show ∀ b ∈ sx1, b ∉ sz1 from fun b hb hc => by have h1 := Ox1_18.out.lt b hb; have h2 := gz1 b hc; omega)
  have Dz1_x1 := Lib.hid (show ∀ b ∈ sz1, b ∉ sx1 from fun b hc hb => by have h1 := Ox1_18.out.lt b hb; have h2 := gz1 b hc; omega)
  have Dg_z1 := Lib.hid (show ∀ b ∈ sg, b ∉ sz1 from fun b hb hc => by have h1 := Og_18.out.lt b hb; have h2 := gz1 b hc; omega)
  have Dz1_g := Lib.hid (show ∀ b ∈ sz1, b ∉ sg from fun b hc hb => by have h1 := Og_18.out.lt b hb; have h2 := gz1 b hc; omega)
  have Dz0_z1 := Lib.hid (show ∀ b ∈ sz0, b ∉ sz1 from fun b hb hc => by have h1 := Oz0_18.out.lt b hb; have h2 := gz1 b hc; omega)
  have Dz1_z0 := Lib.hid (show ∀ b ∈ sz1, b ∉ sz0 from fun b hc hb => by have h1 := Oz0_18.out.lt b hb; have h2 := gz1 b hc; omega)
  have Gz1 := Lib.hid (fun b hb => Nat.le_trans E18.out.size (gz1 b hb))
  have B19 := Lib.hid (B18.out.trans ((b19).mono B18.out.size))
  have E19 := Lib.hid (E18.out.trans ((b19).mono E18.out.size))
  have Ox0_19 := Lib.hid (Ox0_18.out.below (b19))
  have Ox1_19 := Lib.hid (Ox1_18.out.below (b19))
  have Og_19 := Lib.hid (Og_18.out.below (b19))
  have Oz0_19 := Lib.hid (Oz0_18.out.below (b19))
  clear Ox0_18 Ox1_18 Og_18 Oz0_18 b19 gz1 oz1
  go_wp2_with fail
  refine (CI.out _ _ _ Oz0_19.out.acts Oz1_19.out.acts SM0.out SM1.out).mono ?_
  rintro e w20 ⟨uh, sh, rfl, oh, gh, b20⟩
  have Oh_20 := Lib.hid oh
  have Dx0_h := Lib.hid (show ∀ b ∈ sx0, b ∉ sh from fun b hb hc => by have h1 := Ox0_19.out.lt b hb; have h2 := gh b hc; omega)
  have Dh_x0 := Lib.hid (show ∀ b ∈ sh, b ∉ sx0 from fun b hc hb => by have h1 := Ox0_19.out.lt b hb; have h2 := gh b hc; omega)
  have Dx1_h := Lib.hid (show ∀ b ∈ sx1, b ∉ sh from fun b hb hc => by have h1 := Ox1_19.out.lt b hb; have h2 := gh b hc; omega)
  have Dh_x1 := Lib.hid (show ∀ b ∈ sh, b ∉ sx1 from fun b hc hb => by have h1 := Ox1_19.out.lt b hb; have h2 := gh b hc; omega)
  have Dg_h := Lib.hid (show ∀ b ∈ sg, b ∉ sh from fun b hb hc => by have h1 := Og_19.out.lt b hb; have h2 := gh b hc; omega)
  have Dh_g := Lib.hid (show ∀ b ∈ sh, b ∉ sg from fun b hc hb => by have h1 := Og_19.out.lt b hb; have h2 := gh b hc; omega)
  have Dz0_h := Lib.hid (show ∀ b ∈ sz0, b ∉ sh from fun b hb hc => by have h1 := Oz0_19.out.lt b hb; have h2 := gh b hc; omega)
  have Dh_z0 := Lib.hid (show ∀ b ∈ sh, b ∉ sz0 from fun b hc hb => by have h1 := Oz0_19.out.lt b hb; have h2 := gh b hc; omega)
  have Dz1_h := Lib.hid (show ∀ b ∈ sz1, b ∉ sh from fun b hb hc => by have h1 := Oz1_19.out.lt b hb; have h2 := gh b hc; omega)
  have Dh_z1 := Lib.hid (show ∀ b ∈ sh, b ∉ sz1 from fun b hc hb => by have h1 := Oz1_19.out.lt b hb; have h2 := gh b hc; omega)
  have Gh := Lib.hid (fun b hb => Nat.le_trans E19.out.size (gh b hb))
  have B20 := Lib.hid (B19.out.trans ((b20).mono B19.out.size))
  have E20 := Lib.hid (E19.out.trans ((b20).mono E19.out.size))
  have Ox0_20 := Lib.hid (Ox0_19.out.below (b20))
  have Ox1_20 := Lib.hid (Ox1_19.out.below (b20))
  have Og_20 := Lib.hid (Og_19.out.below (b20))
  have Oz0_20 := Lib.hid (Oz0_19.out.below (b20))
  have Oz1_20 := Lib.hid (Oz1_19.out.below (b20))
  clear Ox0_19 Ox1_19 Og_19 Oz0_19 Oz1_19 b20 gh oh
  clear Oz0_20
  clear Oz1_20
  go_wp2_with fail
  refine (eqActS_any _ _ M0 _ Oh_20.out.acts (S.out.below E20.out)).mono ?_
  rintro e w21 ⟨rfl, b21⟩
  have B21 := Lib.hid (B20.out.trans ((b21).mono B20.out.size))
  have E21 := Lib.hid (E20.out.trans ((b21).mono E20.out.size))
  have Ox0_21 := Lib.hid (Ox0_20.out.below (b21))
  have Ox1_21 := Lib.hid (Ox1_20.out.below (b21))
  have Og_21 := Lib.hid (Og_20.out.below (b21))
  have Oh_21 := Lib.hid (Oh_20.out.below (b21))
  clear Ox0_20 Ox1_20 Og_20 Oh_20 b21
  go_wp2_with fail
  refine (heldLZ Og_21.out HY0.out (by omega) (by omega)).mono ?_
  rintro e wq ⟨rfl, hq⟩
  subst wq
  skip
  have kk12 : decide ((1 + (Y0 : Int)) < 0) = false := by simp; omega
  have kq13 : ((1 + (Y0 : Int)) == (1 + (Y0 : Int))) = true := by simp
  have kp13 : ((1 + (Y0 : Int)) != (1 + (Y0 : Int))) = false := by simp
  go_wp2_with fail
  go_ret
  exact ⟨rfl, B21.out⟩
end Go.Proofs.Ytjmefifdofgncaa
