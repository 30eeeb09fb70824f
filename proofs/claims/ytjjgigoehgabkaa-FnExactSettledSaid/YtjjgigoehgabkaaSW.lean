/- The law FnExactSettled. -/
import Derived.Test.YtjjgigoehgabkaaSV
import Derived.Test.YtjjgigoehgabkaaST
import Derived.Test.YtjjgigoehgabkaaNE
import Derived.Test.YtjjgigoehgabkaaHG
import Derived.Deep.DeepCutAuto
namespace Go.Proofs.Ytjjgigoehgabkaa
open Go.RowKit
set_option linter.unusedVariables false
set_option linter.unusedSimpArgs false

set_option maxRecDepth 100000 in
set_option maxHeartbeats 12800000 in
theorem law_settled (v0 : Value) (l0 : List ActM) (n1 : Int) (w0 : World) (h0 : Acts w0 v0 l0) (h1 : -9223372036854775808 ≤ n1 ∧ n1 ≤ 9223372036854775807) :
    Calls Try.prog 19 #[v0, .int .i64 n1] w0 fun e w' => e = .returned (.bool true) ∧ Below w0.heap.size w0 w' := by
  have H0 := Lib.hid h0
  obtain ⟨M0, hM0⟩ : ∃ M, M = settledM l0 n1 := ⟨_, rfl⟩
  have CS := Lib.hid (fun W u0 (h0 : Acts W u0 l0) (s0 : SmallL l0) => (specSettled_any u0 l0 n1 W h0 h1).mono (R' := RetI W (settledM l0 n1)) fun e w' h => MadeI.ret h)
  have CI := Lib.hid (fun W u0 (h0 : Acts W u0 l0) (s0 : SmallL l0) => (implSettled_any u0 l0 n1 W h0 h1).mono (R' := RetI W (settledM l0 n1)) fun e w' h => MadeI.ret h)
  simp only [← hM0] at CS CI
  have HB0 : M0.length ≤ 4 := by rw [hM0]; exact settledM_four _ _
  obtain ⟨Y0, hY0⟩ : ∃ Y, M0.length = Y := ⟨_, rfl⟩
  rw [hY0] at HB0
  have HY0 := Lib.hid hY0
  clear hY0
  clear hM0 h0
  have B0 := Lib.hid (Below.refl w0.heap.size w0)
  go_enter Try.func19, Try.ntmps19
  go_wp2_with fail
  refine (szActS_any _ l0 1048576 _ (H0.out.below B0.out) (by omega) (by omega)).mono ?_
  rintro e w1 ⟨r0, rfl, ra0, rb0, rs0, b1⟩
  have B1 := Lib.hid (B0.out.trans ((b1).mono B0.out.size))
  have RS0 := Lib.hid rs0
  clear b1 rs0
  by_cases hr0 : r0 < 0
  · go_wp2_with fail
    go_ret
    exact ⟨rfl, B1.out⟩
  have SM0 := Lib.hid (RS0.out (by omega)).1
  have hz0 : szL l0 ≤ 9437184 := by have h1 := (RS0.out (by omega)).2; have h2 := szL_tot l0; omega
  obtain ⟨Z0, hZ0⟩ : ∃ Z, szL l0 = Z := ⟨_, rfl⟩
  rw [hZ0] at hz0
  have HZ0 := Lib.hid hZ0
  clear hZ0
  go_wp2_with fail
  refine (toL_any _ l0 _ (H0.out.below B1.out) SM0.out).mono ?_
  rintro e w2 ⟨us0, ss0, rfl, os0, gs0, b2⟩
  have Os0_2 := Lib.hid os0
  have B2 := Lib.hid (B1.out.trans ((b2).mono B1.out.size))
  clear b2 gs0 os0
  go_wp2_with fail
  refine (CS.out _ _ Os0_2.out.acts SM0.out).mono ?_
  rintro e w3 ⟨uS, sS, rfl, oS, gS, b3⟩
  have B3 := Lib.hid (B2.out.trans ((b3).mono B2.out.size))
  have S := Lib.hid oS.ints
  clear Os0_2 b3 gS oS
  have E3 := Lib.hid (Below.refl w3.heap.size w3)
  go_wp2_with fail
  refine (toL_any _ l0 _ (H0.out.below B3.out) SM0.out).mono ?_
  rintro e w4 ⟨ux0, sx0, rfl, ox0, gx0, b4⟩
  have Ox0_4 := Lib.hid ox0
  have Gx0 := Lib.hid (fun b hb => Nat.le_trans E3.out.size (gx0 b hb))
  have B4 := Lib.hid (B3.out.trans ((b4).mono B3.out.size))
  have E4 := Lib.hid (E3.out.trans ((b4).mono E3.out.size))
  clear b4 gx0 ox0
  go_wp2_with fail
  refine (CI.out _ _ Ox0_4.out.acts SM0.out).mono ?_
  rintro e w5 ⟨ug, sg, rfl, og, gg, b5⟩
  have Og_5 := Lib.hid og
  have Dx0_g := Lib.hid (show ∀ b ∈ sx0, b ∉ sg from fun b hb hc => by have h1 := Ox0_4.out.lt b hb; have h2 := gg b hc; omega)
  have Dg_x0 := Lib.hid (show ∀ b ∈ sg, b ∉ sx0 from fun b hc hb => by have h1 := Ox0_4.out.lt b hb; have h2 := gg b hc; omega)
  have Gg := Lib.hid (fun b hb => Nat.le_trans E4.out.size (gg b hb))
  have B5 := Lib.hid (B4.out.trans ((b5).mono B4.out.size))
  have E5 := Lib.hid (E4.out.trans ((b5).mono E4.out.size))
  have Ox0_5 := Lib.hid (Ox0_4.out.below (b5))
  clear Ox0_4 b5 gg og
  go_wp2_with fail
  refine (eqI_any _ _ M0 _ Og_5.out.ints (S.out.below (B := 0) E5.out)).mono ?_
  rintro e w6 ⟨rfl, b6⟩
  have B6 := Lib.hid (B5.out.trans ((b6).mono B5.out.size))
  have E6 := Lib.hid (E5.out.trans ((b6).mono E5.out.size))
  have Ox0_6 := Lib.hid (Ox0_5.out.below (b6))
  have Og_6 := Lib.hid (Og_5.out.below (b6))
  clear Ox0_5 Og_5 b6
  go_wp2_with fail
  refine (toL_any _ l0 _ (H0.out.below B6.out) SM0.out).mono ?_
  rintro e w7 ⟨uy0, sy0, rfl, oy0, gy0, b7⟩
  have Oy0_7 := Lib.hid oy0
  have Dx0_y0 := Lib.hid (show ∀ b ∈ sx0, b ∉ sy0 from fun b hb hc => by have h1 := Ox0_6.out.lt b hb; have h2 := gy0 b hc; omega)
  have Dy0_x0 := Lib.hid (show ∀ b ∈ sy0, b ∉ sx0 from fun b hc hb => by have h1 := Ox0_6.out.lt b hb; have h2 := gy0 b hc; omega)
  have Dg_y0 := Lib.hid (show ∀ b ∈ sg, b ∉ sy0 from fun b hb hc => by have h1 := Og_6.out.lt b hb; have h2 := gy0 b hc; omega)
  have Dy0_g := Lib.hid (show ∀ b ∈ sy0, b ∉ sg from fun b hc hb => by have h1 := Og_6.out.lt b hb; have h2 := gy0 b hc; omega)
  have Gy0 := Lib.hid (fun b hb => Nat.le_trans E6.out.size (gy0 b hb))
  have B7 := Lib.hid (B6.out.trans ((b7).mono B6.out.size))
  have E7 := Lib.hid (E6.out.trans ((b7).mono E6.out.size))
  have Ox0_7 := Lib.hid (Ox0_6.out.below (b7))
  have Og_7 := Lib.hid (Og_6.out.below (b7))
  clear Ox0_6 Og_6 b7 gy0 oy0
  go_wp2_with fail
  refine (eqActS_any _ _ l0 _ Ox0_7.out.acts Oy0_7.out.acts).mono ?_
  rintro e w8 ⟨rfl, b8⟩
  have B8 := Lib.hid (B7.out.trans ((b8).mono B7.out.size))
  have E8 := Lib.hid (E7.out.trans ((b8).mono E7.out.size))
  have Ox0_8 := Lib.hid (Ox0_7.out.below (b8))
  have Og_8 := Lib.hid (Og_7.out.below (b8))
  have Oy0_8 := Lib.hid (Oy0_7.out.below (b8))
  clear Ox0_7 Og_7 Oy0_7 b8
  clear Oy0_8
  go_wp2_with fail
  refine (markLZ Ox0_8.out HZ0.out 1 (by omega) (by omega)).mono ?_
  rintro e w9 ⟨rfl, o9, g9⟩
  have Ox0_9 := Lib.hid o9
  have Og_9 := Lib.hid (Og_8.out.other g9 Dg_x0.out)
  have bE := g9.below Gx0.out E8.out.size
  have E9 := Lib.hid (E8.out.trans bE)
  have B9 := Lib.hid (B3.out.trans (E9.out.mono B3.out.size))
  clear Ox0_8 Og_8 bE o9 g9
  have kk4 : decide ((1 + (Z0 : Int)) < 0) = false := by simp; omega
  go_wp2_with fail
  refine (eqI_any _ _ M0 _ Og_9.out.ints (S.out.below (B := 0) E9.out)).mono ?_
  rintro e w10 ⟨rfl, b10⟩
  have B10 := Lib.hid (B9.out.trans ((b10).mono B9.out.size))
  have E10 := Lib.hid (E9.out.trans ((b10).mono E9.out.size))
  have Ox0_10 := Lib.hid (Ox0_9.out.below (b10))
  have Og_10 := Lib.hid (Og_9.out.below (b10))
  clear Ox0_9 Og_9 b10
  go_wp2_with fail
  refine (markIZ Og_10.out HY0.out 1 (by omega) (by omega)).mono ?_
  rintro e w11 ⟨rfl, o11, g11⟩
  have Og_11 := Lib.hid o11
  have Ox0_11 := Lib.hid (Ox0_10.out.other g11 Dx0_g.out)
  have bE := g11.below Gg.out E10.out.size
  have E11 := Lib.hid (E10.out.trans bE)
  have B11 := Lib.hid (B3.out.trans (E11.out.mono B3.out.size))
  clear Ox0_10 Og_10 bE o11 g11
  go_wp2_with fail
  refine (heldIZ Og_11.out (by omega) (by omega)).mono ?_
  rintro e wq ⟨rfl, hq⟩
  subst wq
  skip
  have kk5 : decide ((1 + (Y0 : Int)) < 0) = false := by simp; omega
  have kq6 : ((1 + (Y0 : Int)) == (1 + (Y0 : Int))) = true := by simp
  have kp6 : ((1 + (Y0 : Int)) != (1 + (Y0 : Int))) = false := by simp
  go_wp2_with fail
  refine (toL_any _ l0 _ (H0.out.below B11.out) SM0.out).mono ?_
  rintro e w12 ⟨uz0, sz0, rfl, oz0, gz0, b12⟩
  have Oz0_12 := Lib.hid oz0
  have Dx0_z0 := Lib.hid (show ∀ b ∈ sx0, b ∉ sz0 from fun b hb hc => by have h1 := Ox0_11.out.lt b hb; have h2 := gz0 b hc; omega)
  have Dz0_x0 := Lib.hid (show ∀ b ∈ sz0, b ∉ sx0 from fun b hc hb => by have h1 := Ox0_11.out.lt b hb; have h2 := gz0 b hc; omega)
  have Dg_z0 := Lib.hid (show ∀ b ∈ sg, b ∉ sz0 from fun b hb hc => by have h1 := Og_11.out.lt b hb; have h2 := gz0 b hc; omega)
  have Dz0_g := Lib.hid (show ∀ b ∈ sz0, b ∉ sg from fun b hc hb => by have h1 := Og_11.out.lt b hb; have h2 := gz0 b hc; omega)
  have Gz0 := Lib.hid (fun b hb => Nat.le_trans E11.out.size (gz0 b hb))
  have B12 := Lib.hid (B11.out.trans ((b12).mono B11.out.size))
  have E12 := Lib.hid (E11.out.trans ((b12).mono E11.out.size))
  have Ox0_12 := Lib.hid (Ox0_11.out.below (b12))
  have Og_12 := Lib.hid (Og_11.out.below (b12))
  clear Ox0_11 Og_11 b12 gz0 oz0
  go_wp2_with fail
  refine (CI.out _ _ Oz0_12.out.acts SM0.out).mono ?_
  rintro e w13 ⟨uh, sh, rfl, oh, gh, b13⟩
  have Oh_13 := Lib.hid oh
  have Dx0_h := Lib.hid (show ∀ b ∈ sx0, b ∉ sh from fun b hb hc => by have h1 := Ox0_12.out.lt b hb; have h2 := gh b hc; omega)
  have Dh_x0 := Lib.hid (show ∀ b ∈ sh, b ∉ sx0 from fun b hc hb => by have h1 := Ox0_12.out.lt b hb; have h2 := gh b hc; omega)
  have Dg_h := Lib.hid (show ∀ b ∈ sg, b ∉ sh from fun b hb hc => by have h1 := Og_12.out.lt b hb; have h2 := gh b hc; omega)
  have Dh_g := Lib.hid (show ∀ b ∈ sh, b ∉ sg from fun b hc hb => by have h1 := Og_12.out.lt b hb; have h2 := gh b hc; omega)
  have Dz0_h := Lib.hid (show ∀ b ∈ sz0, b ∉ sh from fun b hb hc => by have h1 := Oz0_12.out.lt b hb; have h2 := gh b hc; omega)
  have Dh_z0 := Lib.hid (show ∀ b ∈ sh, b ∉ sz0 from fun b hc hb => by have h1 := Oz0_12.out.lt b hb; have h2 := gh b hc; omega)
  have Gh := Lib.hid (fun b hb => Nat.le_trans E12.out.size (gh b hb))
  have B13 := Lib.hid (B12.out.trans ((b13).mono B12.out.size))
  have E13 := Lib.hid (E12.out.trans ((b13).mono E12.out.size))
  have Ox0_13 := Lib.hid (Ox0_12.out.below (b13))
  have Og_13 := Lib.hid (Og_12.out.below (b13))
  have Oz0_13 := Lib.hid (Oz0_12.out.below (b13))
  clear Ox0_12 Og_12 Oz0_12 b13 gh oh
  clear Oz0_13
  go_wp2_with fail
  refine (eqI_any _ _ M0 _ Oh_13.out.ints (S.out.below (B := 0) E13.out)).mono ?_
  rintro e w14 ⟨rfl, b14⟩
  have B14 := Lib.hid (B13.out.trans ((b14).mono B13.out.size))
  have E14 := Lib.hid (E13.out.trans ((b14).mono E13.out.size))
  have Ox0_14 := Lib.hid (Ox0_13.out.below (b14))
  have Og_14 := Lib.hid (Og_13.out.below (b14))
  have Oh_14 := Lib.hid (Oh_13.out.below (b14))
  clear Ox0_13 Og_13 Oh_13 b14
  go_wp2_with fail
  refine (heldIZ Og_14.out (by omega) (by omega)).mono ?_
  rintro e wq ⟨rfl, hq⟩
  subst wq
  skip
  have kk8 : decide ((1 + (Y0 : Int)) < 0) = false := by simp; omega
  have kq9 : ((1 + (Y0 : Int)) == (1 + (Y0 : Int))) = true := by simp
  have kp9 : ((1 + (Y0 : Int)) != (1 + (Y0 : Int))) = false := by simp
  go_wp2_with fail
  go_ret
  exact ⟨rfl, B14.out⟩
end Go.Proofs.Ytjjgigoehgabkaa
