/- The law FnExactLacks. -/
import Derived.Test.YtjmefifdofgncaaKL
namespace Go.Proofs.Ytjmefifdofgncaa
open Go.RowKit
set_option linter.unusedVariables false

set_option maxRecDepth 100000 in
set_option maxHeartbeats 6400000 in
theorem law_lacks (v0 : Value) (l0 : List ActM) (n1 : Int) (v2 : Value) (l2 : List Int) (w : World) (h0 : Acts w v0 l0) (h1 : -9223372036854775808 ≤ n1 ∧ n1 ≤ 9223372036854775807) (h2 : Ints w v2 l2) :
    Calls Try.prog 8 #[v0, .int .i64 n1, v2] w fun e w' => e = .returned (.bool true) ∧ Below w.heap.size w w' := by
  have H0 := Lib.hid h0
  have H2 := Lib.hid h2
  obtain ⟨M0, hM0⟩ : ∃ M, M = lacksM l0 n1 l2 := ⟨_, rfl⟩
  have CS := Lib.hid (fun W u0 u2 (h0 : Acts W u0 l0) (h2 : Ints W u2 l2) => specLacks_any u0 u2 l0 l2 n1 W h0 h2 h1)
  have CI := Lib.hid (fun W u0 u2 (h0 : Acts W u0 l0) (h2 : Ints W u2 l2) => implLacks_any u0 u2 l0 l2 n1 W h0 h2 h1)
  simp only [← hM0] at CS CI
  have HB0 : szL M0 ≤ 1980 := by rw [hM0]; exact szL_lacks _ _ _
  obtain ⟨Y0, hY0⟩ : ∃ Y, szL M0 = Y := ⟨_, rfl⟩
  rw [hY0] at HB0
  have HY0 := Lib.hid hY0
  clear hY0
  clear hM0 h0 h2
  obtain ⟨a2, c2, rfl⟩ := ints_len H2.out
  obtain ⟨Z2, hZ2⟩ : ∃ Z, l2.length = Z := ⟨_, rfl⟩
  have HX2 := Lib.hid (ints_max H2.out)
  rw [hZ2] at H2 HX2 ⊢
  have HZ2 := Lib.hid hZ2
  clear hZ2
  have hx2 := HX2.out
  by_cases hN2 : Z2 ≤ 1048576
  rotate_left
  · go_enter Try.func8, Try.ntmps8
    go_wp2_with fail
    go_ret
    exact ⟨rfl, Below.refl _ _⟩
  go_enter Try.func8, Try.ntmps8
  have B0 := Lib.hid (Below.refl w.heap.size w)
  go_wp2_with fail
  refine (szActS_any _ l0 1048576 _ (H0.out.below B0.out) (by omega) (by omega)).mono ?_
  rintro e w1 ⟨r0, rfl, ra0, rb0, rs0, b1⟩
  have B1 := Lib.hid (B0.out.trans (b1.mono B0.out.size))
  have RS0 := Lib.hid rs0
  clear b1 rs0
  by_cases hr0 : r0 < 0
  · go_wp2_with fail
    go_ret
    exact ⟨rfl, B1.out⟩
  have SM0 := Lib.hid (RS0.out (by omega)).1
  have hz0 : szL l0 ≤ 9437184 := by have h1 := (RS0.out (by omega)).2; have h2 := szL_tot l0; omega
  obtain ⟨Z0, hZ0⟩ : ∃ Z, szL l0 = Z := ⟨_, rfl⟩
  rw [hZ0] at hz0
  have HZ0 := Lib.hid hZ0
  clear hZ0
  go_wp2_with fail
  refine (toL_any _ l0 _ (H0.out.below B1.out) SM0.out).mono ?_
  rintro e w2 ⟨us0, ss0, rfl, os0, gs0, b2⟩
  have Os0_2 := Lib.hid os0
  have B2 := Lib.hid (B1.out.trans (b2.mono B1.out.size))
  clear b2 gs0 os0 
  go_wp2_with fail
  refine (toI_any _ l2 _ (H2.out.below (B := 0) B2.out) (by rw [HZ2.out]; exact hN2)).mono ?_
  rintro e w3 ⟨us2, ss2, rfl, os2, gs2, b3⟩
  have Os2_3 := Lib.hid os2
  have Ds0_s2 := Lib.hid (show ∀ b ∈ ss0, b ∉ ss2 from fun b hb hc => by have h1 := Os0_2.out.lt b hb; have h2 := gs2 b hc; omega)
  have Ds2_s0 := Lib.hid (show ∀ b ∈ ss2, b ∉ ss0 from fun b hc hb => by have h1 := Os0_2.out.lt b hb; have h2 := gs2 b hc; omega)
  have B3 := Lib.hid (B2.out.trans (b3.mono B2.out.size))
  have Os0_3 := Lib.hid (Os0_2.out.below b3)
  clear b3 gs2 os2 Os0_2
  go_wp2_with fail
  refine (CS.out _ _ _ Os0_3.out.acts Os2_3.out.ints).mono ?_
  rintro e w4 ⟨uS, rfl, oS, b4⟩
  have B4 := Lib.hid (B3.out.trans (b4.mono B3.out.size))
  have S := Lib.hid oS
  clear b4 oS B3 Os0_3 Os2_3
  have E4 := Lib.hid (Below.refl w4.heap.size w4)
  go_wp2_with fail
  refine (toL_any _ l0 _ (H0.out.below (B4.out.trans (E4.out.mono B4.out.size))) SM0.out).mono ?_
  rintro e w5 ⟨ux0, sx0, rfl, ox0, gx0, b5⟩
  have Ox0_5 := Lib.hid ox0
  have Gx0 := Lib.hid (fun b hb => Nat.le_trans E4.out.size (gx0 b hb))
  have E5 := Lib.hid (E4.out.trans (b5.mono E4.out.size))
  clear b5 gx0 ox0 
  go_wp2_with fail
  refine (toI_any _ l2 _ (H2.out.below (B := 0) (B4.out.trans (E5.out.mono B4.out.size))) (by rw [HZ2.out]; exact hN2)).mono ?_
  rintro e w6 ⟨ux2, sx2, rfl, ox2, gx2, b6⟩
  have Ox2_6 := Lib.hid ox2
  have Dx0_x2 := Lib.hid (show ∀ b ∈ sx0, b ∉ sx2 from fun b hb hc => by have h1 := Ox0_5.out.lt b hb; have h2 := gx2 b hc; omega)
  have Dx2_x0 := Lib.hid (show ∀ b ∈ sx2, b ∉ sx0 from fun b hc hb => by have h1 := Ox0_5.out.lt b hb; have h2 := gx2 b hc; omega)
  have Gx2 := Lib.hid (fun b hb => Nat.le_trans E5.out.size (gx2 b hb))
  have E6 := Lib.hid (E5.out.trans (b6.mono E5.out.size))
  have Ox0_6 := Lib.hid (Ox0_5.out.below b6)
  clear b6 gx2 ox2 Ox0_5
  go_wp2_with fail
  refine (CI.out _ _ _ Ox0_6.out.acts Ox2_6.out.ints).mono ?_
  rintro e w7 ⟨ug, sg, rfl, og, gg, b7⟩
  have Og_7 := Lib.hid og
  have Dx0_g := Lib.hid (show ∀ b ∈ sx0, b ∉ sg from fun b hb hc => by have h1 := Ox0_6.out.lt b hb; have h2 := gg b hc; omega)
  have Dg_x0 := Lib.hid (show ∀ b ∈ sg, b ∉ sx0 from fun b hc hb => by have h1 := Ox0_6.out.lt b hb; have h2 := gg b hc; omega)
  have Dx2_g := Lib.hid (show ∀ b ∈ sx2, b ∉ sg from fun b hb hc => by have h1 := Ox2_6.out.lt b hb; have h2 := gg b hc; omega)
  have Dg_x2 := Lib.hid (show ∀ b ∈ sg, b ∉ sx2 from fun b hc hb => by have h1 := Ox2_6.out.lt b hb; have h2 := gg b hc; omega)
  have Gg := Lib.hid (fun b hb => Nat.le_trans E6.out.size (gg b hb))
  have E7 := Lib.hid (E6.out.trans (b7.mono E6.out.size))
  have Ox0_7 := Lib.hid (Ox0_6.out.below b7)
  have Ox2_7 := Lib.hid (Ox2_6.out.below b7)
  clear b7 gg og Ox0_6 Ox2_6
  go_wp2_with fail
  refine (eqActS_any _ _ M0 _ Og_7.out.acts (S.out.below E7.out)).mono ?_
  rintro e w8 ⟨rfl, b8⟩
  have E8 := Lib.hid (E7.out.trans (b8.mono E7.out.size))
  have Ox0_8 := Lib.hid (Ox0_7.out.below b8)
  have Ox2_8 := Lib.hid (Ox2_7.out.below b8)
  have Og_8 := Lib.hid (Og_7.out.below b8)
  clear b8 Ox0_7 Ox2_7 Og_7
  go_wp2_with fail
  refine (toL_any _ l0 _ (H0.out.below (B4.out.trans (E8.out.mono B4.out.size))) SM0.out).mono ?_
  rintro e w9 ⟨uy0, sy0, rfl, oy0, gy0, b9⟩
  have Oy0_9 := Lib.hid oy0
  have Dx0_y0 := Lib.hid (show ∀ b ∈ sx0, b ∉ sy0 from fun b hb hc => by have h1 := Ox0_8.out.lt b hb; have h2 := gy0 b hc; omega)
  have Dy0_x0 := Lib.hid (show ∀ b ∈ sy0, b ∉ sx0 from fun b hc hb => by have h1 := Ox0_8.out.lt b hb; have h2 := gy0 b hc; omega)
  have Dx2_y0 := Lib.hid (show ∀ b ∈ sx2, b ∉ sy0 from fun b hb hc => by have h1 := Ox2_8.out.lt b hb; have h2 := gy0 b hc; omega)
  have Dy0_x2 := Lib.hid (show ∀ b ∈ sy0, b ∉ sx2 from fun b hc hb => by have h1 := Ox2_8.out.lt b hb; have h2 := gy0 b hc; omega)
  have Dg_y0 := Lib.hid (show ∀ b ∈ sg, b ∉ sy0 from fun b hb hc => by have h1 := Og_8.out.lt b hb; have h2 := gy0 b hc; omega)
  have Dy0_g := Lib.hid (show ∀ b ∈ sy0, b ∉ sg from fun b hc hb => by have h1 := Og_8.out.lt b hb; have h2 := gy0 b hc; omega)
  have Gy0 := Lib.hid (fun b hb => Nat.le_trans E8.out.size (gy0 b hb))
  have E9 := Lib.hid (E8.out.trans (b9.mono E8.out.size))
  have Ox0_9 := Lib.hid (Ox0_8.out.below b9)
  have Ox2_9 := Lib.hid (Ox2_8.out.below b9)
  have Og_9 := Lib.hid (Og_8.out.below b9)
  clear b9 gy0 oy0 Ox0_8 Ox2_8 Og_8
  go_wp2_with fail
  refine (eqActS_any _ _ l0 _ Ox0_9.out.acts Oy0_9.out.acts).mono ?_
  rintro e w10 ⟨rfl, b10⟩
  have E10 := Lib.hid (E9.out.trans (b10.mono E9.out.size))
  have Ox0_10 := Lib.hid (Ox0_9.out.below b10)
  have Ox2_10 := Lib.hid (Ox2_9.out.below b10)
  have Og_10 := Lib.hid (Og_9.out.below b10)
  clear b10 Ox0_9 Ox2_9 Og_9 Oy0_9 Gy0 Dx0_y0 Dy0_x0 Dx2_y0 Dy0_x2 Dg_y0 Dy0_g
  go_wp2_with fail
  refine (toI_any _ l2 _ (H2.out.below (B := 0) (B4.out.trans (E10.out.mono B4.out.size))) (by rw [HZ2.out]; exact hN2)).mono ?_
  rintro e w11 ⟨uy2, sy2, rfl, oy2, gy2, b11⟩
  have Oy2_11 := Lib.hid oy2
  have Dx0_y2 := Lib.hid (show ∀ b ∈ sx0, b ∉ sy2 from fun b hb hc => by have h1 := Ox0_10.out.lt b hb; have h2 := gy2 b hc; omega)
  have Dy2_x0 := Lib.hid (show ∀ b ∈ sy2, b ∉ sx0 from fun b hc hb => by have h1 := Ox0_10.out.lt b hb; have h2 := gy2 b hc; omega)
  have Dx2_y2 := Lib.hid (show ∀ b ∈ sx2, b ∉ sy2 from fun b hb hc => by have h1 := Ox2_10.out.lt b hb; have h2 := gy2 b hc; omega)
  have Dy2_x2 := Lib.hid (show ∀ b ∈ sy2, b ∉ sx2 from fun b hc hb => by have h1 := Ox2_10.out.lt b hb; have h2 := gy2 b hc; omega)
  have Dg_y2 := Lib.hid (show ∀ b ∈ sg, b ∉ sy2 from fun b hb hc => by have h1 := Og_10.out.lt b hb; have h2 := gy2 b hc; omega)
  have Dy2_g := Lib.hid (show ∀ b ∈ sy2, b ∉ sg from fun b hc hb => by have h1 := Og_10.out.lt b hb; have h2 := gy2 b hc; omega)
  have Gy2 := Lib.hid (fun b hb => Nat.le_trans E10.out.size (gy2 b hb))
  have E11 := Lib.hid (E10.out.trans (b11.mono E10.out.size))
  have Ox0_11 := Lib.hid (Ox0_10.out.below b11)
  have Ox2_11 := Lib.hid (Ox2_10.out.below b11)
  have Og_11 := Lib.hid (Og_10.out.below b11)
  clear b11 gy2 oy2 Ox0_10 Ox2_10 Og_10
  go_wp2_with fail
  refine (eqI_any _ _ l2 _ Ox2_11.out.ints Oy2_11.out.ints).mono ?_
  rintro e w12 ⟨rfl, b12⟩
  have E12 := Lib.hid (E11.out.trans (b12.mono E11.out.size))
  have Ox0_12 := Lib.hid (Ox0_11.out.below b12)
  have Ox2_12 := Lib.hid (Ox2_11.out.below b12)
  have Og_12 := Lib.hid (Og_11.out.below b12)
  clear b12 Ox0_11 Ox2_11 Og_11 Oy2_11 Gy2 Dx0_y2 Dy2_x0 Dx2_y2 Dy2_x2 Dg_y2 Dy2_g
  go_wp2_with fail
  refine (markLZ Ox0_12.out HZ0.out 1 (by omega) (by omega)).mono ?_
  rintro e w13 ⟨rfl, o13, g13⟩
  have Ox0_13 := Lib.hid o13
  have Ox2_13 := Lib.hid (Ox2_12.out.other g13 Dx2_x0.out)
  have Og_13 := Lib.hid (Og_12.out.other g13 Dg_x0.out)
  have E13 := Lib.hid (E12.out.trans (g13.below Gx0.out E12.out.size))
  clear o13 g13 Ox0_12 Ox2_12 Og_12
  go_wp2_with fail
  refine (markIZ Ox2_13.out HZ2.out (1 + (Z0 : Int)) (by omega) (by omega)).mono ?_
  rintro e w14 ⟨rfl, o14, g14⟩
  have Ox2_14 := Lib.hid o14
  have Ox0_14 := Lib.hid (Ox0_13.out.other g14 Dx0_x2.out)
  have Og_14 := Lib.hid (Og_13.out.other g14 Dg_x2.out)
  have E14 := Lib.hid (E13.out.trans (g14.below Gx2.out E13.out.size))
  clear o14 g14 Ox0_13 Ox2_13 Og_13
  have kk : decide (((1 + (Z0 : Int)) + (Z2 : Int)) < 0) = false := by simp; omega
  go_wp2_with fail
  refine (eqActS_any _ _ M0 _ Og_14.out.acts (S.out.below E14.out)).mono ?_
  rintro e w15 ⟨rfl, b15⟩
  have E15 := Lib.hid (E14.out.trans (b15.mono E14.out.size))
  have Ox0_15 := Lib.hid (Ox0_14.out.below b15)
  have Ox2_15 := Lib.hid (Ox2_14.out.below b15)
  have Og_15 := Lib.hid (Og_14.out.below b15)
  clear b15 Ox0_14 Ox2_14 Og_14
  clear kk
  go_wp2_with fail
  refine (markLZ Og_15.out HY0.out 1 (by omega) (by omega)).mono ?_
  rintro e w16 ⟨rfl, o16, g16⟩
  have Og_16 := Lib.hid o16
  have Ox0_16 := Lib.hid (Ox0_15.out.other g16 Dx0_g.out)
  have Ox2_16 := Lib.hid (Ox2_15.out.other g16 Dx2_g.out)
  have E16 := Lib.hid (E15.out.trans (g16.below Gg.out E15.out.size))
  clear o16 g16 Ox0_15 Ox2_15 Og_15
  go_wp2_with fail
  refine (heldLZ Og_16.out HY0.out (by omega) (by omega)).mono ?_
  rintro e w17 ⟨rfl, rfl⟩
  have kk : decide ((1 : Int) + (Y0 : Int) < 0) = false := by simp; omega
  have kq : (((1 : Int) + (Y0 : Int)) == (1 + (Y0 : Int))) = true := by simp
  have kp : (((1 : Int) + (Y0 : Int)) != (1 + (Y0 : Int))) = false := by simp
  go_wp2_with fail
  refine (toL_any _ l0 _ (H0.out.below (B4.out.trans (E16.out.mono B4.out.size))) SM0.out).mono ?_
  rintro e w17 ⟨uz0, sz0, rfl, oz0, gz0, b17⟩
  have Oz0_17 := Lib.hid oz0
  have Dg_z0 := Lib.hid (show ∀ b ∈ sg, b ∉ sz0 from fun b hb hc => by have h1 := Og_16.out.lt b hb; have h2 := gz0 b hc; omega)
  have Dz0_g := Lib.hid (show ∀ b ∈ sz0, b ∉ sg from fun b hc hb => by have h1 := Og_16.out.lt b hb; have h2 := gz0 b hc; omega)
  have Gz0 := Lib.hid (fun b hb => Nat.le_trans E16.out.size (gz0 b hb))
  have E17 := Lib.hid (E16.out.trans (b17.mono E16.out.size))
  have Og_17 := Lib.hid (Og_16.out.below b17)
  clear b17 gz0 oz0 Og_16
  go_wp2_with fail
  refine (toI_any _ l2 _ (H2.out.below (B := 0) (B4.out.trans (E17.out.mono B4.out.size))) (by rw [HZ2.out]; exact hN2)).mono ?_
  rintro e w18 ⟨uz2, sz2, rfl, oz2, gz2, b18⟩
  have Oz2_18 := Lib.hid oz2
  have Dg_z2 := Lib.hid (show ∀ b ∈ sg, b ∉ sz2 from fun b hb hc => by have h1 := Og_17.out.lt b hb; have h2 := gz2 b hc; omega)
  have Dz2_g := Lib.hid (show ∀ b ∈ sz2, b ∉ sg from fun b hc hb => by have h1 := Og_17.out.lt b hb; have h2 := gz2 b hc; omega)
  have Dz0_z2 := Lib.hid (show ∀ b ∈ sz0, b ∉ sz2 from fun b hb hc => by have h1 := Oz0_17.out.lt b hb; have h2 := gz2 b hc; omega)
  have Dz2_z0 := Lib.hid (show ∀ b ∈ sz2, b ∉ sz0 from fun b hc hb => by have h1 := Oz0_17.out.lt b hb; have h2 := gz2 b hc; omega)
  have Gz2 := Lib.hid (fun b hb => Nat.le_trans E17.out.size (gz2 b hb))
  have E18 := Lib.hid (E17.out.trans (b18.mono E17.out.size))
  have Og_18 := Lib.hid (Og_17.out.below b18)
  have Oz0_18 := Lib.hid (Oz0_17.out.below b18)
  clear b18 gz2 oz2 Og_17 Oz0_17
  go_wp2_with fail
  refine (CI.out _ _ _ Oz0_18.out.acts Oz2_18.out.ints).mono ?_
  rintro e w19 ⟨uh, sh, rfl, oh, gh, b19⟩
  have Oh_19 := Lib.hid oh
  have E19 := Lib.hid (E18.out.trans (b19.mono E18.out.size))
  have Og_19 := Lib.hid (Og_18.out.below b19)
  clear b19 gh oh Og_18 Oz0_18 Oz2_18
  go_wp2_with fail
  refine (eqActS_any _ _ M0 _ Oh_19.out.acts (S.out.below E19.out)).mono ?_
  rintro e w20 ⟨rfl, b20⟩
  have E20 := Lib.hid (E19.out.trans (b20.mono E19.out.size))
  have Oh_20 := Lib.hid (Oh_19.out.below b20)
  have Og_20 := Lib.hid (Og_19.out.below b20)
  clear b20 Oh_19 Og_19
  go_wp2_with fail
  refine (heldLZ Og_20.out HY0.out (by omega) (by omega)).mono ?_
  rintro e w21 ⟨rfl, rfl⟩
  go_wp2_with fail
  go_ret
  exact ⟨rfl, (B4.out.trans (E20.out.mono B4.out.size))⟩
end Go.Proofs.Ytjmefifdofgncaa
