/- The law FnExactClockOf. -/
import Derived.Test.YtjmefifdofgncaaHF
import Derived.Test.YtjmefifdofgncaaHG
namespace Go.Proofs.Ytjmefifdofgncaa
open Go.RowKit
set_option linter.unusedVariables false

set_option maxRecDepth 100000 in
set_option maxHeartbeats 6400000 in
theorem law_clockOf (v0 : Value) (l0 : List ActM) (n1 : Int) (w : World) (h0 : Acts w v0 l0) (h1 : -9223372036854775808 ≤ n1 ∧ n1 ≤ 9223372036854775807) :
    Calls Try.prog 4 #[v0, .int .i64 n1] w fun e w' => e = .returned (.bool true) ∧ Below w.heap.size w w' := by
  have H0 := Lib.hid h0
  obtain ⟨M0, hM0⟩ : ∃ M, M = clockOfM l0 n1 := ⟨_, rfl⟩
  have CS := Lib.hid (fun W u (h : Acts W u l0) => (specClockOf_any u l0 n1 W h h1).mono (R' := SeesI W (clockOfM l0 n1)) fun e w' h => (MadeI.ret h).sees)
  have CI := Lib.hid (fun W u (h : Acts W u l0) => (implClockOf_any u l0 n1 W h h1).mono (R' := RetI W (clockOfM l0 n1)) fun e w' h => MadeI.ret h)
  simp only [← hM0] at CS CI
  have HB0 : M0.length ≤ 4 := by rw [hM0]; exact clockOfM_len _ _
  obtain ⟨Y0, hY0⟩ : ∃ Y, M0.length = Y := ⟨_, rfl⟩
  rw [hY0] at HB0
  have HY0 := Lib.hid hY0
  clear hY0
  clear hM0 h0
  go_enter Try.func4, Try.ntmps4
  have B0 := Lib.hid (Below.refl w.heap.size w)
  go_wp2_with fail
  refine (szActS_any _ l0 1048576 _ (H0.out.below B0.out) (by omega) (by omega)).mono ?_
  rintro e w1 ⟨r0, rfl, ra0, rb0, rs0, b1⟩
  have B1 := Lib.hid (B0.out.trans (b1.mono B0.out.size))
  have RS0 := Lib.hid rs0
  clear b1 rs0
  by_cases hr0 : r0 < 0
  · go_wp2_with fail
    go_ret
    exact ⟨rfl, B1.out⟩
  have SM0 := Lib.hid (RS0.out (by omega)).1
  have hz0 : szL l0 ≤ 9437184 := by have h1 := (RS0.out (by omega)).2; have h2 := szL_tot l0; omega
  obtain ⟨Z0, hZ0⟩ : ∃ Z, szL l0 = Z := ⟨_, rfl⟩
  rw [hZ0] at hz0
  have HZ0 := Lib.hid hZ0
  clear hZ0
  go_wp2_with fail
  refine (toL_any _ l0 _ (H0.out.below B1.out) SM0.out).mono ?_
  rintro e w2 ⟨us0, ss0, rfl, os0, gs0, b2⟩
  have Os0_2 := Lib.hid os0
  have B2 := Lib.hid (B1.out.trans (b2.mono B1.out.size))
  clear b2 gs0 os0 
  go_wp2_with fail
  refine (CS.out _ _ Os0_2.out.acts).mono ?_
  rintro e w3 ⟨uS, rfl, oS, b3⟩
  have B3 := Lib.hid (B2.out.trans (b3.mono B2.out.size))
  have S := Lib.hid oS
  clear b3 oS B2 Os0_2
  have E3 := Lib.hid (Below.refl w3.heap.size w3)
  go_wp2_with fail
  refine (toL_any _ l0 _ (H0.out.below (B3.out.trans (E3.out.mono B3.out.size))) SM0.out).mono ?_
  rintro e w4 ⟨ux0, sx0, rfl, ox0, gx0, b4⟩
  have Ox0_4 := Lib.hid ox0
  have Gx0 := Lib.hid (fun b hb => Nat.le_trans E3.out.size (gx0 b hb))
  have E4 := Lib.hid (E3.out.trans (b4.mono E3.out.size))
  clear b4 gx0 ox0 
  go_wp2_with fail
  refine (CI.out _ _ Ox0_4.out.acts).mono ?_
  rintro e w5 ⟨ug, sg, rfl, og, gg, b5⟩
  have Og_5 := Lib.hid og
  have Dx0_g := Lib.hid (show ∀ b ∈ sx0, b ∉ sg from fun b hb hc => by have h1 := Ox0_4.out.lt b hb; have h2 := gg b hc; omega)
  have Dg_x0 := Lib.hid (show ∀ b ∈ sg, b ∉ sx0 from fun b hc hb => by have h1 := Ox0_4.out.lt b hb; have h2 := gg b hc; omega)
  have Gg := Lib.hid (fun b hb => Nat.le_trans E4.out.size (gg b hb))
  have E5 := Lib.hid (E4.out.trans (b5.mono E4.out.size))
  have Ox0_5 := Lib.hid (Ox0_4.out.below b5)
  clear b5 gg og Ox0_4
  go_wp2_with fail
  refine (eqI_any _ _ M0 _ Og_5.out.ints (S.out.below (B := 0) E5.out)).mono ?_
  rintro e w6 ⟨rfl, b6⟩
  have E6 := Lib.hid (E5.out.trans (b6.mono E5.out.size))
  have Ox0_6 := Lib.hid (Ox0_5.out.below b6)
  have Og_6 := Lib.hid (Og_5.out.below b6)
  clear b6 Ox0_5 Og_5
  go_wp2_with fail
  refine (toL_any _ l0 _ (H0.out.below (B3.out.trans (E6.out.mono B3.out.size))) SM0.out).mono ?_
  rintro e w7 ⟨uy0, sy0, rfl, oy0, gy0, b7⟩
  have Oy0_7 := Lib.hid oy0
  have Dx0_y0 := Lib.hid (show ∀ b ∈ sx0, b ∉ sy0 from fun b hb hc => by have h1 := Ox0_6.out.lt b hb; have h2 := gy0 b hc; omega)
  have Dy0_x0 := Lib.hid (show ∀ b ∈ sy0, b ∉ sx0 from fun b hc hb => by have h1 := Ox0_6.out.lt b hb; have h2 := gy0 b hc; omega)
  have Dg_y0 := Lib.hid (show ∀ b ∈ sg, b ∉ sy0 from fun b hb hc => by have h1 := Og_6.out.lt b hb; have h2 := gy0 b hc; omega)
  have Dy0_g := Lib.hid (show ∀ b ∈ sy0, b ∉ sg from fun b hc hb => by have h1 := Og_6.out.lt b hb; have h2 := gy0 b hc; omega)
  have Gy0 := Lib.hid (fun b hb => Nat.le_trans E6.out.size (gy0 b hb))
  have E7 := Lib.hid (E6.out.trans (b7.mono E6.out.size))
  have Ox0_7 := Lib.hid (Ox0_6.out.below b7)
  have Og_7 := Lib.hid (Og_6.out.below b7)
  clear b7 gy0 oy0 Ox0_6 Og_6
  go_wp2_with fail
  refine (eqActS_any _ _ l0 _ Ox0_7.out.acts Oy0_7.out.acts).mono ?_
  rintro e w8 ⟨rfl, b8⟩
  have E8 := Lib.hid (E7.out.trans (b8.mono E7.out.size))
  have Ox0_8 := Lib.hid (Ox0_7.out.below b8)
  have Og_8 := Lib.hid (Og_7.out.below b8)
  clear b8 Ox0_7 Og_7 Oy0_7 Gy0 Dx0_y0 Dy0_x0 Dg_y0 Dy0_g
  go_wp2_with fail
  refine (markLZ Ox0_8.out HZ0.out 1 (by omega) (by omega)).mono ?_
  rintro e w9 ⟨rfl, o9, g9⟩
  have Ox0_9 := Lib.hid o9
  have Og_9 := Lib.hid (Og_8.out.other g9 Dg_x0.out)
  have E9 := Lib.hid (E8.out.trans (g9.below Gx0.out E8.out.size))
  clear o9 g9 Ox0_8 Og_8
  have kk : decide ((1 + (Z0 : Int)) < 0) = false := by simp; omega
  go_wp2_with fail
  refine (eqI_any _ _ M0 _ Og_9.out.ints (S.out.below (B := 0) E9.out)).mono ?_
  rintro e w10 ⟨rfl, b10⟩
  have E10 := Lib.hid (E9.out.trans (b10.mono E9.out.size))
  have Ox0_10 := Lib.hid (Ox0_9.out.below b10)
  have Og_10 := Lib.hid (Og_9.out.below b10)
  clear b10 Ox0_9 Og_9
  clear kk
  go_wp2_with fail
  refine (markIZ Og_10.out HY0.out 1 (by omega) (by omega)).mono ?_
  rintro e w11 ⟨rfl, o11, g11⟩
  have Og_11 := Lib.hid o11
  have Ox0_11 := Lib.hid (Ox0_10.out.other g11 Dx0_g.out)
  have E11 := Lib.hid (E10.out.trans (g11.below Gg.out E10.out.size))
  clear o11 g11 Ox0_10 Og_10
  go_wp2_with fail
  refine (heldIZ Og_11.out (by omega) (by omega)).mono ?_
  rintro e w12 ⟨rfl, rfl⟩
  have kk : decide ((1 : Int) + (Y0 : Int) < 0) = false := by simp; omega
  have kq : (((1 : Int) + (Y0 : Int)) == (1 + (Y0 : Int))) = true := by simp
  have kp : (((1 : Int) + (Y0 : Int)) != (1 + (Y0 : Int))) = false := by simp
  go_wp2_with fail
  refine (toL_any _ l0 _ (H0.out.below (B3.out.trans (E11.out.mono B3.out.size))) SM0.out).mono ?_
  rintro e w12 ⟨uz0, sz0, rfl, oz0, gz0, b12⟩
  have Oz0_12 := Lib.hid oz0
  have Dg_z0 := Lib.hid (show ∀ b ∈ sg, b ∉ sz0 from fun b hb hc => by have h1 := Og_11.out.lt b hb; have h2 := gz0 b hc; omega)
  have Dz0_g := Lib.hid (show ∀ b ∈ sz0, b ∉ sg from fun b hc hb => by have h1 := Og_11.out.lt b hb; have h2 := gz0 b hc; omega)
  have Gz0 := Lib.hid (fun b hb => Nat.le_trans E11.out.size (gz0 b hb))
  have E12 := Lib.hid (E11.out.trans (b12.mono E11.out.size))
  have Og_12 := Lib.hid (Og_11.out.below b12)
  clear b12 gz0 oz0 Og_11
  go_wp2_with fail
  refine (CI.out _ _ Oz0_12.out.acts).mono ?_
  rintro e w13 ⟨uh, sh, rfl, oh, gh, b13⟩
  have Oh_13 := Lib.hid oh
  have E13 := Lib.hid (E12.out.trans (b13.mono E12.out.size))
  have Og_13 := Lib.hid (Og_12.out.below b13)
  clear b13 gh oh Og_12 Oz0_12
  go_wp2_with fail
  refine (eqI_any _ _ M0 _ Oh_13.out.ints (S.out.below (B := 0) E13.out)).mono ?_
  rintro e w14 ⟨rfl, b14⟩
  have E14 := Lib.hid (E13.out.trans (b14.mono E13.out.size))
  have Oh_14 := Lib.hid (Oh_13.out.below b14)
  have Og_14 := Lib.hid (Og_13.out.below b14)
  clear b14 Oh_13 Og_13
  go_wp2_with fail
  refine (heldIZ Og_14.out (by omega) (by omega)).mono ?_
  rintro e w15 ⟨rfl, rfl⟩
  go_wp2_with fail
  go_ret
  exact ⟨rfl, (B3.out.trans (E14.out.mono B3.out.size))⟩
end Go.Proofs.Ytjmefifdofgncaa
