/- The law FnExactEyeNow. -/
import Derived.Test.YtjmefifdofgncaaTE
import Derived.Test.YtjmefifdofgncaaNE
import Derived.Test.YtjmefifdofgncaaHG
import Derived.Deep.DeepCutAuto
namespace Go.Proofs.Ytjmefifdofgncaa
open Go.RowKit
set_option linter.unusedVariables false

set_option maxRecDepth 100000 in
set_option maxHeartbeats 12800000 in
theorem law_eyeNow2 (v0 : Value) (l0 : List ActM) (n1 : Int) (w0 : World) (h0 : Acts w0 v0 l0) (h1 : -9223372036854775808 ≤ n1 ∧ n1 ≤ 9223372036854775807) :
    Calls Try.prog 10 #[v0, .int .i64 n1] w0 fun e w' => e = .returned (.bool true) ∧ Below w0.heap.size w0 w' := by
  have H0 := Lib.hid h0
  obtain ⟨M0, hM0⟩ : ∃ M, M = clockOfM l0 n1 := ⟨_, rfl⟩
  have CS := Lib.hid (fun W u0 (h0 : Acts W u0 l0) (s0 : SmallL l0) => specEyeNow2 u0 l0 n1 W h0 h1)
  have CI := Lib.hid (fun W u0 (h0 : Acts W u0 l0) (s0 : SmallL l0) => implEyeNow2 u0 l0 n1 W h0 h1)
  simp only [← hM0] at CS CI
  have HB0 : M0.length ≤ 4 := by rw [hM0]; exact clockOfM_len _ _
  obtain ⟨Y0, hY0⟩ : ∃ Y, M0.length = Y := ⟨_, rfl⟩
  rw [hY0] at HB0
  have HY0 := Lib.hid hY0
  clear hY0
  clear hM0 h0
  have B0 := Lib.hid (Below.refl w0.heap.size w0)
  go_enter Try.func10, Try.ntmps10
  go_wp2_with fail
  refine (szActS_any _ l0 1048576 _ (H0.out.below B0.out) (by omega) (by omega)).mono ?_
  rintro e w1 ⟨r0, rfl, ra0, rb0, rs0, b1⟩
  have B1 := Lib.hid (B0.out.trans ((b1).mono B0.out.size))
  have RS0 := Lib.hid rs0
  clear b1 rs0
  by_cases hr0 : r0 < 0
  · go_wp2_with fail
    go_ret
    exact ⟨rfl, B1.out⟩
  have SM0 := Lib.hid (RS0.out (by omega)).1
  have hz0 : szL l0 ≤ 9437184 := by have h1 := (RS0.out (by omega)).2; have h2 := szL_tot l0; omega
  obtain ⟨Z0, hZ0⟩ : ∃ Z, szL l0 = Z := ⟨_, rfl⟩
  rw [hZ0] at hz0
  have HZ0 := Lib.hid hZ0
  clear hZ0
  go_wp2_with fail
  refine (toL_any _ l0 _ (H0.out.below B1.out) SM0.out).mono ?_
  rintro e w2 ⟨us0, ss0, rfl, os0, gs0, b2⟩
  have Os0_2 := Lib.hid os0
  have B2 := Lib.hid (B1.out.trans ((b2).mono B1.out.size))
  clear b2 gs0 os0
  go_wp2_with fail
  refine (CS.out _ _ Os0_2.out.acts SM0.out).mono ?_
  rintro e w3 ⟨uS, sS, rfl, oS, gS, b3⟩
  obtain ⟨eaS, ecS, hvS⟩ := ints_len oS.ints
  rw [HY0.out] at hvS
  subst hvS
  have B3 := Lib.hid (B2.out.trans ((b3).mono B2.out.size))
  have S := Lib.hid oS.ints
  clear Os0_2 b3 gS oS
  go_upto_region 6 with (fail)
  have ba := (Below.refl w3.heap.size w3).alloc (Nat.le_refl _) (.cells #[.int .i64 (-1), .int .i64 0, .slice eaS Y0 ecS] 53)
  have kb := Blk.new w3 #[.int .i64 (-1), .int .i64 0, .slice eaS Y0 ecS] 53
  obtain ⟨pS, hpS⟩ : ∃ p, p = w3.heap.size := ⟨_, rfl⟩
  have B4 := Lib.hid (B3.out.trans ((ba).mono B3.out.size))
  have S2 := Lib.hid (S.out.below (B := 0) ba)
  rw [← hpS] at kb ⊢
  obtain ⟨w4, hw⟩ : ∃ W, W = w3.alloc (.cells #[.int .i64 (-1), .int .i64 0, .slice eaS Y0 ecS] 53) := ⟨_, rfl⟩
  rw [← hw] at kb ⊢
  simp only [← hw] at B4 S2
  clear S
  have S := S2
  clear S2
  have KS_4 := Lib.hid kb
  clear ba kb hw hpS
  skip
  have E4 := Lib.hid (Below.refl w4.heap.size w4)
  go_wp2_with fail
  refine (toL_any _ l0 _ (H0.out.below B4.out) SM0.out).mono ?_
  rintro e w5 ⟨ux0, sx0, rfl, ox0, gx0, b5⟩
  have Ox0_5 := Lib.hid ox0
  have NS_x0 := Lib.hid (show pS ∉ sx0 from fun hc => by have h1 := KS_4.out.lt; have h2 := gx0 pS hc; omega)
  have Gx0 := Lib.hid (fun b hb => Nat.le_trans E4.out.size (gx0 b hb))
  have B5 := Lib.hid (B4.out.trans ((b5).mono B4.out.size))
  have E5 := Lib.hid (E4.out.trans ((b5).mono E4.out.size))
  have KS_5 := Lib.hid (KS_4.out.below (b5) KS_4.out.lt)
  clear KS_4 b5 gx0 ox0
  go_wp2_with fail
  refine (CI.out _ _ Ox0_5.out.acts SM0.out).mono ?_
  rintro e w6 ⟨ug, sg, rfl, og, gg, b6⟩
  obtain ⟨eag, ecg, hvg⟩ := ints_len og.ints
  rw [HY0.out] at hvg
  subst hvg
  have Og_6 := Lib.hid og
  have Dx0_g := Lib.hid (show ∀ b ∈ sx0, b ∉ sg from fun b hb hc => by have h1 := Ox0_5.out.lt b hb; have h2 := gg b hc; omega)
  have Dg_x0 := Lib.hid (show ∀ b ∈ sg, b ∉ sx0 from fun b hc hb => by have h1 := Ox0_5.out.lt b hb; have h2 := gg b hc; omega)
  have NS_g := Lib.hid (show pS ∉ sg from fun hc => by have h1 := KS_5.out.lt; have h2 := gg pS hc; omega)
  have Gg := Lib.hid (fun b hb => Nat.le_trans E5.out.size (gg b hb))
  have B6 := Lib.hid (B5.out.trans ((b6).mono B5.out.size))
  have E6 := Lib.hid (E5.out.trans ((b6).mono E5.out.size))
  have Ox0_6 := Lib.hid (Ox0_5.out.below (b6))
  have KS_6 := Lib.hid (KS_5.out.below (b6) KS_5.out.lt)
  clear Ox0_5 KS_5 b6 gg og
  go_upto_region 8 with (fail)
  have ba := (Below.refl w6.heap.size w6).alloc (Nat.le_refl _) (.cells #[.int .i64 (-1), .int .i64 0, .slice eag Y0 ecg] 53)
  have kb := Blk.new w6 #[.int .i64 (-1), .int .i64 0, .slice eag Y0 ecg] 53
  obtain ⟨pg, hpg⟩ : ∃ p, p = w6.heap.size := ⟨_, rfl⟩
  have Ng_x0 := Lib.hid (show pg ∉ sx0 from fun h => by have h1 := Ox0_6.out.lt pg h; omega)
  have Ng_g := Lib.hid (show pg ∉ sg from fun h => by have h1 := Og_6.out.lt pg h; omega)
  have B7 := Lib.hid (B6.out.trans ((ba).mono B6.out.size))
  have E7 := Lib.hid (E6.out.trans ((ba).mono E6.out.size))
  have Ox0_7 := Lib.hid (Ox0_6.out.below (ba))
  have Og_7 := Lib.hid (Og_6.out.below (ba))
  have KS_7 := Lib.hid (KS_6.out.below (ba) KS_6.out.lt)
  rw [← hpg] at kb ⊢
  obtain ⟨w7, hw⟩ : ∃ W, W = w6.alloc (.cells #[.int .i64 (-1), .int .i64 0, .slice eag Y0 ecg] 53) := ⟨_, rfl⟩
  rw [← hw] at kb ⊢
  simp only [← hw] at B7 E7 Ox0_7 Og_7 KS_7
  have Kg_7 := Lib.hid kb
  have Gpg := Lib.hid (show w4.heap.size ≤ pg by rw [hpg]; exact E6.out.size)
  clear Ox0_6 Og_6 KS_6 ba kb hw hpg
  have cg0 := Kg_7.out.cell 0
  have cg1 := Kg_7.out.cell 1
  have cg2 := Kg_7.out.cell 2
  simp only [List.getElem?_cons_zero, List.getElem?_cons_succ] at cg0 cg1 cg2
  have cS0 := KS_7.out.cell 0
  have cS1 := KS_7.out.cell 1
  have cS2 := KS_7.out.cell 2
  simp only [List.getElem?_cons_zero, List.getElem?_cons_succ] at cS0 cS1 cS2
  go_wp2_with fail
  refine (eqE_any (-1) 0 _ _ M0 _ Og_7.out.ints (S.out.below (B := 0) E7.out)).mono ?_
  rintro e w8 ⟨rfl, b8⟩
  have B8 := Lib.hid (B7.out.trans ((b8).mono B7.out.size))
  have E8 := Lib.hid (E7.out.trans ((b8).mono E7.out.size))
  have Ox0_8 := Lib.hid (Ox0_7.out.below (b8))
  have Og_8 := Lib.hid (Og_7.out.below (b8))
  have KS_8 := Lib.hid (KS_7.out.below (b8) KS_7.out.lt)
  have Kg_8 := Lib.hid (Kg_7.out.below (b8) Kg_7.out.lt)
  clear Ox0_7 Og_7 KS_7 Kg_7 b8
  clear cg0 cg1 cg2
  clear cS0 cS1 cS2
  go_wp2_with fail
  refine (toL_any _ l0 _ (H0.out.below B8.out) SM0.out).mono ?_
  rintro e w9 ⟨uy0, sy0, rfl, oy0, gy0, b9⟩
  have Oy0_9 := Lib.hid oy0
  have Dx0_y0 := Lib.hid (show ∀ b ∈ sx0, b ∉ sy0 from fun b hb hc => by have h1 := Ox0_8.out.lt b hb; have h2 := gy0 b hc; omega)
  have Dy0_x0 := Lib.hid (show ∀ b ∈ sy0, b ∉ sx0 from fun b hc hb => by have h1 := Ox0_8.out.lt b hb; have h2 := gy0 b hc; omega)
  have Dg_y0 := Lib.hid (show ∀ b ∈ sg, b ∉ sy0 from fun b hb hc => by have h1 := Og_8.out.lt b hb; have h2 := gy0 b hc; omega)
  have Dy0_g := Lib.hid (show ∀ b ∈ sy0, b ∉ sg from fun b hc hb => by have h1 := Og_8.out.lt b hb; have h2 := gy0 b hc; omega)
  have NS_y0 := Lib.hid (show pS ∉ sy0 from fun hc => by have h1 := KS_8.out.lt; have h2 := gy0 pS hc; omega)
  have Ng_y0 := Lib.hid (show pg ∉ sy0 from fun hc => by have h1 := Kg_8.out.lt; have h2 := gy0 pg hc; omega)
  have Gy0 := Lib.hid (fun b hb => Nat.le_trans E8.out.size (gy0 b hb))
  have B9 := Lib.hid (B8.out.trans ((b9).mono B8.out.size))
  have E9 := Lib.hid (E8.out.trans ((b9).mono E8.out.size))
  have Ox0_9 := Lib.hid (Ox0_8.out.below (b9))
  have Og_9 := Lib.hid (Og_8.out.below (b9))
  have KS_9 := Lib.hid (KS_8.out.below (b9) KS_8.out.lt)
  have Kg_9 := Lib.hid (Kg_8.out.below (b9) Kg_8.out.lt)
  clear Ox0_8 Og_8 KS_8 Kg_8 b9 gy0 oy0
  go_wp2_with fail
  refine (eqActS_any _ _ l0 _ Ox0_9.out.acts Oy0_9.out.acts).mono ?_
  rintro e w10 ⟨rfl, b10⟩
  have B10 := Lib.hid (B9.out.trans ((b10).mono B9.out.size))
  have E10 := Lib.hid (E9.out.trans ((b10).mono E9.out.size))
  have Ox0_10 := Lib.hid (Ox0_9.out.below (b10))
  have Og_10 := Lib.hid (Og_9.out.below (b10))
  have Oy0_10 := Lib.hid (Oy0_9.out.below (b10))
  have KS_10 := Lib.hid (KS_9.out.below (b10) KS_9.out.lt)
  have Kg_10 := Lib.hid (Kg_9.out.below (b10) Kg_9.out.lt)
  clear Ox0_9 Og_9 Oy0_9 KS_9 Kg_9 b10
  clear Oy0_10
  go_wp2_with fail
  refine (markLZ Ox0_10.out HZ0.out 1 (by omega) (by omega)).mono ?_
  rintro e w11 ⟨rfl, o11, g11⟩
  have Ox0_11 := Lib.hid o11
  have Og_11 := Lib.hid (Og_10.out.other g11 Dg_x0.out)
  have KS_11 := Lib.hid (KS_10.out.on g11 NS_x0.out)
  have Kg_11 := Lib.hid (Kg_10.out.on g11 Ng_x0.out)
  have bE := g11.below Gx0.out E10.out.size
  have E11 := Lib.hid (E10.out.trans bE)
  have B11 := Lib.hid (B4.out.trans (E11.out.mono B4.out.size))
  clear Ox0_10 Og_10 KS_10 Kg_10 bE o11 g11
  have cg0 := Kg_11.out.cell 0
  have cg1 := Kg_11.out.cell 1
  have cg2 := Kg_11.out.cell 2
  simp only [List.getElem?_cons_zero, List.getElem?_cons_succ] at cg0 cg1 cg2
  have cS0 := KS_11.out.cell 0
  have cS1 := KS_11.out.cell 1
  have cS2 := KS_11.out.cell 2
  simp only [List.getElem?_cons_zero, List.getElem?_cons_succ] at cS0 cS1 cS2
  have kk4 : decide ((1 + (Z0 : Int)) < 0) = false := by simp; omega
  go_wp2_with fail
  refine (eqE_any (-1) 0 _ _ M0 _ Og_11.out.ints (S.out.below (B := 0) E11.out)).mono ?_
  rintro e w12 ⟨rfl, b12⟩
  have B12 := Lib.hid (B11.out.trans ((b12).mono B11.out.size))
  have E12 := Lib.hid (E11.out.trans ((b12).mono E11.out.size))
  have Ox0_12 := Lib.hid (Ox0_11.out.below (b12))
  have Og_12 := Lib.hid (Og_11.out.below (b12))
  have KS_12 := Lib.hid (KS_11.out.below (b12) KS_11.out.lt)
  have Kg_12 := Lib.hid (Kg_11.out.below (b12) Kg_11.out.lt)
  clear Ox0_11 Og_11 KS_11 Kg_11 b12
  clear cg0 cg1 cg2
  clear cS0 cS1 cS2
  have cg0 := Kg_12.out.cell 0
  have cg1 := Kg_12.out.cell 1
  have cg2 := Kg_12.out.cell 2
  simp only [List.getElem?_cons_zero, List.getElem?_cons_succ] at cg0 cg1 cg2
  go_wp2_with fail
  refine (markEZ (-1) 0 Og_12.out HY0.out 1 (by omega) (by omega)).mono ?_
  rintro e w13 ⟨rfl, o13, g13⟩
  have Og_13 := Lib.hid o13
  have Ox0_13 := Lib.hid (Ox0_12.out.other g13 Dx0_g.out)
  have KS_13 := Lib.hid (KS_12.out.on g13 NS_g.out)
  have Kg_13 := Lib.hid (Kg_12.out.on g13 Ng_g.out)
  have bE := g13.below Gg.out E12.out.size
  have E13 := Lib.hid (E12.out.trans bE)
  have B13 := Lib.hid (B4.out.trans (E13.out.mono B4.out.size))
  clear Ox0_12 Og_12 KS_12 Kg_12 bE o13 g13
  clear cg0 cg1 cg2
  have cg0 := Kg_13.out.cell 0
  have cg1 := Kg_13.out.cell 1
  have cg2 := Kg_13.out.cell 2
  simp only [List.getElem?_cons_zero, List.getElem?_cons_succ] at cg0 cg1 cg2
  go_wp2_with fail
  refine (heldEZ (-1) 0 (Z := Y0) Og_13.out (by omega) (by omega)).mono ?_
  rintro e w14 ⟨rfl, b14⟩
  have B14 := Lib.hid (B13.out.trans ((b14).mono B13.out.size))
  have E14 := Lib.hid (E13.out.trans ((b14).mono E13.out.size))
  have Ox0_14 := Lib.hid (Ox0_13.out.below (b14))
  have Og_14 := Lib.hid (Og_13.out.below (b14))
  have KS_14 := Lib.hid (KS_13.out.below (b14) KS_13.out.lt)
  have Kg_14 := Lib.hid (Kg_13.out.below (b14) Kg_13.out.lt)
  clear Ox0_13 Og_13 KS_13 Kg_13 b14
  skip
  clear cg0 cg1 cg2
  have kk5 : decide ((1 + (Y0 : Int)) < 0) = false := by simp; omega
  have kq6 : ((1 + (Y0 : Int)) == (1 + (Y0 : Int))) = true := by simp
  have kp6 : ((1 + (Y0 : Int)) != (1 + (Y0 : Int))) = false := by simp
  go_wp2_with fail
  refine (toL_any _ l0 _ (H0.out.below B14.out) SM0.out).mono ?_
  rintro e w15 ⟨uz0, sz0, rfl, oz0, gz0, b15⟩
  have Oz0_15 := Lib.hid oz0
  have Dx0_z0 := Lib.hid (show ∀ b ∈ sx0, b ∉ sz0 from fun b hb hc => by have h1 := Ox0_14.out.lt b hb; have h2 := gz0 b hc; omega)
  have Dz0_x0 := Lib.hid (show ∀ b ∈ sz0, b ∉ sx0 from fun b hc hb => by have h1 := Ox0_14.out.lt b hb; have h2 := gz0 b hc; omega)
  have Dg_z0 := Lib.hid (show ∀ b ∈ sg, b ∉ sz0 from fun b hb hc => by have h1 := Og_14.out.lt b hb; have h2 := gz0 b hc; omega)
  have Dz0_g := Lib.hid (show ∀ b ∈ sz0, b ∉ sg from fun b hc hb => by have h1 := Og_14.out.lt b hb; have h2 := gz0 b hc; omega)
  have NS_z0 := Lib.hid (show pS ∉ sz0 from fun hc => by have h1 := KS_14.out.lt; have h2 := gz0 pS hc; omega)
  have Ng_z0 := Lib.hid (show pg ∉ sz0 from fun hc => by have h1 := Kg_14.out.lt; have h2 := gz0 pg hc; omega)
  have Gz0 := Lib.hid (fun b hb => Nat.le_trans E14.out.size (gz0 b hb))
  have B15 := Lib.hid (B14.out.trans ((b15).mono B14.out.size))
  have E15 := Lib.hid (E14.out.trans ((b15).mono E14.out.size))
  have Ox0_15 := Lib.hid (Ox0_14.out.below (b15))
  have Og_15 := Lib.hid (Og_14.out.below (b15))
  have KS_15 := Lib.hid (KS_14.out.below (b15) KS_14.out.lt)
  have Kg_15 := Lib.hid (Kg_14.out.below (b15) Kg_14.out.lt)
  clear Ox0_14 Og_14 KS_14 Kg_14 b15 gz0 oz0
  go_wp2_with fail
  refine (CI.out _ _ Oz0_15.out.acts SM0.out).mono ?_
  rintro e w16 ⟨uh, sh, rfl, oh, gh, b16⟩
  obtain ⟨eah, ech, hvh⟩ := ints_len oh.ints
  rw [HY0.out] at hvh
  subst hvh
  have Oh_16 := Lib.hid oh
  have Dx0_h := Lib.hid (show ∀ b ∈ sx0, b ∉ sh from fun b hb hc => by have h1 := Ox0_15.out.lt b hb; have h2 := gh b hc; omega)
  have Dh_x0 := Lib.hid (show ∀ b ∈ sh, b ∉ sx0 from fun b hc hb => by have h1 := Ox0_15.out.lt b hb; have h2 := gh b hc; omega)
  have Dg_h := Lib.hid (show ∀ b ∈ sg, b ∉ sh from fun b hb hc => by have h1 := Og_15.out.lt b hb; have h2 := gh b hc; omega)
  have Dh_g := Lib.hid (show ∀ b ∈ sh, b ∉ sg from fun b hc hb => by have h1 := Og_15.out.lt b hb; have h2 := gh b hc; omega)
  have Dz0_h := Lib.hid (show ∀ b ∈ sz0, b ∉ sh from fun b hb hc => by have h1 := Oz0_15.out.lt b hb; have h2 := gh b hc; omega)
  have Dh_z0 := Lib.hid (show ∀ b ∈ sh, b ∉ sz0 from fun b hc hb => by have h1 := Oz0_15.out.lt b hb; have h2 := gh b hc; omega)
  have NS_h := Lib.hid (show pS ∉ sh from fun hc => by have h1 := KS_15.out.lt; have h2 := gh pS hc; omega)
  have Ng_h := Lib.hid (show pg ∉ sh from fun hc => by have h1 := Kg_15.out.lt; have h2 := gh pg hc; omega)
  have Gh := Lib.hid (fun b hb => Nat.le_trans E15.out.size (gh b hb))
  have B16 := Lib.hid (B15.out.trans ((b16).mono B15.out.size))
  have E16 := Lib.hid (E15.out.trans ((b16).mono E15.out.size))
  have Ox0_16 := Lib.hid (Ox0_15.out.below (b16))
  have Og_16 := Lib.hid (Og_15.out.below (b16))
  have Oz0_16 := Lib.hid (Oz0_15.out.below (b16))
  have KS_16 := Lib.hid (KS_15.out.below (b16) KS_15.out.lt)
  have Kg_16 := Lib.hid (Kg_15.out.below (b16) Kg_15.out.lt)
  clear Ox0_15 Og_15 Oz0_15 KS_15 Kg_15 b16 gh oh
  clear Oz0_16
  go_upto_region 25 with (fail)
  have ba := (Below.refl w16.heap.size w16).alloc (Nat.le_refl _) (.cells #[.int .i64 (-1), .int .i64 0, .slice eah Y0 ech] 53)
  have kb := Blk.new w16 #[.int .i64 (-1), .int .i64 0, .slice eah Y0 ech] 53
  obtain ⟨ph, hph⟩ : ∃ p, p = w16.heap.size := ⟨_, rfl⟩
  have Nh_x0 := Lib.hid (show ph ∉ sx0 from fun h => by have h1 := Ox0_16.out.lt ph h; omega)
  have Nh_g := Lib.hid (show ph ∉ sg from fun h => by have h1 := Og_16.out.lt ph h; omega)
  have Nh_h := Lib.hid (show ph ∉ sh from fun h => by have h1 := Oh_16.out.lt ph h; omega)
  have B17 := Lib.hid (B16.out.trans ((ba).mono B16.out.size))
  have E17 := Lib.hid (E16.out.trans ((ba).mono E16.out.size))
  have Ox0_17 := Lib.hid (Ox0_16.out.below (ba))
  have Og_17 := Lib.hid (Og_16.out.below (ba))
  have Oh_17 := Lib.hid (Oh_16.out.below (ba))
  have KS_17 := Lib.hid (KS_16.out.below (ba) KS_16.out.lt)
  have Kg_17 := Lib.hid (Kg_16.out.below (ba) Kg_16.out.lt)
  rw [← hph] at kb ⊢
  obtain ⟨w17, hw⟩ : ∃ W, W = w16.alloc (.cells #[.int .i64 (-1), .int .i64 0, .slice eah Y0 ech] 53) := ⟨_, rfl⟩
  rw [← hw] at kb ⊢
  simp only [← hw] at B17 E17 Ox0_17 Og_17 Oh_17 KS_17 Kg_17
  have Kh_17 := Lib.hid kb
  have Gph := Lib.hid (show w4.heap.size ≤ ph by rw [hph]; exact E16.out.size)
  clear Ox0_16 Og_16 Oh_16 KS_16 Kg_16 ba kb hw hph
  have ch0 := Kh_17.out.cell 0
  have ch1 := Kh_17.out.cell 1
  have ch2 := Kh_17.out.cell 2
  simp only [List.getElem?_cons_zero, List.getElem?_cons_succ] at ch0 ch1 ch2
  have cS0 := KS_17.out.cell 0
  have cS1 := KS_17.out.cell 1
  have cS2 := KS_17.out.cell 2
  simp only [List.getElem?_cons_zero, List.getElem?_cons_succ] at cS0 cS1 cS2
  go_wp2_with fail
  refine (eqE_any (-1) 0 _ _ M0 _ Oh_17.out.ints (S.out.below (B := 0) E17.out)).mono ?_
  rintro e w18 ⟨rfl, b18⟩
  have B18 := Lib.hid (B17.out.trans ((b18).mono B17.out.size))
  have E18 := Lib.hid (E17.out.trans ((b18).mono E17.out.size))
  have Ox0_18 := Lib.hid (Ox0_17.out.below (b18))
  have Og_18 := Lib.hid (Og_17.out.below (b18))
  have Oh_18 := Lib.hid (Oh_17.out.below (b18))
  have KS_18 := Lib.hid (KS_17.out.below (b18) KS_17.out.lt)
  have Kg_18 := Lib.hid (Kg_17.out.below (b18) Kg_17.out.lt)
  have Kh_18 := Lib.hid (Kh_17.out.below (b18) Kh_17.out.lt)
  clear Ox0_17 Og_17 Oh_17 KS_17 Kg_17 Kh_17 b18
  clear ch0 ch1 ch2
  clear cS0 cS1 cS2
  have cg0 := Kg_18.out.cell 0
  have cg1 := Kg_18.out.cell 1
  have cg2 := Kg_18.out.cell 2
  simp only [List.getElem?_cons_zero, List.getElem?_cons_succ] at cg0 cg1 cg2
  go_wp2_with fail
  refine (heldEZ (-1) 0 (Z := Y0) Og_18.out (by omega) (by omega)).mono ?_
  rintro e w19 ⟨rfl, b19⟩
  have B19 := Lib.hid (B18.out.trans ((b19).mono B18.out.size))
  have E19 := Lib.hid (E18.out.trans ((b19).mono E18.out.size))
  have Ox0_19 := Lib.hid (Ox0_18.out.below (b19))
  have Og_19 := Lib.hid (Og_18.out.below (b19))
  have Oh_19 := Lib.hid (Oh_18.out.below (b19))
  have KS_19 := Lib.hid (KS_18.out.below (b19) KS_18.out.lt)
  have Kg_19 := Lib.hid (Kg_18.out.below (b19) Kg_18.out.lt)
  have Kh_19 := Lib.hid (Kh_18.out.below (b19) Kh_18.out.lt)
  clear Ox0_18 Og_18 Oh_18 KS_18 Kg_18 Kh_18 b19
  skip
  clear cg0 cg1 cg2
  have kk8 : decide ((1 + (Y0 : Int)) < 0) = false := by simp; omega
  have kq9 : ((1 + (Y0 : Int)) == (1 + (Y0 : Int))) = true := by simp
  have kp9 : ((1 + (Y0 : Int)) != (1 + (Y0 : Int))) = false := by simp
  go_wp2_with fail
  go_ret
  exact ⟨rfl, B19.out⟩
end Go.Proofs.Ytjmefifdofgncaa
