/- The law FnExactEyeOf. -/
import Derived.Test.YtjmefifdofgncaaTG
import Derived.Test.YtjmefifdofgncaaHG
import Derived.Deep.DeepCutAuto
namespace Go.Proofs.Ytjmefifdofgncaa
open Go.RowKit
set_option linter.unusedVariables false

set_option maxRecDepth 100000 in
set_option maxHeartbeats 12800000 in
theorem law_eyeOf2 (v0 : Value) (l0 : ActM) (w0 : World) (h0 : ActIs w0 v0 l0) :
    Calls Try.prog 9 #[v0] w0 fun e w' => e = .returned (.bool true) ∧ Below w0.heap.size w0 w' := by
  have H0 := Lib.hid h0
  obtain ⟨M0, hM0⟩ : ∃ M, M = l0.dep := ⟨_, rfl⟩
  have CS := Lib.hid (fun W u0 (h0 : ActIs W u0 l0) (s0 : l0.Small) => specEyeOf2 u0 l0 W h0 s0)
  have CI := Lib.hid (fun W u0 (h0 : ActIs W u0 l0) (s0 : l0.Small) => implEyeOf2 u0 l0 W h0 s0)
  simp only [← hM0] at CS CI
  have HM0 := Lib.hid hM0
  obtain ⟨Y0, hY0⟩ : ∃ Y, M0.length = Y := ⟨_, rfl⟩
  have HY0 := Lib.hid hY0
  clear hY0
  clear hM0 h0
  obtain ⟨da0, dc0, ua0, uc0, hv0⟩ := act_shape H0.out
  subst hv0
  have B0 := Lib.hid (Below.refl w0.heap.size w0)
  go_enter Try.func9, Try.ntmps9
  go_upto_region 1 with (fail)
  have ba := (Below.refl w0.heap.size w0).alloc (Nat.le_refl _) (.cells #[.int .i64 l0.r, .int .i64 l0.n, .slice da0 l0.dep.length dc0, .int .i64 l0.actor, .int .i64 l0.kind, .int .i64 l0.to, .int .i64 l0.bucket, .int .i64 l0.mask, .int .i64 l0.gr, .int .i64 l0.gn, .slice ua0 l0.ups.length uc0] 36)
  have kb := Blk.new w0 #[.int .i64 l0.r, .int .i64 l0.n, .slice da0 l0.dep.length dc0, .int .i64 l0.actor, .int .i64 l0.kind, .int .i64 l0.to, .int .i64 l0.bucket, .int .i64 l0.mask, .int .i64 l0.gr, .int .i64 l0.gn, .slice ua0 l0.ups.length uc0] 36
  obtain ⟨pA0, hpA⟩ : ∃ p, p = w0.heap.size := ⟨_, rfl⟩
  have B1 := Lib.hid (B0.out.trans ((ba).mono B0.out.size))
  rw [← hpA] at kb ⊢
  obtain ⟨w1, hw⟩ : ∃ W, W = w0.alloc (.cells #[.int .i64 l0.r, .int .i64 l0.n, .slice da0 l0.dep.length dc0, .int .i64 l0.actor, .int .i64 l0.kind, .int .i64 l0.to, .int .i64 l0.bucket, .int .i64 l0.mask, .int .i64 l0.gr, .int .i64 l0.gn, .slice ua0 l0.ups.length uc0] 36) := ⟨_, rfl⟩
  rw [← hw] at kb ⊢
  simp only [← hw] at B1
  have KA0_1 := Lib.hid kb
  clear ba kb hw hpA
  have cA00 := KA0_1.out.cell 0
  have cA01 := KA0_1.out.cell 1
  have cA02 := KA0_1.out.cell 2
  have cA03 := KA0_1.out.cell 3
  have cA04 := KA0_1.out.cell 4
  have cA05 := KA0_1.out.cell 5
  have cA06 := KA0_1.out.cell 6
  have cA07 := KA0_1.out.cell 7
  have cA08 := KA0_1.out.cell 8
  have cA09 := KA0_1.out.cell 9
  have cA010 := KA0_1.out.cell 10
  simp only [List.getElem?_cons_zero, List.getElem?_cons_succ] at cA00 cA01 cA02 cA03 cA04 cA05 cA06 cA07 cA08 cA09 cA010
  go_wp2_with fail
  refine (szAct_any _ l0 1048576 _ (H0.out.below B1.out) (by omega) (by omega)).mono ?_
  rintro e w2 ⟨rfl, b2⟩
  have B2 := Lib.hid (B1.out.trans ((b2).mono B1.out.size))
  have KA0_2 := Lib.hid (KA0_1.out.below (b2) KA0_1.out.lt)
  clear KA0_1 b2
  generalize hq0 : szM l0.dep.length l0.ups.length 1048576 = r0
  have RS0 := Lib.hid hq0
  clear hq0
  by_cases hr0 : r0 < 0
  · go_wp2_with fail
    go_ret
    exact ⟨rfl, B2.out⟩
  have SQ0 := Lib.hid (szM_ok (by rw [RS0.out]; exact hr0))
  have hw0 : r0 ≤ 1048576 := by have h1 := SQ0.out; have h2 := RS0.out; omega
  have hz0 : szD l0 ≤ 5242880 := by have h1 := SQ0.out; simp only [szD]; omega
  have SM0 := Lib.hid (show ActM.Small l0 from ⟨by have h1 := SQ0.out; omega, by have h1 := SQ0.out; omega⟩)
  obtain ⟨Z0, hZ0⟩ : ∃ Z, szD l0 = Z := ⟨_, rfl⟩
  rw [hZ0] at hz0
  have HZ0 := Lib.hid hZ0
  clear hZ0
  have HB0 : Y0 ≤ 1048576 := by rw [← HY0.out, HM0.out]; exact SM0.out.1
  clear cA00 cA01 cA02 cA03 cA04 cA05 cA06 cA07 cA08 cA09 cA010
  have cA00 := KA0_2.out.cell 0
  have cA01 := KA0_2.out.cell 1
  have cA02 := KA0_2.out.cell 2
  have cA03 := KA0_2.out.cell 3
  have cA04 := KA0_2.out.cell 4
  have cA05 := KA0_2.out.cell 5
  have cA06 := KA0_2.out.cell 6
  have cA07 := KA0_2.out.cell 7
  have cA08 := KA0_2.out.cell 8
  have cA09 := KA0_2.out.cell 9
  have cA010 := KA0_2.out.cell 10
  simp only [List.getElem?_cons_zero, List.getElem?_cons_succ] at cA00 cA01 cA02 cA03 cA04 cA05 cA06 cA07 cA08 cA09 cA010
  go_wp2_with fail
  refine (toA_any _ l0 _ (H0.out.below B2.out) SM0.out.1 SM0.out.2).mono ?_
  rintro e w3 ⟨us0, ss0, rfl, os0, gs0, b3⟩
  obtain ⟨das0, dcs0, uas0, ucs0, hvs0⟩ := os0.shape
  subst hvs0
  have Os0_3 := Lib.hid os0
  have NA0_s0 := Lib.hid (show pA0 ∉ ss0 from fun hc => by have h1 := KA0_2.out.lt; have h2 := gs0 pA0 hc; omega)
  have B3 := Lib.hid (B2.out.trans ((b3).mono B2.out.size))
  have KA0_3 := Lib.hid (KA0_2.out.below (b3) KA0_2.out.lt)
  clear KA0_2 b3 gs0 os0
  clear cA00 cA01 cA02 cA03 cA04 cA05 cA06 cA07 cA08 cA09 cA010
  go_wp2_with fail
  refine (CS.out _ _ Os0_3.out.act SM0.out).mono ?_
  rintro e w4 ⟨uS, sS, rfl, oS, gS, b4⟩
  obtain ⟨eaS, ecS, hvS⟩ := ints_len oS.ints
  rw [HY0.out] at hvS
  subst hvS
  have B4 := Lib.hid (B3.out.trans ((b4).mono B3.out.size))
  have KA0_4 := Lib.hid (KA0_3.out.below (b4) KA0_3.out.lt)
  have S := Lib.hid oS.ints
  clear Os0_3 KA0_3 b4 gS oS
  go_upto_region 6 with (fail)
  have ba := (Below.refl w4.heap.size w4).alloc (Nat.le_refl _) (.cells #[.int .i64 l0.r, .int .i64 l0.n, .slice eaS Y0 ecS] 53)
  have kb := Blk.new w4 #[.int .i64 l0.r, .int .i64 l0.n, .slice eaS Y0 ecS] 53
  obtain ⟨pS, hpS⟩ : ∃ p, p = w4.heap.size := ⟨_, rfl⟩
  have B5 := Lib.hid (B4.out.trans ((ba).mono B4.out.size))
  have KA0_5 := Lib.hid (KA0_4.out.below (ba) KA0_4.out.lt)
  have S2 := Lib.hid (S.out.below (B := 0) ba)
  rw [← hpS] at kb ⊢
  obtain ⟨w5, hw⟩ : ∃ W, W = w4.alloc (.cells #[.int .i64 l0.r, .int .i64 l0.n, .slice eaS Y0 ecS] 53) := ⟨_, rfl⟩
  rw [← hw] at kb ⊢
  simp only [← hw] at B5 KA0_5 S2
  clear S
  have S := S2
  clear S2
  have KS_5 := Lib.hid kb
  clear KA0_4 ba kb hw hpS
  skip
  have E5 := Lib.hid (Below.refl w5.heap.size w5)
  have cA00 := KA0_5.out.cell 0
  have cA01 := KA0_5.out.cell 1
  have cA02 := KA0_5.out.cell 2
  have cA03 := KA0_5.out.cell 3
  have cA04 := KA0_5.out.cell 4
  have cA05 := KA0_5.out.cell 5
  have cA06 := KA0_5.out.cell 6
  have cA07 := KA0_5.out.cell 7
  have cA08 := KA0_5.out.cell 8
  have cA09 := KA0_5.out.cell 9
  have cA010 := KA0_5.out.cell 10
  simp only [List.getElem?_cons_zero, List.getElem?_cons_succ] at cA00 cA01 cA02 cA03 cA04 cA05 cA06 cA07 cA08 cA09 cA010
  go_wp2_with fail
  refine (toA_any _ l0 _ (H0.out.below B5.out) SM0.out.1 SM0.out.2).mono ?_
  rintro e w6 ⟨ux0, sx0, rfl, ox0, gx0, b6⟩
  obtain ⟨dax0, dcx0, uax0, ucx0, hvx0⟩ := ox0.shape
  subst hvx0
  have Ox0_6 := Lib.hid ox0
  have NA0_x0 := Lib.hid (show pA0 ∉ sx0 from fun hc => by have h1 := KA0_5.out.lt; have h2 := gx0 pA0 hc; omega)
  have NS_x0 := Lib.hid (show pS ∉ sx0 from fun hc => by have h1 := KS_5.out.lt; have h2 := gx0 pS hc; omega)
  have Gx0 := Lib.hid (fun b hb => Nat.le_trans E5.out.size (gx0 b hb))
  have B6 := Lib.hid (B5.out.trans ((b6).mono B5.out.size))
  have E6 := Lib.hid (E5.out.trans ((b6).mono E5.out.size))
  have KA0_6 := Lib.hid (KA0_5.out.below (b6) KA0_5.out.lt)
  have KS_6 := Lib.hid (KS_5.out.below (b6) KS_5.out.lt)
  clear KA0_5 KS_5 b6 gx0 ox0
  clear cA00 cA01 cA02 cA03 cA04 cA05 cA06 cA07 cA08 cA09 cA010
  go_upto_region 7 with (fail)
  have ba := (Below.refl w6.heap.size w6).alloc (Nat.le_refl _) (.cells #[.int .i64 l0.r, .int .i64 l0.n, .slice dax0 l0.dep.length dcx0, .int .i64 l0.actor, .int .i64 l0.kind, .int .i64 l0.to, .int .i64 l0.bucket, .int .i64 l0.mask, .int .i64 l0.gr, .int .i64 l0.gn, .slice uax0 l0.ups.length ucx0] 42)
  have kb := Blk.new w6 #[.int .i64 l0.r, .int .i64 l0.n, .slice dax0 l0.dep.length dcx0, .int .i64 l0.actor, .int .i64 l0.kind, .int .i64 l0.to, .int .i64 l0.bucket, .int .i64 l0.mask, .int .i64 l0.gr, .int .i64 l0.gn, .slice uax0 l0.ups.length ucx0] 42
  obtain ⟨px0, hpx0⟩ : ∃ p, p = w6.heap.size := ⟨_, rfl⟩
  have Nx0_x0 := Lib.hid (show px0 ∉ sx0 from fun h => by have h1 := Ox0_6.out.lt px0 h; omega)
  have B7 := Lib.hid (B6.out.trans ((ba).mono B6.out.size))
  have E7 := Lib.hid (E6.out.trans ((ba).mono E6.out.size))
  have Ox0_7 := Lib.hid (Ox0_6.out.below (ba))
  have KA0_7 := Lib.hid (KA0_6.out.below (ba) KA0_6.out.lt)
  have KS_7 := Lib.hid (KS_6.out.below (ba) KS_6.out.lt)
  rw [← hpx0] at kb ⊢
  obtain ⟨w7, hw⟩ : ∃ W, W = w6.alloc (.cells #[.int .i64 l0.r, .int .i64 l0.n, .slice dax0 l0.dep.length dcx0, .int .i64 l0.actor, .int .i64 l0.kind, .int .i64 l0.to, .int .i64 l0.bucket, .int .i64 l0.mask, .int .i64 l0.gr, .int .i64 l0.gn, .slice uax0 l0.ups.length ucx0] 42) := ⟨_, rfl⟩
  rw [← hw] at kb ⊢
  simp only [← hw] at B7 E7 Ox0_7 KA0_7 KS_7
  have Kx0_7 := Lib.hid kb
  have Gpx0 := Lib.hid (show w5.heap.size ≤ px0 by rw [hpx0]; exact E6.out.size)
  clear Ox0_6 KA0_6 KS_6 ba kb hw hpx0
  have cx00 := Kx0_7.out.cell 0
  have cx01 := Kx0_7.out.cell 1
  have cx02 := Kx0_7.out.cell 2
  have cx03 := Kx0_7.out.cell 3
  have cx04 := Kx0_7.out.cell 4
  have cx05 := Kx0_7.out.cell 5
  have cx06 := Kx0_7.out.cell 6
  have cx07 := Kx0_7.out.cell 7
  have cx08 := Kx0_7.out.cell 8
  have cx09 := Kx0_7.out.cell 9
  have cx010 := Kx0_7.out.cell 10
  simp only [List.getElem?_cons_zero, List.getElem?_cons_succ] at cx00 cx01 cx02 cx03 cx04 cx05 cx06 cx07 cx08 cx09 cx010
  go_wp2_with fail
  refine (CI.out _ _ Ox0_7.out.act SM0.out).mono ?_
  rintro e w8 ⟨ug, sg, rfl, og, gg, b8⟩
  obtain ⟨eag, ecg, hvg⟩ := ints_len og.ints
  rw [HY0.out] at hvg
  subst hvg
  have Og_8 := Lib.hid og
  have Dx0_g := Lib.hid (show ∀ b ∈ sx0, b ∉ sg from fun b hb hc => by have h1 := Ox0_7.out.lt b hb; have h2 := gg b hc; omega)
  have Dg_x0 := Lib.hid (show ∀ b ∈ sg, b ∉ sx0 from fun b hc hb => by have h1 := Ox0_7.out.lt b hb; have h2 := gg b hc; omega)
  have NA0_g := Lib.hid (show pA0 ∉ sg from fun hc => by have h1 := KA0_7.out.lt; have h2 := gg pA0 hc; omega)
  have NS_g := Lib.hid (show pS ∉ sg from fun hc => by have h1 := KS_7.out.lt; have h2 := gg pS hc; omega)
  have Nx0_g := Lib.hid (show px0 ∉ sg from fun hc => by have h1 := Kx0_7.out.lt; have h2 := gg px0 hc; omega)
  have Gg := Lib.hid (fun b hb => Nat.le_trans E7.out.size (gg b hb))
  have B8 := Lib.hid (B7.out.trans ((b8).mono B7.out.size))
  have E8 := Lib.hid (E7.out.trans ((b8).mono E7.out.size))
  have Ox0_8 := Lib.hid (Ox0_7.out.below (b8))
  have KA0_8 := Lib.hid (KA0_7.out.below (b8) KA0_7.out.lt)
  have KS_8 := Lib.hid (KS_7.out.below (b8) KS_7.out.lt)
  have Kx0_8 := Lib.hid (Kx0_7.out.below (b8) Kx0_7.out.lt)
  clear Ox0_7 KA0_7 KS_7 Kx0_7 b8 gg og
  clear cx00 cx01 cx02 cx03 cx04 cx05 cx06 cx07 cx08 cx09 cx010
  go_upto_region 8 with (fail)
  have ba := (Below.refl w8.heap.size w8).alloc (Nat.le_refl _) (.cells #[.int .i64 l0.r, .int .i64 l0.n, .slice eag Y0 ecg] 53)
  have kb := Blk.new w8 #[.int .i64 l0.r, .int .i64 l0.n, .slice eag Y0 ecg] 53
  obtain ⟨pg, hpg⟩ : ∃ p, p = w8.heap.size := ⟨_, rfl⟩
  have Ng_x0 := Lib.hid (show pg ∉ sx0 from fun h => by have h1 := Ox0_8.out.lt pg h; omega)
  have Ng_g := Lib.hid (show pg ∉ sg from fun h => by have h1 := Og_8.out.lt pg h; omega)
  have B9 := Lib.hid (B8.out.trans ((ba).mono B8.out.size))
  have E9 := Lib.hid (E8.out.trans ((ba).mono E8.out.size))
  have Ox0_9 := Lib.hid (Ox0_8.out.below (ba))
  have Og_9 := Lib.hid (Og_8.out.below (ba))
  have KA0_9 := Lib.hid (KA0_8.out.below (ba) KA0_8.out.lt)
  have KS_9 := Lib.hid (KS_8.out.below (ba) KS_8.out.lt)
  have Kx0_9 := Lib.hid (Kx0_8.out.below (ba) Kx0_8.out.lt)
  rw [← hpg] at kb ⊢
  obtain ⟨w9, hw⟩ : ∃ W, W = w8.alloc (.cells #[.int .i64 l0.r, .int .i64 l0.n, .slice eag Y0 ecg] 53) := ⟨_, rfl⟩
  rw [← hw] at kb ⊢
  simp only [← hw] at B9 E9 Ox0_9 Og_9 KA0_9 KS_9 Kx0_9
  have Kg_9 := Lib.hid kb
  have Gpg := Lib.hid (show w5.heap.size ≤ pg by rw [hpg]; exact E8.out.size)
  clear Ox0_8 Og_8 KA0_8 KS_8 Kx0_8 ba kb hw hpg
  have cg0 := Kg_9.out.cell 0
  have cg1 := Kg_9.out.cell 1
  have cg2 := Kg_9.out.cell 2
  simp only [List.getElem?_cons_zero, List.getElem?_cons_succ] at cg0 cg1 cg2
  have cS0 := KS_9.out.cell 0
  have cS1 := KS_9.out.cell 1
  have cS2 := KS_9.out.cell 2
  simp only [List.getElem?_cons_zero, List.getElem?_cons_succ] at cS0 cS1 cS2
  go_wp2_with fail
  refine (eqE_any l0.r l0.n _ _ M0 _ Og_9.out.ints (S.out.below (B := 0) E9.out)).mono ?_
  rintro e w10 ⟨rfl, b10⟩
  have B10 := Lib.hid (B9.out.trans ((b10).mono B9.out.size))
  have E10 := Lib.hid (E9.out.trans ((b10).mono E9.out.size))
  have Ox0_10 := Lib.hid (Ox0_9.out.below (b10))
  have Og_10 := Lib.hid (Og_9.out.below (b10))
  have KA0_10 := Lib.hid (KA0_9.out.below (b10) KA0_9.out.lt)
  have KS_10 := Lib.hid (KS_9.out.below (b10) KS_9.out.lt)
  have Kx0_10 := Lib.hid (Kx0_9.out.below (b10) Kx0_9.out.lt)
  have Kg_10 := Lib.hid (Kg_9.out.below (b10) Kg_9.out.lt)
  clear Ox0_9 Og_9 KA0_9 KS_9 Kx0_9 Kg_9 b10
  clear cg0 cg1 cg2
  clear cS0 cS1 cS2
  go_upto_region 10 with (fail)
  refine wp_region_held_drew (S := fun w' => Below w10.heap.size w10 w') (by kernel_rfl) ((Below.refl w10.heap.size w10).drew) (fun hHeld => ?_)
  have KQx0 := Kx0_10
  have KQA0 := KA0_10
  refine held_take (i := 0) (d := some 27) (v := ?_) rfl (by kernel_rfl) (by kernel_rfl) (by kernel_rfl) (by kernel_rfl) (fun _ _ _ h => h) (by kernel_rfl) ?_ hHeld ?_
  rotate_left
  · intro w' hSw
    have gK := KQx0.out.below hSw KQx0.out.lt
    have g0 := gK.cell 0
    have g1 := gK.cell 1
    have g2 := gK.cell 2
    have g3 := gK.cell 3
    have g4 := gK.cell 4
    have g5 := gK.cell 5
    have g6 := gK.cell 6
    have g7 := gK.cell 7
    have g8 := gK.cell 8
    have g9 := gK.cell 9
    have g10 := gK.cell 10
    simp only [List.getElem?_cons_zero, List.getElem?_cons_succ] at g0 g1 g2 g3 g4 g5 g6 g7 g8 g9 g10
    go_simp
    first | done | with_reducible rfl
  simp only [Act.put, List.setIfInBounds_toArray, List.set_cons_zero, List.set_cons_succ]
  refine held_take (i := 1) (d := some 28) (v := ?_) rfl (by kernel_rfl) (by kernel_rfl) (by kernel_rfl) (by kernel_rfl) (fun _ _ _ h => h) (by kernel_rfl) ?_ hHeld ?_
  rotate_left
  · intro w' hSw
    have gK := KQA0.out.below hSw KQA0.out.lt
    have g0 := gK.cell 0
    have g1 := gK.cell 1
    have g2 := gK.cell 2
    have g3 := gK.cell 3
    have g4 := gK.cell 4
    have g5 := gK.cell 5
    have g6 := gK.cell 6
    have g7 := gK.cell 7
    have g8 := gK.cell 8
    have g9 := gK.cell 9
    have g10 := gK.cell 10
    simp only [List.getElem?_cons_zero, List.getElem?_cons_succ] at g0 g1 g2 g3 g4 g5 g6 g7 g8 g9 g10
    go_simp
    first | done | with_reducible rfl
  simp only [Act.put, List.setIfInBounds_toArray, List.set_cons_zero, List.set_cons_succ]
  refine wpAnyH_ready (rs := [2]) (by kernel_rfl) (by simp) ?_
  refine AllReadyH.cons rfl (fun K hK => ?_) AllReadyH.nil
  go_simp
  refine (toA_any _ l0 _ ((H0.out.below B10.out).below hHeld) SM0.out.1 SM0.out.2).mono ?_
  rintro e w11 ⟨uy0, sy0, rfl, oy0, gy0, b11⟩
  have gy0 : ∀ b ∈ sy0, w10.heap.size ≤ b := fun b hb => Nat.le_trans hHeld.size (gy0 b hb)
  have bD11 := hHeld.trans (b11.mono hHeld.size)
  obtain ⟨day0, dcy0, uay0, ucy0, hvy0⟩ := oy0.shape
  subst hvy0
  have Oy0_11 := Lib.hid oy0
  have Dx0_y0 := Lib.hid (show ∀ b ∈ sx0, b ∉ sy0 from fun b hb hc => by have h1 := Ox0_10.out.lt b hb; have h2 := gy0 b hc; omega)
  have Dy0_x0 := Lib.hid (show ∀ b ∈ sy0, b ∉ sx0 from fun b hc hb => by have h1 := Ox0_10.out.lt b hb; have h2 := gy0 b hc; omega)
  have Dg_y0 := Lib.hid (show ∀ b ∈ sg, b ∉ sy0 from fun b hb hc => by have h1 := Og_10.out.lt b hb; have h2 := gy0 b hc; omega)
  have Dy0_g := Lib.hid (show ∀ b ∈ sy0, b ∉ sg from fun b hc hb => by have h1 := Og_10.out.lt b hb; have h2 := gy0 b hc; omega)
  have NA0_y0 := Lib.hid (show pA0 ∉ sy0 from fun hc => by have h1 := KA0_10.out.lt; have h2 := gy0 pA0 hc; omega)
  have NS_y0 := Lib.hid (show pS ∉ sy0 from fun hc => by have h1 := KS_10.out.lt; have h2 := gy0 pS hc; omega)
  have Nx0_y0 := Lib.hid (show px0 ∉ sy0 from fun hc => by have h1 := Kx0_10.out.lt; have h2 := gy0 px0 hc; omega)
  have Ng_y0 := Lib.hid (show pg ∉ sy0 from fun hc => by have h1 := Kg_10.out.lt; have h2 := gy0 pg hc; omega)
  have Gy0 := Lib.hid (fun b hb => Nat.le_trans E10.out.size (gy0 b hb))
  have B11 := Lib.hid (B10.out.trans ((bD11).mono B10.out.size))
  have E11 := Lib.hid (E10.out.trans ((bD11).mono E10.out.size))
  have Ox0_11 := Lib.hid (Ox0_10.out.below (bD11))
  have Og_11 := Lib.hid (Og_10.out.below (bD11))
  have KA0_11 := Lib.hid (KA0_10.out.below (bD11) KA0_10.out.lt)
  have KS_11 := Lib.hid (KS_10.out.below (bD11) KS_10.out.lt)
  have Kx0_11 := Lib.hid (Kx0_10.out.below (bD11) Kx0_10.out.lt)
  have Kg_11 := Lib.hid (Kg_10.out.below (bD11) Kg_10.out.lt)
  clear Ox0_10 Og_10 KA0_10 KS_10 Kx0_10 Kg_10 b11 gy0 oy0
  refine hK.out _ _ (bD11) (fun hHeld => ?_)
  clear hK K
  try simp only [Act.put, List.setIfInBounds_toArray, List.set_cons_zero, List.set_cons_succ]
  refine wpAnyH_ready (rs := [3]) (by kernel_rfl) (by simp) ?_
  refine AllReadyH.cons rfl (fun K hK => ?_) AllReadyH.nil
  go_simp
  refine (eqA_any _ _ l0 _ Ox0_11.out.act Oy0_11.out.act).mono ?_
  rintro e w12 ⟨rfl, b12⟩
  have hHeld2 := hHeld.trans (b12.mono hHeld.size)
  have B12 := Lib.hid (B11.out.trans ((b12).mono B11.out.size))
  have E12 := Lib.hid (E11.out.trans ((b12).mono E11.out.size))
  have Ox0_12 := Lib.hid (Ox0_11.out.below (b12))
  have Og_12 := Lib.hid (Og_11.out.below (b12))
  have Oy0_12 := Lib.hid (Oy0_11.out.below (b12))
  have KA0_12 := Lib.hid (KA0_11.out.below (b12) KA0_11.out.lt)
  have KS_12 := Lib.hid (KS_11.out.below (b12) KS_11.out.lt)
  have Kx0_12 := Lib.hid (Kx0_11.out.below (b12) Kx0_11.out.lt)
  have Kg_12 := Lib.hid (Kg_11.out.below (b12) Kg_11.out.lt)
  clear Ox0_11 Og_11 Oy0_11 KA0_11 KS_11 Kx0_11 Kg_11 b12
  clear Oy0_12
  refine hK.out _ _ (hHeld2) (fun hHeld => ?_)
  clear hK K
  try simp only [Act.put, List.setIfInBounds_toArray, List.set_cons_zero, List.set_cons_succ]
  refine held_take (i := 4) (d := some 31) (v := ?_) rfl (by kernel_rfl) (by kernel_rfl) (by kernel_rfl) (by kernel_rfl) (fun _ _ _ h => h) (by kernel_rfl) ?_ hHeld ?_
  rotate_left
  · intro w' hSw
    go_simp
    first | done | with_reducible rfl
  simp only [Act.put, List.setIfInBounds_toArray, List.set_cons_zero, List.set_cons_succ]
  refine wpAnyH_done (by kernel_rfl) ?_ _
  clear KQx0
  clear KQA0
  have cx00 := Kx0_12.out.cell 0
  have cx01 := Kx0_12.out.cell 1
  have cx02 := Kx0_12.out.cell 2
  have cx03 := Kx0_12.out.cell 3
  have cx04 := Kx0_12.out.cell 4
  have cx05 := Kx0_12.out.cell 5
  have cx06 := Kx0_12.out.cell 6
  have cx07 := Kx0_12.out.cell 7
  have cx08 := Kx0_12.out.cell 8
  have cx09 := Kx0_12.out.cell 9
  have cx010 := Kx0_12.out.cell 10
  simp only [List.getElem?_cons_zero, List.getElem?_cons_succ] at cx00 cx01 cx02 cx03 cx04 cx05 cx06 cx07 cx08 cx09 cx010
  go_wp2_with fail
  refine (markAZ Ox0_12.out HZ0.out 1 (by omega) (by omega)).mono ?_
  rintro e w13 ⟨rfl, g13⟩
  have Og_13 := Lib.hid (Og_12.out.other g13 Dg_x0.out)
  have KA0_13 := Lib.hid (KA0_12.out.on g13 NA0_x0.out)
  have KS_13 := Lib.hid (KS_12.out.on g13 NS_x0.out)
  have Kx0_13 := Lib.hid (Kx0_12.out.on g13 Nx0_x0.out)
  have Kg_13 := Lib.hid (Kg_12.out.on g13 Ng_x0.out)
  have bE := g13.below Gx0.out E12.out.size
  have E13 := Lib.hid (E12.out.trans bE)
  have B13 := Lib.hid (B5.out.trans (E13.out.mono B5.out.size))
  clear Ox0_12 Og_12 KA0_12 KS_12 Kx0_12 Kg_12 bE g13
  clear cx00 cx01 cx02 cx03 cx04 cx05 cx06 cx07 cx08 cx09 cx010
  have cg0 := Kg_13.out.cell 0
  have cg1 := Kg_13.out.cell 1
  have cg2 := Kg_13.out.cell 2
  simp only [List.getElem?_cons_zero, List.getElem?_cons_succ] at cg0 cg1 cg2
  have cS0 := KS_13.out.cell 0
  have cS1 := KS_13.out.cell 1
  have cS2 := KS_13.out.cell 2
  simp only [List.getElem?_cons_zero, List.getElem?_cons_succ] at cS0 cS1 cS2
  have kk4 : decide ((1 + (Z0 : Int)) < 0) = false := by simp; omega
  go_wp2_with fail
  refine (eqE_any l0.r l0.n _ _ M0 _ Og_13.out.ints (S.out.below (B := 0) E13.out)).mono ?_
  rintro e w14 ⟨rfl, b14⟩
  have B14 := Lib.hid (B13.out.trans ((b14).mono B13.out.size))
  have E14 := Lib.hid (E13.out.trans ((b14).mono E13.out.size))
  have Og_14 := Lib.hid (Og_13.out.below (b14))
  have KA0_14 := Lib.hid (KA0_13.out.below (b14) KA0_13.out.lt)
  have KS_14 := Lib.hid (KS_13.out.below (b14) KS_13.out.lt)
  have Kx0_14 := Lib.hid (Kx0_13.out.below (b14) Kx0_13.out.lt)
  have Kg_14 := Lib.hid (Kg_13.out.below (b14) Kg_13.out.lt)
  clear Og_13 KA0_13 KS_13 Kx0_13 Kg_13 b14
  clear cg0 cg1 cg2
  clear cS0 cS1 cS2
  have cg0 := Kg_14.out.cell 0
  have cg1 := Kg_14.out.cell 1
  have cg2 := Kg_14.out.cell 2
  simp only [List.getElem?_cons_zero, List.getElem?_cons_succ] at cg0 cg1 cg2
  go_wp2_with fail
  refine (markEZ l0.r l0.n Og_14.out HY0.out 1 (by omega) (by omega)).mono ?_
  rintro e w15 ⟨rfl, o15, g15⟩
  have Og_15 := Lib.hid o15
  have KA0_15 := Lib.hid (KA0_14.out.on g15 NA0_g.out)
  have KS_15 := Lib.hid (KS_14.out.on g15 NS_g.out)
  have Kx0_15 := Lib.hid (Kx0_14.out.on g15 Nx0_g.out)
  have Kg_15 := Lib.hid (Kg_14.out.on g15 Ng_g.out)
  have bE := g15.below Gg.out E14.out.size
  have E15 := Lib.hid (E14.out.trans bE)
  have B15 := Lib.hid (B5.out.trans (E15.out.mono B5.out.size))
  clear Og_14 KA0_14 KS_14 Kx0_14 Kg_14 bE o15 g15
  clear cg0 cg1 cg2
  have cg0 := Kg_15.out.cell 0
  have cg1 := Kg_15.out.cell 1
  have cg2 := Kg_15.out.cell 2
  simp only [List.getElem?_cons_zero, List.getElem?_cons_succ] at cg0 cg1 cg2
  go_wp2_with fail
  refine (heldEZ l0.r l0.n (Z := Y0) Og_15.out (by omega) (by omega)).mono ?_
  rintro e w16 ⟨rfl, b16⟩
  have B16 := Lib.hid (B15.out.trans ((b16).mono B15.out.size))
  have E16 := Lib.hid (E15.out.trans ((b16).mono E15.out.size))
  have Og_16 := Lib.hid (Og_15.out.below (b16))
  have KA0_16 := Lib.hid (KA0_15.out.below (b16) KA0_15.out.lt)
  have KS_16 := Lib.hid (KS_15.out.below (b16) KS_15.out.lt)
  have Kx0_16 := Lib.hid (Kx0_15.out.below (b16) Kx0_15.out.lt)
  have Kg_16 := Lib.hid (Kg_15.out.below (b16) Kg_15.out.lt)
  clear Og_15 KA0_15 KS_15 Kx0_15 Kg_15 b16
  skip
  clear cg0 cg1 cg2
  have kk5 : decide ((1 + (Y0 : Int)) < 0) = false := by simp; omega
  have kq6 : ((1 + (Y0 : Int)) == (1 + (Y0 : Int))) = true := by simp
  have kp6 : ((1 + (Y0 : Int)) != (1 + (Y0 : Int))) = false := by simp
  have cA00 := KA0_16.out.cell 0
  have cA01 := KA0_16.out.cell 1
  have cA02 := KA0_16.out.cell 2
  have cA03 := KA0_16.out.cell 3
  have cA04 := KA0_16.out.cell 4
  have cA05 := KA0_16.out.cell 5
  have cA06 := KA0_16.out.cell 6
  have cA07 := KA0_16.out.cell 7
  have cA08 := KA0_16.out.cell 8
  have cA09 := KA0_16.out.cell 9
  have cA010 := KA0_16.out.cell 10
  simp only [List.getElem?_cons_zero, List.getElem?_cons_succ] at cA00 cA01 cA02 cA03 cA04 cA05 cA06 cA07 cA08 cA09 cA010
  go_wp2_with fail
  refine (toA_any _ l0 _ (H0.out.below B16.out) SM0.out.1 SM0.out.2).mono ?_
  rintro e w17 ⟨uz0, sz0, rfl, oz0, gz0, b17⟩
  obtain ⟨daz0, dcz0, uaz0, ucz0, hvz0⟩ := oz0.shape
  subst hvz0
  have Oz0_17 := Lib.hid oz0
  have Dg_z0 := Lib.hid (show ∀ b ∈ sg, b ∉ sz0 from fun b hb hc => by have h1 := Og_16.out.lt b hb; have h2 := gz0 b hc; omega)
  have Dz0_g := Lib.hid (show ∀ b ∈ sz0, b ∉ sg from fun b hc hb => by have h1 := Og_16.out.lt b hb; have h2 := gz0 b hc; omega)
  have NA0_z0 := Lib.hid (show pA0 ∉ sz0 from fun hc => by have h1 := KA0_16.out.lt; have h2 := gz0 pA0 hc; omega)
  have NS_z0 := Lib.hid (show pS ∉ sz0 from fun hc => by have h1 := KS_16.out.lt; have h2 := gz0 pS hc; omega)
  have Nx0_z0 := Lib.hid (show px0 ∉ sz0 from fun hc => by have h1 := Kx0_16.out.lt; have h2 := gz0 px0 hc; omega)
  have Ng_z0 := Lib.hid (show pg ∉ sz0 from fun hc => by have h1 := Kg_16.out.lt; have h2 := gz0 pg hc; omega)
  have Gz0 := Lib.hid (fun b hb => Nat.le_trans E16.out.size (gz0 b hb))
  have B17 := Lib.hid (B16.out.trans ((b17).mono B16.out.size))
  have E17 := Lib.hid (E16.out.trans ((b17).mono E16.out.size))
  have Og_17 := Lib.hid (Og_16.out.below (b17))
  have KA0_17 := Lib.hid (KA0_16.out.below (b17) KA0_16.out.lt)
  have KS_17 := Lib.hid (KS_16.out.below (b17) KS_16.out.lt)
  have Kx0_17 := Lib.hid (Kx0_16.out.below (b17) Kx0_16.out.lt)
  have Kg_17 := Lib.hid (Kg_16.out.below (b17) Kg_16.out.lt)
  clear Og_16 KA0_16 KS_16 Kx0_16 Kg_16 b17 gz0 oz0
  clear cA00 cA01 cA02 cA03 cA04 cA05 cA06 cA07 cA08 cA09 cA010
  go_wp2_with fail
  refine (CI.out _ _ Oz0_17.out.act SM0.out).mono ?_
  rintro e w18 ⟨uh, sh, rfl, oh, gh, b18⟩
  obtain ⟨eah, ech, hvh⟩ := ints_len oh.ints
  rw [HY0.out] at hvh
  subst hvh
  have Oh_18 := Lib.hid oh
  have Dg_h := Lib.hid (show ∀ b ∈ sg, b ∉ sh from fun b hb hc => by have h1 := Og_17.out.lt b hb; have h2 := gh b hc; omega)
  have Dh_g := Lib.hid (show ∀ b ∈ sh, b ∉ sg from fun b hc hb => by have h1 := Og_17.out.lt b hb; have h2 := gh b hc; omega)
  have Dz0_h := Lib.hid (show ∀ b ∈ sz0, b ∉ sh from fun b hb hc => by have h1 := Oz0_17.out.lt b hb; have h2 := gh b hc; omega)
  have Dh_z0 := Lib.hid (show ∀ b ∈ sh, b ∉ sz0 from fun b hc hb => by have h1 := Oz0_17.out.lt b hb; have h2 := gh b hc; omega)
  have NA0_h := Lib.hid (show pA0 ∉ sh from fun hc => by have h1 := KA0_17.out.lt; have h2 := gh pA0 hc; omega)
  have NS_h := Lib.hid (show pS ∉ sh from fun hc => by have h1 := KS_17.out.lt; have h2 := gh pS hc; omega)
  have Nx0_h := Lib.hid (show px0 ∉ sh from fun hc => by have h1 := Kx0_17.out.lt; have h2 := gh px0 hc; omega)
  have Ng_h := Lib.hid (show pg ∉ sh from fun hc => by have h1 := Kg_17.out.lt; have h2 := gh pg hc; omega)
  have Gh := Lib.hid (fun b hb => Nat.le_trans E17.out.size (gh b hb))
  have B18 := Lib.hid (B17.out.trans ((b18).mono B17.out.size))
  have E18 := Lib.hid (E17.out.trans ((b18).mono E17.out.size))
  have Og_18 := Lib.hid (Og_17.out.below (b18))
  have Oz0_18 := Lib.hid (Oz0_17.out.below (b18))
  have KA0_18 := Lib.hid (KA0_17.out.below (b18) KA0_17.out.lt)
  have KS_18 := Lib.hid (KS_17.out.below (b18) KS_17.out.lt)
  have Kx0_18 := Lib.hid (Kx0_17.out.below (b18) Kx0_17.out.lt)
  have Kg_18 := Lib.hid (Kg_17.out.below (b18) Kg_17.out.lt)
  clear Og_17 Oz0_17 KA0_17 KS_17 Kx0_17 Kg_17 b18 gh oh
  clear Oz0_18
  go_upto_region 25 with (fail)
  have ba := (Below.refl w18.heap.size w18).alloc (Nat.le_refl _) (.cells #[.int .i64 l0.r, .int .i64 l0.n, .slice eah Y0 ech] 53)
  have kb := Blk.new w18 #[.int .i64 l0.r, .int .i64 l0.n, .slice eah Y0 ech] 53
  obtain ⟨ph, hph⟩ : ∃ p, p = w18.heap.size := ⟨_, rfl⟩
  have Nh_g := Lib.hid (show ph ∉ sg from fun h => by have h1 := Og_18.out.lt ph h; omega)
  have Nh_h := Lib.hid (show ph ∉ sh from fun h => by have h1 := Oh_18.out.lt ph h; omega)
  have B19 := Lib.hid (B18.out.trans ((ba).mono B18.out.size))
  have E19 := Lib.hid (E18.out.trans ((ba).mono E18.out.size))
  have Og_19 := Lib.hid (Og_18.out.below (ba))
  have Oh_19 := Lib.hid (Oh_18.out.below (ba))
  have KA0_19 := Lib.hid (KA0_18.out.below (ba) KA0_18.out.lt)
  have KS_19 := Lib.hid (KS_18.out.below (ba) KS_18.out.lt)
  have Kx0_19 := Lib.hid (Kx0_18.out.below (ba) Kx0_18.out.lt)
  have Kg_19 := Lib.hid (Kg_18.out.below (ba) Kg_18.out.lt)
  rw [← hph] at kb ⊢
  obtain ⟨w19, hw⟩ : ∃ W, W = w18.alloc (.cells #[.int .i64 l0.r, .int .i64 l0.n, .slice eah Y0 ech] 53) := ⟨_, rfl⟩
  rw [← hw] at kb ⊢
  simp only [← hw] at B19 E19 Og_19 Oh_19 KA0_19 KS_19 Kx0_19 Kg_19
  have Kh_19 := Lib.hid kb
  have Gph := Lib.hid (show w5.heap.size ≤ ph by rw [hph]; exact E18.out.size)
  clear Og_18 Oh_18 KA0_18 KS_18 Kx0_18 Kg_18 ba kb hw hph
  have ch0 := Kh_19.out.cell 0
  have ch1 := Kh_19.out.cell 1
  have ch2 := Kh_19.out.cell 2
  simp only [List.getElem?_cons_zero, List.getElem?_cons_succ] at ch0 ch1 ch2
  have cS0 := KS_19.out.cell 0
  have cS1 := KS_19.out.cell 1
  have cS2 := KS_19.out.cell 2
  simp only [List.getElem?_cons_zero, List.getElem?_cons_succ] at cS0 cS1 cS2
  go_wp2_with fail
  refine (eqE_any l0.r l0.n _ _ M0 _ Oh_19.out.ints (S.out.below (B := 0) E19.out)).mono ?_
  rintro e w20 ⟨rfl, b20⟩
  have B20 := Lib.hid (B19.out.trans ((b20).mono B19.out.size))
  have E20 := Lib.hid (E19.out.trans ((b20).mono E19.out.size))
  have Og_20 := Lib.hid (Og_19.out.below (b20))
  have Oh_20 := Lib.hid (Oh_19.out.below (b20))
  have KA0_20 := Lib.hid (KA0_19.out.below (b20) KA0_19.out.lt)
  have KS_20 := Lib.hid (KS_19.out.below (b20) KS_19.out.lt)
  have Kx0_20 := Lib.hid (Kx0_19.out.below (b20) Kx0_19.out.lt)
  have Kg_20 := Lib.hid (Kg_19.out.below (b20) Kg_19.out.lt)
  have Kh_20 := Lib.hid (Kh_19.out.below (b20) Kh_19.out.lt)
  clear Og_19 Oh_19 KA0_19 KS_19 Kx0_19 Kg_19 Kh_19 b20
  clear ch0 ch1 ch2
  clear cS0 cS1 cS2
  have cg0 := Kg_20.out.cell 0
  have cg1 := Kg_20.out.cell 1
  have cg2 := Kg_20.out.cell 2
  simp only [List.getElem?_cons_zero, List.getElem?_cons_succ] at cg0 cg1 cg2
  go_wp2_with fail
  refine (heldEZ l0.r l0.n (Z := Y0) Og_20.out (by omega) (by omega)).mono ?_
  rintro e w21 ⟨rfl, b21⟩
  have B21 := Lib.hid (B20.out.trans ((b21).mono B20.out.size))
  have E21 := Lib.hid (E20.out.trans ((b21).mono E20.out.size))
  have Og_21 := Lib.hid (Og_20.out.below (b21))
  have Oh_21 := Lib.hid (Oh_20.out.below (b21))
  have KA0_21 := Lib.hid (KA0_20.out.below (b21) KA0_20.out.lt)
  have KS_21 := Lib.hid (KS_20.out.below (b21) KS_20.out.lt)
  have Kx0_21 := Lib.hid (Kx0_20.out.below (b21) Kx0_20.out.lt)
  have Kg_21 := Lib.hid (Kg_20.out.below (b21) Kg_20.out.lt)
  have Kh_21 := Lib.hid (Kh_20.out.below (b21) Kh_20.out.lt)
  clear Og_20 Oh_20 KA0_20 KS_20 Kx0_20 Kg_20 Kh_20 b21
  skip
  clear cg0 cg1 cg2
  have kk8 : decide ((1 + (Y0 : Int)) < 0) = false := by simp; omega
  have kq9 : ((1 + (Y0 : Int)) == (1 + (Y0 : Int))) = true := by simp
  have kp9 : ((1 + (Y0 : Int)) != (1 + (Y0 : Int))) = false := by simp
  go_wp2_with fail
  go_ret
  exact ⟨rfl, B21.out⟩
end Go.Proofs.Ytjmefifdofgncaa
