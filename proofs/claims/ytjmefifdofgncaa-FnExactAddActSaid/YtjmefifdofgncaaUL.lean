/- The law FnExactAddAct. -/
import Derived.Test.YtjmefifdofgncaaUK
import Derived.Test.YtjmefifdofgncaaNE
import Derived.Test.YtjmefifdofgncaaKA
import Derived.Test.YtjmefifdofgncaaHG
import Derived.Deep.DeepCutAuto
namespace Go.Proofs.Ytjmefifdofgncaa
open Go.RowKit
set_option linter.unusedVariables false

set_option maxRecDepth 100000 in
set_option maxHeartbeats 12800000 in
theorem law_addAct (v0 : Value) (l0 : List ActM) (n1 : Int) (v2 : Value) (l2 : ActM) (w0 : World) (h0 : Acts w0 v0 l0) (h1 : -9223372036854775808 ≤ n1 ∧ n1 ≤ 9223372036854775807) (h2 : ActIs w0 v2 l2) :
    Calls Try.prog 5 #[v0, .int .i64 n1, v2] w0 fun e w' => e = .returned (.bool true) ∧ Below w0.heap.size w0 w' := by
  have H0 := Lib.hid h0
  have H2 := Lib.hid h2
  obtain ⟨M0, hM0⟩ : ∃ M, M = addL l0 n1 l2 := ⟨_, rfl⟩
  obtain ⟨M1, hM1⟩ : ∃ M, M = addB l0 n1 l2 := ⟨_, rfl⟩
  have CS := Lib.hid (fun W u0 u2 (h0 : Acts W u0 l0) (h2 : ActIs W u2 l2) (s0 : SmallL l0) (s2 : l2.Small) => specAddAct2 u0 l0 n1 u2 l2 W h0 h1 h2 s2)
  have CI := Lib.hid (fun W u0 u2 (h0 : Acts W u0 l0) (h2 : ActIs W u2 l2) (s0 : SmallL l0) (s2 : l2.Small) => implAddAct_any u0 l0 n1 u2 l2 W h0 h1 h2)
  simp only [← hM0] at CS CI
  simp only [← hM1] at CS CI
  have HB0 : szL M0 ≤ 1980 := by rw [hM0]; exact szL_add _ _ _
  obtain ⟨Y0, hY0⟩ : ∃ Y, szL M0 = Y := ⟨_, rfl⟩
  rw [hY0] at HB0
  have HY0 := Lib.hid hY0
  clear hY0
  have be1 : (M1 == M1) = true := by simp
  have bn1 : (M1 != M1) = false := by simp
  clear hM0 hM1 h0 h2
  obtain ⟨da2, dc2, ua2, uc2, hv2⟩ := act_shape H2.out
  subst hv2
  have B0 := Lib.hid (Below.refl w0.heap.size w0)
  go_enter Try.func5, Try.ntmps5
  go_upto_region 1 with (fail)
  have ba := (Below.refl w0.heap.size w0).alloc (Nat.le_refl _) (.cells #[.int .i64 l2.r, .int .i64 l2.n, .slice da2 l2.dep.length dc2, .int .i64 l2.actor, .int .i64 l2.kind, .int .i64 l2.to, .int .i64 l2.bucket, .int .i64 l2.mask, .int .i64 l2.gr, .int .i64 l2.gn, .slice ua2 l2.ups.length uc2] 36)
  have kb := Blk.new w0 #[.int .i64 l2.r, .int .i64 l2.n, .slice da2 l2.dep.length dc2, .int .i64 l2.actor, .int .i64 l2.kind, .int .i64 l2.to, .int .i64 l2.bucket, .int .i64 l2.mask, .int .i64 l2.gr, .int .i64 l2.gn, .slice ua2 l2.ups.length uc2] 36
  obtain ⟨pA2, hpA⟩ : ∃ p, p = w0.heap.size := ⟨_, rfl⟩
  have B1 := Lib.hid (B0.out.trans ((ba).mono B0.out.size))
  rw [← hpA] at kb ⊢
  obtain ⟨w1, hw⟩ : ∃ W, W = w0.alloc (.cells #[.int .i64 l2.r, .int .i64 l2.n, .slice da2 l2.dep.length dc2, .int .i64 l2.actor, .int .i64 l2.kind, .int .i64 l2.to, .int .i64 l2.bucket, .int .i64 l2.mask, .int .i64 l2.gr, .int .i64 l2.gn, .slice ua2 l2.ups.length uc2] 36) := ⟨_, rfl⟩
  rw [← hw] at kb ⊢
  simp only [← hw] at B1
  have KA2_1 := Lib.hid kb
  clear ba kb hw hpA
  go_wp2_with fail
  refine (szActS_any _ l0 1048576 _ (H0.out.below B1.out) (by omega) (by omega)).mono ?_
  rintro e w2 ⟨r0, rfl, ra0, rb0, rs0, b2⟩
  have B2 := Lib.hid (B1.out.trans ((b2).mono B1.out.size))
  have KA2_2 := Lib.hid (KA2_1.out.below (b2) KA2_1.out.lt)
  have RS0 := Lib.hid rs0
  clear KA2_1 b2 rs0
  by_cases hr0 : r0 < 0
  · go_wp2_with fail
    go_ret
    exact ⟨rfl, B2.out⟩
  have SM0 := Lib.hid (RS0.out (by omega)).1
  have hz0 : szL l0 ≤ 9437184 := by have h1 := (RS0.out (by omega)).2; have h2 := szL_tot l0; omega
  obtain ⟨Z0, hZ0⟩ : ∃ Z, szL l0 = Z := ⟨_, rfl⟩
  rw [hZ0] at hz0
  have HZ0 := Lib.hid hZ0
  clear hZ0
  have cA20 := KA2_2.out.cell 0
  have cA21 := KA2_2.out.cell 1
  have cA22 := KA2_2.out.cell 2
  have cA23 := KA2_2.out.cell 3
  have cA24 := KA2_2.out.cell 4
  have cA25 := KA2_2.out.cell 5
  have cA26 := KA2_2.out.cell 6
  have cA27 := KA2_2.out.cell 7
  have cA28 := KA2_2.out.cell 8
  have cA29 := KA2_2.out.cell 9
  have cA210 := KA2_2.out.cell 10
  simp only [List.getElem?_cons_zero, List.getElem?_cons_succ] at cA20 cA21 cA22 cA23 cA24 cA25 cA26 cA27 cA28 cA29 cA210
  go_wp2_with fail
  refine (szAct_any _ l2 r0 _ (H2.out.below B2.out) (by omega) (by omega)).mono ?_
  rintro e w3 ⟨rfl, b3⟩
  have B3 := Lib.hid (B2.out.trans ((b3).mono B2.out.size))
  have KA2_3 := Lib.hid (KA2_2.out.below (b3) KA2_2.out.lt)
  clear KA2_2 b3
  generalize hq2 : szM l2.dep.length l2.ups.length r0 = r2
  have RS2 := Lib.hid hq2
  clear hq2
  by_cases hr2 : r2 < 0
  · go_wp2_with fail
    go_ret
    exact ⟨rfl, B3.out⟩
  have SQ2 := Lib.hid (szM_ok (by rw [RS2.out]; exact hr2))
  have hw2 : r2 ≤ 1048576 := by have h1 := SQ2.out; have h2 := RS2.out; omega
  have hz2 : szD l2 ≤ 5242880 := by have h1 := SQ2.out; simp only [szD]; omega
  have SM2 := Lib.hid (show ActM.Small l2 from ⟨by have h1 := SQ2.out; omega, by have h1 := SQ2.out; omega⟩)
  obtain ⟨Z2, hZ2⟩ : ∃ Z, szD l2 = Z := ⟨_, rfl⟩
  rw [hZ2] at hz2
  have HZ2 := Lib.hid hZ2
  clear hZ2
  clear cA20 cA21 cA22 cA23 cA24 cA25 cA26 cA27 cA28 cA29 cA210
  go_upto_region 8 with (fail)
  refine wp_region_held_drew (S := fun w' => Below w3.heap.size w3 w') (by kernel_rfl) ((Below.refl w3.heap.size w3).drew) (fun hHeld => ?_)
  have KQA2 := KA2_3
  refine held_take (i := 0) (d := some 30) (v := ?_) rfl (by kernel_rfl) (by kernel_rfl) (by kernel_rfl) (by kernel_rfl) (fun _ _ _ h => h) (by kernel_rfl) ?_ hHeld ?_
  rotate_left
  · intro w' hSw
    go_simp
    first | done | with_reducible rfl
  simp only [Act.put, List.setIfInBounds_toArray, List.set_cons_zero, List.set_cons_succ]
  refine held_take (i := 2) (d := some 32) (v := ?_) rfl (by kernel_rfl) (by kernel_rfl) (by kernel_rfl) (by kernel_rfl) (fun _ _ _ h => h) (by kernel_rfl) ?_ hHeld ?_
  rotate_left
  · intro w' hSw
    go_simp
    first | done | with_reducible rfl
  simp only [Act.put, List.setIfInBounds_toArray, List.set_cons_zero, List.set_cons_succ]
  refine held_take (i := 3) (d := some 33) (v := ?_) rfl (by kernel_rfl) (by kernel_rfl) (by kernel_rfl) (by kernel_rfl) (fun _ _ _ h => h) (by kernel_rfl) ?_ hHeld ?_
  rotate_left
  · intro w' hSw
    have gK := KQA2.out.below hSw KQA2.out.lt
    have g0 := gK.cell 0
    have g1 := gK.cell 1
    have g2 := gK.cell 2
    have g3 := gK.cell 3
    have g4 := gK.cell 4
    have g5 := gK.cell 5
    have g6 := gK.cell 6
    have g7 := gK.cell 7
    have g8 := gK.cell 8
    have g9 := gK.cell 9
    have g10 := gK.cell 10
    simp only [List.getElem?_cons_zero, List.getElem?_cons_succ] at g0 g1 g2 g3 g4 g5 g6 g7 g8 g9 g10
    go_simp
    first | done | with_reducible rfl
  simp only [Act.put, List.setIfInBounds_toArray, List.set_cons_zero, List.set_cons_succ]
  refine wpAnyH_ready (rs := [1]) (by kernel_rfl) (by simp) ?_
  refine AllReadyH.cons rfl (fun K hK => ?_) AllReadyH.nil
  go_simp
  refine (toL_any _ l0 _ ((H0.out.below B3.out).below hHeld) SM0.out).mono ?_
  rintro e w4 ⟨us0, ss0, rfl, os0, gs0, b4⟩
  have gs0 : ∀ b ∈ ss0, w3.heap.size ≤ b := fun b hb => Nat.le_trans hHeld.size (gs0 b hb)
  have bD4 := hHeld.trans (b4.mono hHeld.size)
  have Os0_4 := Lib.hid os0
  have NA2_s0 := Lib.hid (show pA2 ∉ ss0 from fun hc => by have h1 := KA2_3.out.lt; have h2 := gs0 pA2 hc; omega)
  have B4 := Lib.hid (B3.out.trans ((bD4).mono B3.out.size))
  have KA2_4 := Lib.hid (KA2_3.out.below (bD4) KA2_3.out.lt)
  clear KA2_3 b4 gs0 os0
  refine hK.out _ _ (bD4) (fun hHeld => ?_)
  clear hK K
  try simp only [Act.put, List.setIfInBounds_toArray, List.set_cons_zero, List.set_cons_succ]
  refine wpAnyH_ready (rs := [4]) (by kernel_rfl) (by simp) ?_
  refine AllReadyH.cons rfl (fun K hK => ?_) AllReadyH.nil
  go_simp
  refine (toA_any _ l2 _ (H2.out.below B4.out) SM2.out.1 SM2.out.2).mono ?_
  rintro e w5 ⟨us2, ss2, rfl, os2, gs2, b5⟩
  have hHeld2 := hHeld.trans (b5.mono hHeld.size)
  obtain ⟨das2, dcs2, uas2, ucs2, hvs2⟩ := os2.shape
  subst hvs2
  have Os2_5 := Lib.hid os2
  have Ds0_s2 := Lib.hid (show ∀ b ∈ ss0, b ∉ ss2 from fun b hb hc => by have h1 := Os0_4.out.lt b hb; have h2 := gs2 b hc; omega)
  have Ds2_s0 := Lib.hid (show ∀ b ∈ ss2, b ∉ ss0 from fun b hc hb => by have h1 := Os0_4.out.lt b hb; have h2 := gs2 b hc; omega)
  have NA2_s2 := Lib.hid (show pA2 ∉ ss2 from fun hc => by have h1 := KA2_4.out.lt; have h2 := gs2 pA2 hc; omega)
  have B5 := Lib.hid (B4.out.trans ((b5).mono B4.out.size))
  have Os0_5 := Lib.hid (Os0_4.out.below (b5))
  have KA2_5 := Lib.hid (KA2_4.out.below (b5) KA2_4.out.lt)
  clear Os0_4 KA2_4 b5 gs2 os2
  refine hK.out _ _ (hHeld2) (fun hHeld => ?_)
  clear hK K
  try simp only [Act.put, List.setIfInBounds_toArray, List.set_cons_zero, List.set_cons_succ]
  refine wpAnyH_ready (rs := [5]) (by kernel_rfl) (by simp) ?_
  refine AllReadyH.cons rfl (fun K hK => ?_) AllReadyH.nil
  go_simp
  refine (CS.out _ _ _ Os0_5.out.acts Os2_5.out.act SM0.out SM2.out).mono ?_
  rintro e w6 ⟨uS, rfl, oS, b6⟩
  have hHeld2 := hHeld.trans (b6.mono hHeld.size)
  have B6 := Lib.hid (B5.out.trans ((b6).mono B5.out.size))
  have KA2_6 := Lib.hid (KA2_5.out.below (b6) KA2_5.out.lt)
  have S := Lib.hid oS
  clear Os0_5 Os2_5 KA2_5 b6 oS
  refine hK.out _ _ (hHeld2) (fun hHeld => ?_)
  clear hK K
  try simp only [Act.put, List.setIfInBounds_toArray, List.set_cons_zero, List.set_cons_succ]
  refine held_take (i := 6) (d := some 29) (v := ?_) rfl (by kernel_rfl) (by kernel_rfl) (by kernel_rfl) (by kernel_rfl) (fun _ _ _ h => h) (by kernel_rfl) ?_ hHeld ?_
  rotate_left
  · intro w' hSw
    go_simp
    first | done | with_reducible rfl
  simp only [Act.put, List.setIfInBounds_toArray, List.set_cons_zero, List.set_cons_succ]
  refine held_take (i := 7) (d := some 36) (v := ?_) rfl (by kernel_rfl) (by kernel_rfl) (by kernel_rfl) (by kernel_rfl) (fun _ _ _ h => h) (by kernel_rfl) ?_ hHeld ?_
  rotate_left
  · intro w' hSw
    go_simp
    first | done | with_reducible rfl
  simp only [Act.put, List.setIfInBounds_toArray, List.set_cons_zero, List.set_cons_succ]
  refine held_take (i := 8) (d := some 37) (v := ?_) rfl (by kernel_rfl) (by kernel_rfl) (by kernel_rfl) (by kernel_rfl) (fun _ _ _ h => h) (by kernel_rfl) ?_ hHeld ?_
  rotate_left
  · intro w' hSw
    go_simp
    first | done | with_reducible rfl
  simp only [Act.put, List.setIfInBounds_toArray, List.set_cons_zero, List.set_cons_succ]
  refine held_take (i := 9) (d := some 8) (v := ?_) rfl (by kernel_rfl) (by kernel_rfl) (by kernel_rfl) (by kernel_rfl) (fun _ _ _ h => h) (by kernel_rfl) ?_ hHeld ?_
  rotate_left
  · intro w' hSw
    go_simp
    first | done | with_reducible rfl
  simp only [Act.put, List.setIfInBounds_toArray, List.set_cons_zero, List.set_cons_succ]
  refine held_take (i := 10) (d := some 9) (v := ?_) rfl (by kernel_rfl) (by kernel_rfl) (by kernel_rfl) (by kernel_rfl) (fun _ _ _ h => h) (by kernel_rfl) ?_ hHeld ?_
  rotate_left
  · intro w' hSw
    go_simp
    first | done | with_reducible rfl
  simp only [Act.put, List.setIfInBounds_toArray, List.set_cons_zero, List.set_cons_succ]
  refine wpAnyH_done (by kernel_rfl) ?_ _
  clear KQA2
  have E6 := Lib.hid (Below.refl w6.heap.size w6)
  go_wp2_with fail
  refine (toL_any _ l0 _ (H0.out.below B6.out) SM0.out).mono ?_
  rintro e w7 ⟨ux0, sx0, rfl, ox0, gx0, b7⟩
  have Ox0_7 := Lib.hid ox0
  have NA2_x0 := Lib.hid (show pA2 ∉ sx0 from fun hc => by have h1 := KA2_6.out.lt; have h2 := gx0 pA2 hc; omega)
  have Gx0 := Lib.hid (fun b hb => Nat.le_trans E6.out.size (gx0 b hb))
  have B7 := Lib.hid (B6.out.trans ((b7).mono B6.out.size))
  have E7 := Lib.hid (E6.out.trans ((b7).mono E6.out.size))
  have KA2_7 := Lib.hid (KA2_6.out.below (b7) KA2_6.out.lt)
  clear KA2_6 b7 gx0 ox0
  have cA20 := KA2_7.out.cell 0
  have cA21 := KA2_7.out.cell 1
  have cA22 := KA2_7.out.cell 2
  have cA23 := KA2_7.out.cell 3
  have cA24 := KA2_7.out.cell 4
  have cA25 := KA2_7.out.cell 5
  have cA26 := KA2_7.out.cell 6
  have cA27 := KA2_7.out.cell 7
  have cA28 := KA2_7.out.cell 8
  have cA29 := KA2_7.out.cell 9
  have cA210 := KA2_7.out.cell 10
  simp only [List.getElem?_cons_zero, List.getElem?_cons_succ] at cA20 cA21 cA22 cA23 cA24 cA25 cA26 cA27 cA28 cA29 cA210
  go_wp2_with fail
  refine (toA_any _ l2 _ (H2.out.below B7.out) SM2.out.1 SM2.out.2).mono ?_
  rintro e w8 ⟨ux2, sx2, rfl, ox2, gx2, b8⟩
  obtain ⟨dax2, dcx2, uax2, ucx2, hvx2⟩ := ox2.shape
  subst hvx2
  have Ox2_8 := Lib.hid ox2
  have Dx0_x2 := Lib.hid (show ∀ b ∈ sx0, b ∉ sx2 from fun b hb hc => by have h1 := Ox0_7.out.lt b hb; have h2 := gx2 b hc; omega)
  have Dx2_x0 := Lib.hid (show ∀ b ∈ sx2, b ∉ sx0 from fun b hc hb => by have h1 := Ox0_7.out.lt b hb; have h2 := gx2 b hc; omega)
  have NA2_x2 := Lib.hid (show pA2 ∉ sx2 from fun hc => by have h1 := KA2_7.out.lt; have h2 := gx2 pA2 hc; omega)
  have Gx2 := Lib.hid (fun b hb => Nat.le_trans E7.out.size (gx2 b hb))
  have B8 := Lib.hid (B7.out.trans ((b8).mono B7.out.size))
  have E8 := Lib.hid (E7.out.trans ((b8).mono E7.out.size))
  have Ox0_8 := Lib.hid (Ox0_7.out.below (b8))
  have KA2_8 := Lib.hid (KA2_7.out.below (b8) KA2_7.out.lt)
  clear Ox0_7 KA2_7 b8 gx2 ox2
  clear cA20 cA21 cA22 cA23 cA24 cA25 cA26 cA27 cA28 cA29 cA210
  go_upto_region 11 with (fail)
  have ba := (Below.refl w8.heap.size w8).alloc (Nat.le_refl _) (.cells #[.int .i64 l2.r, .int .i64 l2.n, .slice dax2 l2.dep.length dcx2, .int .i64 l2.actor, .int .i64 l2.kind, .int .i64 l2.to, .int .i64 l2.bucket, .int .i64 l2.mask, .int .i64 l2.gr, .int .i64 l2.gn, .slice uax2 l2.ups.length ucx2] 42)
  have kb := Blk.new w8 #[.int .i64 l2.r, .int .i64 l2.n, .slice dax2 l2.dep.length dcx2, .int .i64 l2.actor, .int .i64 l2.kind, .int .i64 l2.to, .int .i64 l2.bucket, .int .i64 l2.mask, .int .i64 l2.gr, .int .i64 l2.gn, .slice uax2 l2.ups.length ucx2] 42
  obtain ⟨px2, hpx2⟩ : ∃ p, p = w8.heap.size := ⟨_, rfl⟩
  have Nx2_x0 := Lib.hid (show px2 ∉ sx0 from fun h => by have h1 := Ox0_8.out.lt px2 h; omega)
  have Nx2_x2 := Lib.hid (show px2 ∉ sx2 from fun h => by have h1 := Ox2_8.out.lt px2 h; omega)
  have B9 := Lib.hid (B8.out.trans ((ba).mono B8.out.size))
  have E9 := Lib.hid (E8.out.trans ((ba).mono E8.out.size))
  have Ox0_9 := Lib.hid (Ox0_8.out.below (ba))
  have Ox2_9 := Lib.hid (Ox2_8.out.below (ba))
  have KA2_9 := Lib.hid (KA2_8.out.below (ba) KA2_8.out.lt)
  rw [← hpx2] at kb ⊢
  obtain ⟨w9, hw⟩ : ∃ W, W = w8.alloc (.cells #[.int .i64 l2.r, .int .i64 l2.n, .slice dax2 l2.dep.length dcx2, .int .i64 l2.actor, .int .i64 l2.kind, .int .i64 l2.to, .int .i64 l2.bucket, .int .i64 l2.mask, .int .i64 l2.gr, .int .i64 l2.gn, .slice uax2 l2.ups.length ucx2] 42) := ⟨_, rfl⟩
  rw [← hw] at kb ⊢
  simp only [← hw] at B9 E9 Ox0_9 Ox2_9 KA2_9
  have Kx2_9 := Lib.hid kb
  have Gpx2 := Lib.hid (show w6.heap.size ≤ px2 by rw [hpx2]; exact E8.out.size)
  clear Ox0_8 Ox2_8 KA2_8 ba kb hw hpx2
  have cx20 := Kx2_9.out.cell 0
  have cx21 := Kx2_9.out.cell 1
  have cx22 := Kx2_9.out.cell 2
  have cx23 := Kx2_9.out.cell 3
  have cx24 := Kx2_9.out.cell 4
  have cx25 := Kx2_9.out.cell 5
  have cx26 := Kx2_9.out.cell 6
  have cx27 := Kx2_9.out.cell 7
  have cx28 := Kx2_9.out.cell 8
  have cx29 := Kx2_9.out.cell 9
  have cx210 := Kx2_9.out.cell 10
  simp only [List.getElem?_cons_zero, List.getElem?_cons_succ] at cx20 cx21 cx22 cx23 cx24 cx25 cx26 cx27 cx28 cx29 cx210
  go_wp2_with fail
  refine (CI.out _ _ _ Ox0_9.out.acts Ox2_9.out.act SM0.out SM2.out).mono ?_
  rintro e w10 ⟨ug, sg, rfl, og, gg, b10⟩
  have Og_10 := Lib.hid og
  have Dx0_g := Lib.hid (show ∀ b ∈ sx0, b ∉ sg from fun b hb hc => by have h1 := Ox0_9.out.lt b hb; have h2 := gg b hc; omega)
  have Dg_x0 := Lib.hid (show ∀ b ∈ sg, b ∉ sx0 from fun b hc hb => by have h1 := Ox0_9.out.lt b hb; have h2 := gg b hc; omega)
  have Dx2_g := Lib.hid (show ∀ b ∈ sx2, b ∉ sg from fun b hb hc => by have h1 := Ox2_9.out.lt b hb; have h2 := gg b hc; omega)
  have Dg_x2 := Lib.hid (show ∀ b ∈ sg, b ∉ sx2 from fun b hc hb => by have h1 := Ox2_9.out.lt b hb; have h2 := gg b hc; omega)
  have NA2_g := Lib.hid (show pA2 ∉ sg from fun hc => by have h1 := KA2_9.out.lt; have h2 := gg pA2 hc; omega)
  have Nx2_g := Lib.hid (show px2 ∉ sg from fun hc => by have h1 := Kx2_9.out.lt; have h2 := gg px2 hc; omega)
  have Gg := Lib.hid (fun b hb => Nat.le_trans E9.out.size (gg b hb))
  have B10 := Lib.hid (B9.out.trans ((b10).mono B9.out.size))
  have E10 := Lib.hid (E9.out.trans ((b10).mono E9.out.size))
  have Ox0_10 := Lib.hid (Ox0_9.out.below (b10))
  have Ox2_10 := Lib.hid (Ox2_9.out.below (b10))
  have KA2_10 := Lib.hid (KA2_9.out.below (b10) KA2_9.out.lt)
  have Kx2_10 := Lib.hid (Kx2_9.out.below (b10) Kx2_9.out.lt)
  clear Ox0_9 Ox2_9 KA2_9 Kx2_9 b10 gg og
  clear cx20 cx21 cx22 cx23 cx24 cx25 cx26 cx27 cx28 cx29 cx210
  go_wp2_with fail
  refine (eqActS_any _ _ M0 _ Og_10.out.acts (S.out.below E10.out)).mono ?_
  rintro e w11 ⟨rfl, b11⟩
  have B11 := Lib.hid (B10.out.trans ((b11).mono B10.out.size))
  have E11 := Lib.hid (E10.out.trans ((b11).mono E10.out.size))
  have Ox0_11 := Lib.hid (Ox0_10.out.below (b11))
  have Ox2_11 := Lib.hid (Ox2_10.out.below (b11))
  have Og_11 := Lib.hid (Og_10.out.below (b11))
  have KA2_11 := Lib.hid (KA2_10.out.below (b11) KA2_10.out.lt)
  have Kx2_11 := Lib.hid (Kx2_10.out.below (b11) Kx2_10.out.lt)
  clear Ox0_10 Ox2_10 Og_10 KA2_10 Kx2_10 b11
  go_wp2_with fail
  refine (toL_any _ l0 _ (H0.out.below B11.out) SM0.out).mono ?_
  rintro e w12 ⟨uy0, sy0, rfl, oy0, gy0, b12⟩
  have Oy0_12 := Lib.hid oy0
  have Dx0_y0 := Lib.hid (show ∀ b ∈ sx0, b ∉ sy0 from fun b hb hc => by have h1 := Ox0_11.out.lt b hb; have h2 := gy0 b hc; omega)
  have Dy0_x0 := Lib.hid (show ∀ b ∈ sy0, b ∉ sx0 from fun b hc hb => by have h1 := Ox0_11.out.lt b hb; have h2 := gy0 b hc; omega)
  have Dx2_y0 := Lib.hid (show ∀ b ∈ sx2, b ∉ sy0 from fun b hb hc => by have h1 := Ox2_11.out.lt b hb; have h2 := gy0 b hc; omega)
  have Dy0_x2 := Lib.hid (show ∀ b ∈ sy0, b ∉ sx2 from fun b hc hb => by have h1 := Ox2_11.out.lt b hb; have h2 := gy0 b hc; omega)
  have Dg_y0 := Lib.hid (show ∀ b ∈ sg, b ∉ sy0 from fun b hb hc => by have h1 := Og_11.out.lt b hb; have h2 := gy0 b hc; omega)
  have Dy0_g := Lib.hid (show ∀ b ∈ sy0, b ∉ sg from fun b hc hb => by have h1 := Og_11.out.lt b hb; have h2 := gy0 b hc; omega)
  have NA2_y0 := Lib.hid (show pA2 ∉ sy0 from fun hc => by have h1 := KA2_11.out.lt; have h2 := gy0 pA2 hc; omega)
  have Nx2_y0 := Lib.hid (show px2 ∉ sy0 from fun hc => by have h1 := Kx2_11.out.lt; have h2 := gy0 px2 hc; omega)
  have Gy0 := Lib.hid (fun b hb => Nat.le_trans E11.out.size (gy0 b hb))
  have B12 := Lib.hid (B11.out.trans ((b12).mono B11.out.size))
  have E12 := Lib.hid (E11.out.trans ((b12).mono E11.out.size))
  have Ox0_12 := Lib.hid (Ox0_11.out.below (b12))
  have Ox2_12 := Lib.hid (Ox2_11.out.below (b12))
  have Og_12 := Lib.hid (Og_11.out.below (b12))
  have KA2_12 := Lib.hid (KA2_11.out.below (b12) KA2_11.out.lt)
  have Kx2_12 := Lib.hid (Kx2_11.out.below (b12) Kx2_11.out.lt)
  clear Ox0_11 Ox2_11 Og_11 KA2_11 Kx2_11 b12 gy0 oy0
  go_wp2_with fail
  refine (eqActS_any _ _ l0 _ Ox0_12.out.acts Oy0_12.out.acts).mono ?_
  rintro e w13 ⟨rfl, b13⟩
  have B13 := Lib.hid (B12.out.trans ((b13).mono B12.out.size))
  have E13 := Lib.hid (E12.out.trans ((b13).mono E12.out.size))
  have Ox0_13 := Lib.hid (Ox0_12.out.below (b13))
  have Ox2_13 := Lib.hid (Ox2_12.out.below (b13))
  have Og_13 := Lib.hid (Og_12.out.below (b13))
  have Oy0_13 := Lib.hid (Oy0_12.out.below (b13))
  have KA2_13 := Lib.hid (KA2_12.out.below (b13) KA2_12.out.lt)
  have Kx2_13 := Lib.hid (Kx2_12.out.below (b13) Kx2_12.out.lt)
  clear Ox0_12 Ox2_12 Og_12 Oy0_12 KA2_12 Kx2_12 b13
  clear Oy0_13
  go_upto_region 16 with (fail)
  refine wp_region_held_drew (S := fun w' => Below w13.heap.size w13 w') (by kernel_rfl) ((Below.refl w13.heap.size w13).drew) (fun hHeld => ?_)
  have KQx2 := Kx2_13
  have KQA2 := KA2_13
  refine held_take (i := 0) (d := some 63) (v := ?_) rfl (by kernel_rfl) (by kernel_rfl) (by kernel_rfl) (by kernel_rfl) (fun _ _ _ h => h) (by kernel_rfl) ?_ hHeld ?_
  rotate_left
  · intro w' hSw
    have gK := KQx2.out.below hSw KQx2.out.lt
    have g0 := gK.cell 0
    have g1 := gK.cell 1
    have g2 := gK.cell 2
    have g3 := gK.cell 3
    have g4 := gK.cell 4
    have g5 := gK.cell 5
    have g6 := gK.cell 6
    have g7 := gK.cell 7
    have g8 := gK.cell 8
    have g9 := gK.cell 9
    have g10 := gK.cell 10
    simp only [List.getElem?_cons_zero, List.getElem?_cons_succ] at g0 g1 g2 g3 g4 g5 g6 g7 g8 g9 g10
    go_simp
    first | done | with_reducible rfl
  simp only [Act.put, List.setIfInBounds_toArray, List.set_cons_zero, List.set_cons_succ]
  refine held_take (i := 1) (d := some 64) (v := ?_) rfl (by kernel_rfl) (by kernel_rfl) (by kernel_rfl) (by kernel_rfl) (fun _ _ _ h => h) (by kernel_rfl) ?_ hHeld ?_
  rotate_left
  · intro w' hSw
    have gK := KQA2.out.below hSw KQA2.out.lt
    have g0 := gK.cell 0
    have g1 := gK.cell 1
    have g2 := gK.cell 2
    have g3 := gK.cell 3
    have g4 := gK.cell 4
    have g5 := gK.cell 5
    have g6 := gK.cell 6
    have g7 := gK.cell 7
    have g8 := gK.cell 8
    have g9 := gK.cell 9
    have g10 := gK.cell 10
    simp only [List.getElem?_cons_zero, List.getElem?_cons_succ] at g0 g1 g2 g3 g4 g5 g6 g7 g8 g9 g10
    go_simp
    first | done | with_reducible rfl
  simp only [Act.put, List.setIfInBounds_toArray, List.set_cons_zero, List.set_cons_succ]
  refine wpAnyH_ready (rs := [2]) (by kernel_rfl) (by simp) ?_
  refine AllReadyH.cons rfl (fun K hK => ?_) AllReadyH.nil
  go_simp
  refine (toA_any _ l2 _ ((H2.out.below B13.out).below hHeld) SM2.out.1 SM2.out.2).mono ?_
  rintro e w14 ⟨uy2, sy2, rfl, oy2, gy2, b14⟩
  have gy2 : ∀ b ∈ sy2, w13.heap.size ≤ b := fun b hb => Nat.le_trans hHeld.size (gy2 b hb)
  have bD14 := hHeld.trans (b14.mono hHeld.size)
  obtain ⟨day2, dcy2, uay2, ucy2, hvy2⟩ := oy2.shape
  subst hvy2
  have Oy2_14 := Lib.hid oy2
  have Dx0_y2 := Lib.hid (show ∀ b ∈ sx0, b ∉ sy2 from fun b hb hc => by have h1 := Ox0_13.out.lt b hb; have h2 := gy2 b hc; omega)
  have Dy2_x0 := Lib.hid (show ∀ b ∈ sy2, b ∉ sx0 from fun b hc hb => by have h1 := Ox0_13.out.lt b hb; have h2 := gy2 b hc; omega)
  have Dx2_y2 := Lib.hid (show ∀ b ∈ sx2, b ∉ sy2 from fun b hb hc => by have h1 := Ox2_13.out.lt b hb; have h2 := gy2 b hc; omega)
  have Dy2_x2 := Lib.hid (show ∀ b ∈ sy2, b ∉ sx2 from fun b hc hb => by have h1 := Ox2_13.out.lt b hb; have h2 := gy2 b hc; omega)
  have Dg_y2 := Lib.hid (show ∀ b ∈ sg, b ∉ sy2 from fun b hb hc => by have h1 := Og_13.out.lt b hb; have h2 := gy2 b hc; omega)
  have Dy2_g := Lib.hid (show ∀ b ∈ sy2, b ∉ sg from fun b hc hb => by have h1 := Og_13.out.lt b hb; have h2 := gy2 b hc; omega)
  have NA2_y2 := Lib.hid (show pA2 ∉ sy2 from fun hc => by have h1 := KA2_13.out.lt; have h2 := gy2 pA2 hc; omega)
  have Nx2_y2 := Lib.hid (show px2 ∉ sy2 from fun hc => by have h1 := Kx2_13.out.lt; have h2 := gy2 px2 hc; omega)
  have Gy2 := Lib.hid (fun b hb => Nat.le_trans E13.out.size (gy2 b hb))
  have B14 := Lib.hid (B13.out.trans ((bD14).mono B13.out.size))
  have E14 := Lib.hid (E13.out.trans ((bD14).mono E13.out.size))
  have Ox0_14 := Lib.hid (Ox0_13.out.below (bD14))
  have Ox2_14 := Lib.hid (Ox2_13.out.below (bD14))
  have Og_14 := Lib.hid (Og_13.out.below (bD14))
  have KA2_14 := Lib.hid (KA2_13.out.below (bD14) KA2_13.out.lt)
  have Kx2_14 := Lib.hid (Kx2_13.out.below (bD14) Kx2_13.out.lt)
  clear Ox0_13 Ox2_13 Og_13 KA2_13 Kx2_13 b14 gy2 oy2
  refine hK.out _ _ (bD14) (fun hHeld => ?_)
  clear hK K
  try simp only [Act.put, List.setIfInBounds_toArray, List.set_cons_zero, List.set_cons_succ]
  refine wpAnyH_ready (rs := [3]) (by kernel_rfl) (by simp) ?_
  refine AllReadyH.cons rfl (fun K hK => ?_) AllReadyH.nil
  go_simp
  refine (eqA_any _ _ l2 _ Ox2_14.out.act Oy2_14.out.act).mono ?_
  rintro e w15 ⟨rfl, b15⟩
  have hHeld2 := hHeld.trans (b15.mono hHeld.size)
  have B15 := Lib.hid (B14.out.trans ((b15).mono B14.out.size))
  have E15 := Lib.hid (E14.out.trans ((b15).mono E14.out.size))
  have Ox0_15 := Lib.hid (Ox0_14.out.below (b15))
  have Ox2_15 := Lib.hid (Ox2_14.out.below (b15))
  have Og_15 := Lib.hid (Og_14.out.below (b15))
  have Oy2_15 := Lib.hid (Oy2_14.out.below (b15))
  have KA2_15 := Lib.hid (KA2_14.out.below (b15) KA2_14.out.lt)
  have Kx2_15 := Lib.hid (Kx2_14.out.below (b15) Kx2_14.out.lt)
  clear Ox0_14 Ox2_14 Og_14 Oy2_14 KA2_14 Kx2_14 b15
  clear Oy2_15
  refine hK.out _ _ (hHeld2) (fun hHeld => ?_)
  clear hK K
  try simp only [Act.put, List.setIfInBounds_toArray, List.set_cons_zero, List.set_cons_succ]
  refine held_take (i := 4) (d := some 67) (v := ?_) rfl (by kernel_rfl) (by kernel_rfl) (by kernel_rfl) (by kernel_rfl) (fun _ _ _ h => h) (by kernel_rfl) ?_ hHeld ?_
  rotate_left
  · intro w' hSw
    go_simp
    first | done | with_reducible rfl
  simp only [Act.put, List.setIfInBounds_toArray, List.set_cons_zero, List.set_cons_succ]
  refine wpAnyH_done (by kernel_rfl) ?_ _
  clear KQx2
  clear KQA2
  go_wp2_with fail
  refine (markLZ Ox0_15.out HZ0.out 1 (by omega) (by omega)).mono ?_
  rintro e w16 ⟨rfl, o16, g16⟩
  have Ox0_16 := Lib.hid o16
  have Ox2_16 := Lib.hid (Ox2_15.out.other g16 Dx2_x0.out)
  have Og_16 := Lib.hid (Og_15.out.other g16 Dg_x0.out)
  have KA2_16 := Lib.hid (KA2_15.out.on g16 NA2_x0.out)
  have Kx2_16 := Lib.hid (Kx2_15.out.on g16 Nx2_x0.out)
  have bE := g16.below Gx0.out E15.out.size
  have E16 := Lib.hid (E15.out.trans bE)
  have B16 := Lib.hid (B6.out.trans (E16.out.mono B6.out.size))
  clear Ox0_15 Ox2_15 Og_15 KA2_15 Kx2_15 bE o16 g16
  have cx20 := Kx2_16.out.cell 0
  have cx21 := Kx2_16.out.cell 1
  have cx22 := Kx2_16.out.cell 2
  have cx23 := Kx2_16.out.cell 3
  have cx24 := Kx2_16.out.cell 4
  have cx25 := Kx2_16.out.cell 5
  have cx26 := Kx2_16.out.cell 6
  have cx27 := Kx2_16.out.cell 7
  have cx28 := Kx2_16.out.cell 8
  have cx29 := Kx2_16.out.cell 9
  have cx210 := Kx2_16.out.cell 10
  simp only [List.getElem?_cons_zero, List.getElem?_cons_succ] at cx20 cx21 cx22 cx23 cx24 cx25 cx26 cx27 cx28 cx29 cx210
  go_wp2_with fail
  refine (markAZ Ox2_16.out HZ2.out (1 + (Z0 : Int)) (by omega) (by omega)).mono ?_
  rintro e w17 ⟨rfl, g17⟩
  have Ox0_17 := Lib.hid (Ox0_16.out.other g17 Dx0_x2.out)
  have Og_17 := Lib.hid (Og_16.out.other g17 Dg_x2.out)
  have KA2_17 := Lib.hid (KA2_16.out.on g17 NA2_x2.out)
  have Kx2_17 := Lib.hid (Kx2_16.out.on g17 Nx2_x2.out)
  have bE := g17.below Gx2.out E16.out.size
  have E17 := Lib.hid (E16.out.trans bE)
  have B17 := Lib.hid (B6.out.trans (E17.out.mono B6.out.size))
  clear Ox0_16 Ox2_16 Og_16 KA2_16 Kx2_16 bE g17
  clear cx20 cx21 cx22 cx23 cx24 cx25 cx26 cx27 cx28 cx29 cx210
  have kk7 : decide (((1 + (Z0 : Int)) + (Z2 : Int)) < 0) = false := by simp; omega
  go_wp2_with fail
  refine (eqActS_any _ _ M0 _ Og_17.out.acts (S.out.below E17.out)).mono ?_
  rintro e w18 ⟨rfl, b18⟩
  have B18 := Lib.hid (B17.out.trans ((b18).mono B17.out.size))
  have E18 := Lib.hid (E17.out.trans ((b18).mono E17.out.size))
  have Ox0_18 := Lib.hid (Ox0_17.out.below (b18))
  have Og_18 := Lib.hid (Og_17.out.below (b18))
  have KA2_18 := Lib.hid (KA2_17.out.below (b18) KA2_17.out.lt)
  have Kx2_18 := Lib.hid (Kx2_17.out.below (b18) Kx2_17.out.lt)
  clear Ox0_17 Og_17 KA2_17 Kx2_17 b18
  go_wp2_with fail
  refine (markLZ Og_18.out HY0.out 1 (by omega) (by omega)).mono ?_
  rintro e w19 ⟨rfl, o19, g19⟩
  have Og_19 := Lib.hid o19
  have Ox0_19 := Lib.hid (Ox0_18.out.other g19 Dx0_g.out)
  have KA2_19 := Lib.hid (KA2_18.out.on g19 NA2_g.out)
  have Kx2_19 := Lib.hid (Kx2_18.out.on g19 Nx2_g.out)
  have bE := g19.below Gg.out E18.out.size
  have E19 := Lib.hid (E18.out.trans bE)
  have B19 := Lib.hid (B6.out.trans (E19.out.mono B6.out.size))
  clear Ox0_18 Og_18 KA2_18 Kx2_18 bE o19 g19
  go_wp2_with fail
  refine (heldLZ Og_19.out HY0.out (by omega) (by omega)).mono ?_
  rintro e wq ⟨rfl, hq⟩
  subst wq
  skip
  have kk8 : decide ((1 + (Y0 : Int)) < 0) = false := by simp; omega
  have kq9 : ((1 + (Y0 : Int)) == (1 + (Y0 : Int))) = true := by simp
  have kp9 : ((1 + (Y0 : Int)) != (1 + (Y0 : Int))) = false := by simp
  go_upto_region 31 with (fail)
  refine wp_region_held_drew (S := fun w' => Below w19.heap.size w19 w') (by kernel_rfl) ((Below.refl w19.heap.size w19).drew) (fun hHeld => ?_)
  have KQA2 := KA2_19
  refine held_take (i := 0) (d := some 99) (v := ?_) rfl (by kernel_rfl) (by kernel_rfl) (by kernel_rfl) (by kernel_rfl) (fun _ _ _ h => h) (by kernel_rfl) ?_ hHeld ?_
  rotate_left
  · intro w' hSw
    go_simp
    first | done | with_reducible rfl
  simp only [Act.put, List.setIfInBounds_toArray, List.set_cons_zero, List.set_cons_succ]
  refine held_take (i := 2) (d := some 101) (v := ?_) rfl (by kernel_rfl) (by kernel_rfl) (by kernel_rfl) (by kernel_rfl) (fun _ _ _ h => h) (by kernel_rfl) ?_ hHeld ?_
  rotate_left
  · intro w' hSw
    go_simp
    first | done | with_reducible rfl
  simp only [Act.put, List.setIfInBounds_toArray, List.set_cons_zero, List.set_cons_succ]
  refine held_take (i := 3) (d := some 102) (v := ?_) rfl (by kernel_rfl) (by kernel_rfl) (by kernel_rfl) (by kernel_rfl) (fun _ _ _ h => h) (by kernel_rfl) ?_ hHeld ?_
  rotate_left
  · intro w' hSw
    have gK := KQA2.out.below hSw KQA2.out.lt
    have g0 := gK.cell 0
    have g1 := gK.cell 1
    have g2 := gK.cell 2
    have g3 := gK.cell 3
    have g4 := gK.cell 4
    have g5 := gK.cell 5
    have g6 := gK.cell 6
    have g7 := gK.cell 7
    have g8 := gK.cell 8
    have g9 := gK.cell 9
    have g10 := gK.cell 10
    simp only [List.getElem?_cons_zero, List.getElem?_cons_succ] at g0 g1 g2 g3 g4 g5 g6 g7 g8 g9 g10
    go_simp
    first | done | with_reducible rfl
  simp only [Act.put, List.setIfInBounds_toArray, List.set_cons_zero, List.set_cons_succ]
  refine wpAnyH_ready (rs := [1]) (by kernel_rfl) (by simp) ?_
  refine AllReadyH.cons rfl (fun K hK => ?_) AllReadyH.nil
  go_simp
  refine (toL_any _ l0 _ ((H0.out.below B19.out).below hHeld) SM0.out).mono ?_
  rintro e w20 ⟨uz0, sz0, rfl, oz0, gz0, b20⟩
  have gz0 : ∀ b ∈ sz0, w19.heap.size ≤ b := fun b hb => Nat.le_trans hHeld.size (gz0 b hb)
  have bD20 := hHeld.trans (b20.mono hHeld.size)
  have Oz0_20 := Lib.hid oz0
  have Dx0_z0 := Lib.hid (show ∀ b ∈ sx0, b ∉ sz0 from fun b hb hc => by have h1 := Ox0_19.out.lt b hb; have h2 := gz0 b hc; omega)
  have Dz0_x0 := Lib.hid (show ∀ b ∈ sz0, b ∉ sx0 from fun b hc hb => by have h1 := Ox0_19.out.lt b hb; have h2 := gz0 b hc; omega)
  have Dg_z0 := Lib.hid (show ∀ b ∈ sg, b ∉ sz0 from fun b hb hc => by have h1 := Og_19.out.lt b hb; have h2 := gz0 b hc; omega)
  have Dz0_g := Lib.hid (show ∀ b ∈ sz0, b ∉ sg from fun b hc hb => by have h1 := Og_19.out.lt b hb; have h2 := gz0 b hc; omega)
  have NA2_z0 := Lib.hid (show pA2 ∉ sz0 from fun hc => by have h1 := KA2_19.out.lt; have h2 := gz0 pA2 hc; omega)
  have Nx2_z0 := Lib.hid (show px2 ∉ sz0 from fun hc => by have h1 := Kx2_19.out.lt; have h2 := gz0 px2 hc; omega)
  have Gz0 := Lib.hid (fun b hb => Nat.le_trans E19.out.size (gz0 b hb))
  have B20 := Lib.hid (B19.out.trans ((bD20).mono B19.out.size))
  have E20 := Lib.hid (E19.out.trans ((bD20).mono E19.out.size))
  have Ox0_20 := Lib.hid (Ox0_19.out.below (bD20))
  have Og_20 := Lib.hid (Og_19.out.below (bD20))
  have KA2_20 := Lib.hid (KA2_19.out.below (bD20) KA2_19.out.lt)
  have Kx2_20 := Lib.hid (Kx2_19.out.below (bD20) Kx2_19.out.lt)
  clear Ox0_19 Og_19 KA2_19 Kx2_19 b20 gz0 oz0
  refine hK.out _ _ (bD20) (fun hHeld => ?_)
  clear hK K
  try simp only [Act.put, List.setIfInBounds_toArray, List.set_cons_zero, List.set_cons_succ]
  refine wpAnyH_ready (rs := [4]) (by kernel_rfl) (by simp) ?_
  refine AllReadyH.cons rfl (fun K hK => ?_) AllReadyH.nil
  go_simp
  refine (toA_any _ l2 _ (H2.out.below B20.out) SM2.out.1 SM2.out.2).mono ?_
  rintro e w21 ⟨uz2, sz2, rfl, oz2, gz2, b21⟩
  have hHeld2 := hHeld.trans (b21.mono hHeld.size)
  obtain ⟨daz2, dcz2, uaz2, ucz2, hvz2⟩ := oz2.shape
  subst hvz2
  have Oz2_21 := Lib.hid oz2
  have Dx0_z2 := Lib.hid (show ∀ b ∈ sx0, b ∉ sz2 from fun b hb hc => by have h1 := Ox0_20.out.lt b hb; have h2 := gz2 b hc; omega)
  have Dz2_x0 := Lib.hid (show ∀ b ∈ sz2, b ∉ sx0 from fun b hc hb => by have h1 := Ox0_20.out.lt b hb; have h2 := gz2 b hc; omega)
  have Dg_z2 := Lib.hid (show ∀ b ∈ sg, b ∉ sz2 from fun b hb hc => by have h1 := Og_20.out.lt b hb; have h2 := gz2 b hc; omega)
  have Dz2_g := Lib.hid (show ∀ b ∈ sz2, b ∉ sg from fun b hc hb => by have h1 := Og_20.out.lt b hb; have h2 := gz2 b hc; omega)
  have Dz0_z2 := Lib.hid (show ∀ b ∈ sz0, b ∉ sz2 from fun b hb hc => by have h1 := Oz0_20.out.lt b hb; have h2 := gz2 b hc; omega)
  have Dz2_z0 := Lib.hid (show ∀ b ∈ sz2, b ∉ sz0 from fun b hc hb => by have h1 := Oz0_20.out.lt b hb; have h2 := gz2 b hc; omega)
  have NA2_z2 := Lib.hid (show pA2 ∉ sz2 from fun hc => by have h1 := KA2_20.out.lt; have h2 := gz2 pA2 hc; omega)
  have Nx2_z2 := Lib.hid (show px2 ∉ sz2 from fun hc => by have h1 := Kx2_20.out.lt; have h2 := gz2 px2 hc; omega)
  have Gz2 := Lib.hid (fun b hb => Nat.le_trans E20.out.size (gz2 b hb))
  have B21 := Lib.hid (B20.out.trans ((b21).mono B20.out.size))
  have E21 := Lib.hid (E20.out.trans ((b21).mono E20.out.size))
  have Ox0_21 := Lib.hid (Ox0_20.out.below (b21))
  have Og_21 := Lib.hid (Og_20.out.below (b21))
  have Oz0_21 := Lib.hid (Oz0_20.out.below (b21))
  have KA2_21 := Lib.hid (KA2_20.out.below (b21) KA2_20.out.lt)
  have Kx2_21 := Lib.hid (Kx2_20.out.below (b21) Kx2_20.out.lt)
  clear Ox0_20 Og_20 Oz0_20 KA2_20 Kx2_20 b21 gz2 oz2
  refine hK.out _ _ (hHeld2) (fun hHeld => ?_)
  clear hK K
  try simp only [Act.put, List.setIfInBounds_toArray, List.set_cons_zero, List.set_cons_succ]
  refine wpAnyH_ready (rs := [5]) (by kernel_rfl) (by simp) ?_
  refine AllReadyH.cons rfl (fun K hK => ?_) AllReadyH.nil
  go_simp
  refine (CI.out _ _ _ Oz0_21.out.acts Oz2_21.out.act SM0.out SM2.out).mono ?_
  rintro e w22 ⟨uh, sh, rfl, oh, gh, b22⟩
  have hHeld2 := hHeld.trans (b22.mono hHeld.size)
  have Oh_22 := Lib.hid oh
  have Dx0_h := Lib.hid (show ∀ b ∈ sx0, b ∉ sh from fun b hb hc => by have h1 := Ox0_21.out.lt b hb; have h2 := gh b hc; omega)
  have Dh_x0 := Lib.hid (show ∀ b ∈ sh, b ∉ sx0 from fun b hc hb => by have h1 := Ox0_21.out.lt b hb; have h2 := gh b hc; omega)
  have Dg_h := Lib.hid (show ∀ b ∈ sg, b ∉ sh from fun b hb hc => by have h1 := Og_21.out.lt b hb; have h2 := gh b hc; omega)
  have Dh_g := Lib.hid (show ∀ b ∈ sh, b ∉ sg from fun b hc hb => by have h1 := Og_21.out.lt b hb; have h2 := gh b hc; omega)
  have Dz0_h := Lib.hid (show ∀ b ∈ sz0, b ∉ sh from fun b hb hc => by have h1 := Oz0_21.out.lt b hb; have h2 := gh b hc; omega)
  have Dh_z0 := Lib.hid (show ∀ b ∈ sh, b ∉ sz0 from fun b hc hb => by have h1 := Oz0_21.out.lt b hb; have h2 := gh b hc; omega)
  have Dz2_h := Lib.hid (show ∀ b ∈ sz2, b ∉ sh from fun b hb hc => by have h1 := Oz2_21.out.lt b hb; have h2 := gh b hc; omega)
  have Dh_z2 := Lib.hid (show ∀ b ∈ sh, b ∉ sz2 from fun b hc hb => by have h1 := Oz2_21.out.lt b hb; have h2 := gh b hc; omega)
  have NA2_h := Lib.hid (show pA2 ∉ sh from fun hc => by have h1 := KA2_21.out.lt; have h2 := gh pA2 hc; omega)
  have Nx2_h := Lib.hid (show px2 ∉ sh from fun hc => by have h1 := Kx2_21.out.lt; have h2 := gh px2 hc; omega)
  have Gh := Lib.hid (fun b hb => Nat.le_trans E21.out.size (gh b hb))
  have B22 := Lib.hid (B21.out.trans ((b22).mono B21.out.size))
  have E22 := Lib.hid (E21.out.trans ((b22).mono E21.out.size))
  have Ox0_22 := Lib.hid (Ox0_21.out.below (b22))
  have Og_22 := Lib.hid (Og_21.out.below (b22))
  have Oz0_22 := Lib.hid (Oz0_21.out.below (b22))
  have Oz2_22 := Lib.hid (Oz2_21.out.below (b22))
  have KA2_22 := Lib.hid (KA2_21.out.below (b22) KA2_21.out.lt)
  have Kx2_22 := Lib.hid (Kx2_21.out.below (b22) Kx2_21.out.lt)
  clear Ox0_21 Og_21 Oz0_21 Oz2_21 KA2_21 Kx2_21 b22 gh oh
  clear Oz0_22
  clear Oz2_22
  refine hK.out _ _ (hHeld2) (fun hHeld => ?_)
  clear hK K
  try simp only [Act.put, List.setIfInBounds_toArray, List.set_cons_zero, List.set_cons_succ]
  refine held_take (i := 6) (d := some 98) (v := ?_) rfl (by kernel_rfl) (by kernel_rfl) (by kernel_rfl) (by kernel_rfl) (fun _ _ _ h => h) (by kernel_rfl) ?_ hHeld ?_
  rotate_left
  · intro w' hSw
    go_simp
    first | done | with_reducible rfl
  simp only [Act.put, List.setIfInBounds_toArray, List.set_cons_zero, List.set_cons_succ]
  refine held_take (i := 7) (d := some 105) (v := ?_) rfl (by kernel_rfl) (by kernel_rfl) (by kernel_rfl) (by kernel_rfl) (fun _ _ _ h => h) (by kernel_rfl) ?_ hHeld ?_
  rotate_left
  · intro w' hSw
    go_simp
    first | done | with_reducible rfl
  simp only [Act.put, List.setIfInBounds_toArray, List.set_cons_zero, List.set_cons_succ]
  refine held_take (i := 8) (d := some 106) (v := ?_) rfl (by kernel_rfl) (by kernel_rfl) (by kernel_rfl) (by kernel_rfl) (fun _ _ _ h => h) (by kernel_rfl) ?_ hHeld ?_
  rotate_left
  · intro w' hSw
    go_simp
    first | done | with_reducible rfl
  simp only [Act.put, List.setIfInBounds_toArray, List.set_cons_zero, List.set_cons_succ]
  refine held_take (i := 9) (d := some 17) (v := ?_) rfl (by kernel_rfl) (by kernel_rfl) (by kernel_rfl) (by kernel_rfl) (fun _ _ _ h => h) (by kernel_rfl) ?_ hHeld ?_
  rotate_left
  · intro w' hSw
    go_simp
    first | done | with_reducible rfl
  simp only [Act.put, List.setIfInBounds_toArray, List.set_cons_zero, List.set_cons_succ]
  refine held_take (i := 10) (d := some 18) (v := ?_) rfl (by kernel_rfl) (by kernel_rfl) (by kernel_rfl) (by kernel_rfl) (fun _ _ _ h => h) (by kernel_rfl) ?_ hHeld ?_
  rotate_left
  · intro w' hSw
    go_simp
    first | done | with_reducible rfl
  simp only [Act.put, List.setIfInBounds_toArray, List.set_cons_zero, List.set_cons_succ]
  refine wpAnyH_done (by kernel_rfl) ?_ _
  clear KQA2
  go_wp2_with fail
  refine (eqActS_any _ _ M0 _ Oh_22.out.acts (S.out.below E22.out)).mono ?_
  rintro e w23 ⟨rfl, b23⟩
  have B23 := Lib.hid (B22.out.trans ((b23).mono B22.out.size))
  have E23 := Lib.hid (E22.out.trans ((b23).mono E22.out.size))
  have Ox0_23 := Lib.hid (Ox0_22.out.below (b23))
  have Og_23 := Lib.hid (Og_22.out.below (b23))
  have Oh_23 := Lib.hid (Oh_22.out.below (b23))
  have KA2_23 := Lib.hid (KA2_22.out.below (b23) KA2_22.out.lt)
  have Kx2_23 := Lib.hid (Kx2_22.out.below (b23) Kx2_22.out.lt)
  clear Ox0_22 Og_22 Oh_22 KA2_22 Kx2_22 b23
  go_wp2_with fail
  refine (heldLZ Og_23.out HY0.out (by omega) (by omega)).mono ?_
  rintro e wq ⟨rfl, hq⟩
  subst wq
  skip
  have kk12 : decide ((1 + (Y0 : Int)) < 0) = false := by simp; omega
  have kq13 : ((1 + (Y0 : Int)) == (1 + (Y0 : Int))) = true := by simp
  have kp13 : ((1 + (Y0 : Int)) != (1 + (Y0 : Int))) = false := by simp
  go_wp2_with fail
  go_ret
  exact ⟨rfl, B23.out⟩
end Go.Proofs.Ytjmefifdofgncaa
