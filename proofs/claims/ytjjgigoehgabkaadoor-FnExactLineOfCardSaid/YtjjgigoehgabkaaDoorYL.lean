/- The law FnExactLineOf. -/
import Derived.Test.YtjjgigoehgabkaaDoorYK
import Derived.Test.YtjjgigoehgabkaaDoorHG
import Derived.Test.YtjjgigoehgabkaaDoorNE
import Derived.Test.YtjjgigoehgabkaaDoorKA
import Derived.Test.YtjjgigoehgabkaaDoorTA
import Derived.Deep.DeepCutAuto






namespace Go.Proofs.YtjjgigoehgabkaaDoor
open Go.RowKit
set_option linter.unusedVariables false
set_option linter.unusedSimpArgs false

set_option maxRecDepth 100000 in
set_option maxHeartbeats 12800000 in
theorem law_lineOf (v0 : Value) (l0 : ActM) (w0 : World) (h0 : ActIs w0 v0 l0) (hB0 : ActB l0) (hTab : Tab w0) :
    Calls Tryd.prog 4 #[v0] w0 fun e w' => e = .returned (.bool true) ∧ Below w0.heap.size w0 w' := by
  have H0 := Lib.hid h0
  have HTAB := Lib.hid hTab
  obtain ⟨M0, hM0⟩ : ∃ M, M = (⟨(lineL l0).toArray⟩ : ByteArray) := ⟨_, rfl⟩
  have CS := Lib.hid (fun W u0 (h0 : ActIs W u0 l0) (s0 : l0.Small) => specLineOf2 u0 l0 W h0 s0 hB0)
  have CI := Lib.hid (fun W u0 (h0 : ActIs W u0 l0) (s0 : l0.Small) (hT : Tab W) => implLineOf2 u0 l0 W h0 s0 hB0 hT)
  simp only [← hM0] at CS CI
  clear hM0 h0
  obtain ⟨da0, dc0, ua0, uc0, hv0⟩ := act_shape H0.out
  subst hv0
  have B0 := Lib.hid (Below.refl w0.heap.size w0)
  go_enter Tryd.func4, Tryd.ntmps4
  go_upto_region 1 with (fail)
  have ba := (Below.refl w0.heap.size w0).alloc (Nat.le_refl _) (.cells #[.int .i64 l0.r, .int .i64 l0.n, .slice da0 l0.dep.length dc0, .int .i64 l0.actor, .int .i64 l0.kind, .int .i64 l0.to, .int .i64 l0.bucket, .int .i64 l0.mask, .int .i64 l0.gr, .int .i64 l0.gn, .slice ua0 l0.ups.length uc0] 25)
  have kb := Blk.new w0 #[.int .i64 l0.r, .int .i64 l0.n, .slice da0 l0.dep.length dc0, .int .i64 l0.actor, .int .i64 l0.kind, .int .i64 l0.to, .int .i64 l0.bucket, .int .i64 l0.mask, .int .i64 l0.gr, .int .i64 l0.gn, .slice ua0 l0.ups.length uc0] 25
  obtain ⟨pA0, hpA⟩ : ∃ p, p = w0.heap.size := ⟨_, rfl⟩
  have B1 := Lib.hid (B0.out.trans ((ba).mono B0.out.size))
  rw [← hpA] at kb ⊢
  obtain ⟨w1, hw⟩ : ∃ W, W = w0.alloc (.cells #[.int .i64 l0.r, .int .i64 l0.n, .slice da0 l0.dep.length dc0, .int .i64 l0.actor, .int .i64 l0.kind, .int .i64 l0.to, .int .i64 l0.bucket, .int .i64 l0.mask, .int .i64 l0.gr, .int .i64 l0.gn, .slice ua0 l0.ups.length uc0] 25) := ⟨_, rfl⟩
  rw [← hw] at kb ⊢
  simp only [← hw] at B1
  have KA0_1 := Lib.hid kb
  clear ba kb hw hpA
  have cA00 := KA0_1.out.cell 0
  have cA01 := KA0_1.out.cell 1
  have cA02 := KA0_1.out.cell 2
  have cA03 := KA0_1.out.cell 3
  have cA04 := KA0_1.out.cell 4
  have cA05 := KA0_1.out.cell 5
  have cA06 := KA0_1.out.cell 6
  have cA07 := KA0_1.out.cell 7
  have cA08 := KA0_1.out.cell 8
  have cA09 := KA0_1.out.cell 9
  have cA010 := KA0_1.out.cell 10
  simp only [List.getElem?_cons_zero, List.getElem?_cons_succ] at cA00 cA01 cA02 cA03 cA04 cA05 cA06 cA07 cA08 cA09 cA010
  go_wp2_with fail
  refine (szAct_any _ l0 1048576 _ (H0.out.below B1.out) (by omega) (by omega)).mono ?_
  rintro e w2 ⟨rfl, b2⟩
  have B2 := Lib.hid (B1.out.trans ((b2).mono B1.out.size))
  have KA0_2 := Lib.hid (KA0_1.out.below (b2) KA0_1.out.lt)
  clear KA0_1 b2
  generalize hq0 : szM l0.dep.length l0.ups.length 1048576 = r0
  have RS0 := Lib.hid hq0
  clear hq0
  by_cases hr0 : r0 < 0
  · go_wp2_with fail
    go_ret
    exact ⟨rfl, B2.out⟩
  have SQ0 := Lib.hid (szM_ok (by rw [RS0.out]; exact hr0))
  have hw0 : r0 ≤ 1048576 := by have h1 := SQ0.out; have h2 := RS0.out; omega
  have hz0 : szD l0 ≤ 5242880 := by have h1 := SQ0.out; simp only [szD]; omega
  have SM0 := Lib.hid (show ActM.Small l0 from ⟨by have h1 := SQ0.out; omega, by have h1 := SQ0.out; omega⟩)
  obtain ⟨Z0, hZ0⟩ : ∃ Z, szD l0 = Z := ⟨_, rfl⟩
  rw [hZ0] at hz0
  have HZ0 := Lib.hid hZ0
  clear hZ0
  clear cA00 cA01 cA02 cA03 cA04 cA05 cA06 cA07 cA08 cA09 cA010
  have cA00 := KA0_2.out.cell 0
  have cA01 := KA0_2.out.cell 1
  have cA02 := KA0_2.out.cell 2
  have cA03 := KA0_2.out.cell 3
  have cA04 := KA0_2.out.cell 4
  have cA05 := KA0_2.out.cell 5
  have cA06 := KA0_2.out.cell 6
  have cA07 := KA0_2.out.cell 7
  have cA08 := KA0_2.out.cell 8
  have cA09 := KA0_2.out.cell 9
  have cA010 := KA0_2.out.cell 10
  simp only [List.getElem?_cons_zero, List.getElem?_cons_succ] at cA00 cA01 cA02 cA03 cA04 cA05 cA06 cA07 cA08 cA09 cA010
  go_wp2_with fail
  refine (toA_any _ l0 _ (H0.out.below B2.out) SM0.out.1 SM0.out.2).mono ?_
  rintro e w3 ⟨us0, ss0, rfl, os0, gs0, b3⟩
  obtain ⟨das0, dcs0, uas0, ucs0, hvs0⟩ := os0.shape
  subst hvs0
  have Os0_3 := Lib.hid os0
  have NA0_s0 := Lib.hid (show pA0 ∉ ss0 from fun hc => by have h1 := KA0_2.out.lt; have h2 := gs0 pA0 hc; omega)
  have B3 := Lib.hid (B2.out.trans ((b3).mono B2.out.size))
  have KA0_3 := Lib.hid (KA0_2.out.below (b3) KA0_2.out.lt)
  clear KA0_2 b3 gs0 os0
  clear cA00 cA01 cA02 cA03 cA04 cA05 cA06 cA07 cA08 cA09 cA010
  go_wp2_with fail
  refine (CS.out _ _ Os0_3.out.act SM0.out).mono ?_
  rintro e w4 ⟨rfl, b4⟩
  have B4 := Lib.hid (B3.out.trans ((b4).mono B3.out.size))
  have KA0_4 := Lib.hid (KA0_3.out.below (b4) KA0_3.out.lt)
  clear Os0_3 KA0_3 b4
  have E4 := Lib.hid (Below.refl w4.heap.size w4)
  have cA00 := KA0_4.out.cell 0
  have cA01 := KA0_4.out.cell 1
  have cA02 := KA0_4.out.cell 2
  have cA03 := KA0_4.out.cell 3
  have cA04 := KA0_4.out.cell 4
  have cA05 := KA0_4.out.cell 5
  have cA06 := KA0_4.out.cell 6
  have cA07 := KA0_4.out.cell 7
  have cA08 := KA0_4.out.cell 8
  have cA09 := KA0_4.out.cell 9
  have cA010 := KA0_4.out.cell 10
  simp only [List.getElem?_cons_zero, List.getElem?_cons_succ] at cA00 cA01 cA02 cA03 cA04 cA05 cA06 cA07 cA08 cA09 cA010
  go_wp2_with fail
  refine (toA_any _ l0 _ (H0.out.below B4.out) SM0.out.1 SM0.out.2).mono ?_
  rintro e w5 ⟨ux0, sx0, rfl, ox0, gx0, b5⟩
  obtain ⟨dax0, dcx0, uax0, ucx0, hvx0⟩ := ox0.shape
  subst hvx0
  have Ox0_5 := Lib.hid ox0
  have NA0_x0 := Lib.hid (show pA0 ∉ sx0 from fun hc => by have h1 := KA0_4.out.lt; have h2 := gx0 pA0 hc; omega)
  have Gx0 := Lib.hid (fun b hb => Nat.le_trans E4.out.size (gx0 b hb))
  have B5 := Lib.hid (B4.out.trans ((b5).mono B4.out.size))
  have E5 := Lib.hid (E4.out.trans ((b5).mono E4.out.size))
  have KA0_5 := Lib.hid (KA0_4.out.below (b5) KA0_4.out.lt)
  clear KA0_4 b5 gx0 ox0
  clear cA00 cA01 cA02 cA03 cA04 cA05 cA06 cA07 cA08 cA09 cA010
  go_upto_region 7 with (fail)
  have ba := (Below.refl w5.heap.size w5).alloc (Nat.le_refl _) (.cells #[.int .i64 l0.r, .int .i64 l0.n, .slice dax0 l0.dep.length dcx0, .int .i64 l0.actor, .int .i64 l0.kind, .int .i64 l0.to, .int .i64 l0.bucket, .int .i64 l0.mask, .int .i64 l0.gr, .int .i64 l0.gn, .slice uax0 l0.ups.length ucx0] 30)
  have kb := Blk.new w5 #[.int .i64 l0.r, .int .i64 l0.n, .slice dax0 l0.dep.length dcx0, .int .i64 l0.actor, .int .i64 l0.kind, .int .i64 l0.to, .int .i64 l0.bucket, .int .i64 l0.mask, .int .i64 l0.gr, .int .i64 l0.gn, .slice uax0 l0.ups.length ucx0] 30
  obtain ⟨px0, hpx0⟩ : ∃ p, p = w5.heap.size := ⟨_, rfl⟩
  have Nx0_x0 := Lib.hid (show px0 ∉ sx0 from fun h => by have h1 := Ox0_5.out.lt px0 h; omega)
  have B6 := Lib.hid (B5.out.trans ((ba).mono B5.out.size))
  have E6 := Lib.hid (E5.out.trans ((ba).mono E5.out.size))
  have Ox0_6 := Lib.hid (Ox0_5.out.below (ba))
  have KA0_6 := Lib.hid (KA0_5.out.below (ba) KA0_5.out.lt)
  rw [← hpx0] at kb ⊢
  obtain ⟨w6, hw⟩ : ∃ W, W = w5.alloc (.cells #[.int .i64 l0.r, .int .i64 l0.n, .slice dax0 l0.dep.length dcx0, .int .i64 l0.actor, .int .i64 l0.kind, .int .i64 l0.to, .int .i64 l0.bucket, .int .i64 l0.mask, .int .i64 l0.gr, .int .i64 l0.gn, .slice uax0 l0.ups.length ucx0] 30) := ⟨_, rfl⟩
  rw [← hw] at kb ⊢
  simp only [← hw] at B6 E6 Ox0_6 KA0_6
  have Kx0_6 := Lib.hid kb
  have Gpx0 := Lib.hid (show w4.heap.size ≤ px0 by rw [hpx0]; exact E5.out.size)
  clear Ox0_5 KA0_5 ba kb hw hpx0
  have cx00 := Kx0_6.out.cell 0
  have cx01 := Kx0_6.out.cell 1
  have cx02 := Kx0_6.out.cell 2
  have cx03 := Kx0_6.out.cell 3
  have cx04 := Kx0_6.out.cell 4
  have cx05 := Kx0_6.out.cell 5
  have cx06 := Kx0_6.out.cell 6
  have cx07 := Kx0_6.out.cell 7
  have cx08 := Kx0_6.out.cell 8
  have cx09 := Kx0_6.out.cell 9
  have cx010 := Kx0_6.out.cell 10
  simp only [List.getElem?_cons_zero, List.getElem?_cons_succ] at cx00 cx01 cx02 cx03 cx04 cx05 cx06 cx07 cx08 cx09 cx010
  go_wp2_with fail
  refine (CI.out _ _ Ox0_6.out.act SM0.out (HTAB.out.below B6.out)).mono ?_
  rintro e w7 ⟨rfl, b7⟩
  have B7 := Lib.hid (B6.out.trans ((b7).mono B6.out.size))
  have E7 := Lib.hid (E6.out.trans ((b7).mono E6.out.size))
  have Ox0_7 := Lib.hid (Ox0_6.out.below (b7))
  have KA0_7 := Lib.hid (KA0_6.out.below (b7) KA0_6.out.lt)
  have Kx0_7 := Lib.hid (Kx0_6.out.below (b7) Kx0_6.out.lt)
  clear Ox0_6 KA0_6 Kx0_6 b7
  clear cx00 cx01 cx02 cx03 cx04 cx05 cx06 cx07 cx08 cx09 cx010
  go_upto_region 10 with (fail)
  refine wp_region_held_drew (S := fun w' => Below w7.heap.size w7 w') (by kernel_rfl) ((Below.refl w7.heap.size w7).drew) (fun hHeld => ?_)
  have KQx0 := Kx0_7
  have KQA0 := KA0_7
  refine held_take (i := 0) (d := some 22) (v := ?_) rfl (by kernel_rfl) (by kernel_rfl) (by kernel_rfl) (by kernel_rfl) (fun _ _ _ h => h) (by kernel_rfl) ?_ hHeld ?_
  rotate_left
  · intro w' hSw
    have gK := KQx0.out.below hSw KQx0.out.lt
    have g0 := gK.cell 0
    have g1 := gK.cell 1
    have g2 := gK.cell 2
    have g3 := gK.cell 3
    have g4 := gK.cell 4
    have g5 := gK.cell 5
    have g6 := gK.cell 6
    have g7 := gK.cell 7
    have g8 := gK.cell 8
    have g9 := gK.cell 9
    have g10 := gK.cell 10
    simp only [List.getElem?_cons_zero, List.getElem?_cons_succ] at g0 g1 g2 g3 g4 g5 g6 g7 g8 g9 g10
    go_simp
    first | done | with_reducible rfl
  simp only [Act.put, List.setIfInBounds_toArray, List.set_cons_zero, List.set_cons_succ]
  refine held_take (i := 1) (d := some 23) (v := ?_) rfl (by kernel_rfl) (by kernel_rfl) (by kernel_rfl) (by kernel_rfl) (fun _ _ _ h => h) (by kernel_rfl) ?_ hHeld ?_
  rotate_left
  · intro w' hSw
    have gK := KQA0.out.below hSw KQA0.out.lt
    have g0 := gK.cell 0
    have g1 := gK.cell 1
    have g2 := gK.cell 2
    have g3 := gK.cell 3
    have g4 := gK.cell 4
    have g5 := gK.cell 5
    have g6 := gK.cell 6
    have g7 := gK.cell 7
    have g8 := gK.cell 8
    have g9 := gK.cell 9
    have g10 := gK.cell 10
    simp only [List.getElem?_cons_zero, List.getElem?_cons_succ] at g0 g1 g2 g3 g4 g5 g6 g7 g8 g9 g10
    go_simp
    first | done | with_reducible rfl
  simp only [Act.put, List.setIfInBounds_toArray, List.set_cons_zero, List.set_cons_succ]
  refine wpAnyH_ready (rs := [2]) (by kernel_rfl) (by simp) ?_
  refine AllReadyH.cons rfl (fun K hK => ?_) AllReadyH.nil
  go_simp
  refine (toA_any _ l0 _ ((H0.out.below B7.out).below hHeld) SM0.out.1 SM0.out.2).mono ?_
  rintro e w8 ⟨uy0, sy0, rfl, oy0, gy0, b8⟩
  have gy0 : ∀ b ∈ sy0, w7.heap.size ≤ b := fun b hb => Nat.le_trans hHeld.size (gy0 b hb)
  have bD8 := hHeld.trans (b8.mono hHeld.size)
  obtain ⟨day0, dcy0, uay0, ucy0, hvy0⟩ := oy0.shape
  subst hvy0
  have Oy0_8 := Lib.hid oy0
  have Dx0_y0 := Lib.hid (show ∀ b ∈ sx0, b ∉ sy0 from fun b hb hc => by have h1 := Ox0_7.out.lt b hb; have h2 := gy0 b hc; omega)
  have Dy0_x0 := Lib.hid (show ∀ b ∈ sy0, b ∉ sx0 from fun b hc hb => by have h1 := Ox0_7.out.lt b hb; have h2 := gy0 b hc; omega)
  have NA0_y0 := Lib.hid (show pA0 ∉ sy0 from fun hc => by have h1 := KA0_7.out.lt; have h2 := gy0 pA0 hc; omega)
  have Nx0_y0 := Lib.hid (show px0 ∉ sy0 from fun hc => by have h1 := Kx0_7.out.lt; have h2 := gy0 px0 hc; omega)
  have Gy0 := Lib.hid (fun b hb => Nat.le_trans E7.out.size (gy0 b hb))
  have B8 := Lib.hid (B7.out.trans ((bD8).mono B7.out.size))
  have E8 := Lib.hid (E7.out.trans ((bD8).mono E7.out.size))
  have Ox0_8 := Lib.hid (Ox0_7.out.below (bD8))
  have KA0_8 := Lib.hid (KA0_7.out.below (bD8) KA0_7.out.lt)
  have Kx0_8 := Lib.hid (Kx0_7.out.below (bD8) Kx0_7.out.lt)
  clear Ox0_7 KA0_7 Kx0_7 b8 gy0 oy0
  refine hK.out _ _ (bD8) (fun hHeld => ?_)
  clear hK K
  try simp only [Act.put, List.setIfInBounds_toArray, List.set_cons_zero, List.set_cons_succ]
  refine wpAnyH_ready (rs := [3]) (by kernel_rfl) (by simp) ?_
  refine AllReadyH.cons rfl (fun K hK => ?_) AllReadyH.nil
  go_simp
  refine (eqA_any _ _ l0 _ Ox0_8.out.act Oy0_8.out.act).mono ?_
  rintro e w9 ⟨rfl, b9⟩
  have hHeld2 := hHeld.trans (b9.mono hHeld.size)
  have B9 := Lib.hid (B8.out.trans ((b9).mono B8.out.size))
  have E9 := Lib.hid (E8.out.trans ((b9).mono E8.out.size))
  have Ox0_9 := Lib.hid (Ox0_8.out.below (b9))
  have Oy0_9 := Lib.hid (Oy0_8.out.below (b9))
  have KA0_9 := Lib.hid (KA0_8.out.below (b9) KA0_8.out.lt)
  have Kx0_9 := Lib.hid (Kx0_8.out.below (b9) Kx0_8.out.lt)
  clear Ox0_8 Oy0_8 KA0_8 Kx0_8 b9
  clear Oy0_9
  refine hK.out _ _ (hHeld2) (fun hHeld => ?_)
  clear hK K
  try simp only [Act.put, List.setIfInBounds_toArray, List.set_cons_zero, List.set_cons_succ]
  refine held_take (i := 4) (d := some 26) (v := ?_) rfl (by kernel_rfl) (by kernel_rfl) (by kernel_rfl) (by kernel_rfl) (fun _ _ _ h => h) (by kernel_rfl) ?_ hHeld ?_
  rotate_left
  · intro w' hSw
    go_simp
    first | done | with_reducible rfl
  simp only [Act.put, List.setIfInBounds_toArray, List.set_cons_zero, List.set_cons_succ]
  refine wpAnyH_done (by kernel_rfl) ?_ _
  clear KQx0
  clear KQA0
  go_wp2_with fail
  go_ret
  exact ⟨rfl, B9.out⟩
end Go.Proofs.YtjjgigoehgabkaaDoor
