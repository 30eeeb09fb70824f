/- The law FnExactRights. -/
import Derived.Test.YtjjgigoehgabkaaGreatQU
import Derived.Test.YtjjgigoehgabkaaGreatQB
import Derived.Test.YtjjgigoehgabkaaGreatGE
import Derived.Test.YtjjgigoehgabkaaGreatGF
import Derived.Deep.DeepCutAuto





namespace Go.Proofs.YtjjgigoehgabkaaGreat
open Go.RowKit
set_option linter.unusedVariables false
set_option linter.unusedSimpArgs false

set_option maxRecDepth 100000 in
set_option maxHeartbeats 12800000 in
theorem law_rights (v0 : Value) (l0 : List ActM) (n1 : Int) (n2 : Int) (n3 : Int) (r4 m4 : Int) (v4 : Value) (l4 : List Int) (w0 : World) (h0 : Acts w0 v0 l0) (h1 : -9223372036854775808 ≤ n1 ∧ n1 ≤ 9223372036854775807) (h2 : -9223372036854775808 ≤ n2 ∧ n2 ≤ 9223372036854775807) (h3 : -9223372036854775808 ≤ n3 ∧ n3 ≤ 9223372036854775807) (h4 : Ints w0 v4 l4) :
    Calls Tryz.prog 3 #[v0, .int .i64 n1, .int .i64 n2, .int .i64 n3, .agg #[.int .i64 r4, .int .i64 m4, v4]] w0 fun e w' => e = .returned (.bool true) ∧ Below w0.heap.size w0 w' := by
  have H0 := Lib.hid h0
  have H4 := Lib.hid h4
  obtain ⟨M0, hM0⟩ : ∃ M, M = rightsM l0 n1 n2 n3 r4 m4 l4 := ⟨_, rfl⟩
  have CS := Lib.hid (fun W u0 u4 (h0 : Acts W u0 l0) (h4 : Ints W u4 l4) (s0 : SmallL l0) (s4 : l4.length ≤ 1048576) => specRights_any u0 u4 l0 l4 n1 n2 n3 r4 m4 W h0 h4 h1)
  have CI := Lib.hid (fun W u0 u4 (h0 : Acts W u0 l0) (h4 : Ints W u4 l4) (s0 : SmallL l0) (s4 : l4.length ≤ 1048576) => implRights_any u0 u4 l0 l4 n1 n2 n3 r4 m4 W h0 h4 h1)
  simp only [← hM0] at CS CI
  have be0 : (M0 == M0) = true := by simp
  have bn0 : (M0 != M0) = false := by simp
  clear hM0 h0 h4
  obtain ⟨a4, c4, rfl⟩ := ints_len H4.out
  obtain ⟨Z4, hZ4⟩ : ∃ Z, l4.length = Z := ⟨_, rfl⟩
  have HX4 := Lib.hid (ints_max H4.out)
  rw [hZ4] at H4 HX4 ⊢
  have HZ4 := Lib.hid hZ4
  clear hZ4
  have B0 := Lib.hid (Below.refl w0.heap.size w0)
  go_enter Tryz.func3, Tryz.ntmps3
  go_upto_region 1 with (fail)
  have ba := (Below.refl w0.heap.size w0).alloc (Nat.le_refl _) (.cells #[.int .i64 r4, .int .i64 m4, .slice a4 Z4 c4] 25)
  have kb := Blk.new w0 #[.int .i64 r4, .int .i64 m4, .slice a4 Z4 c4] 25
  obtain ⟨pA4, hpA⟩ : ∃ p, p = w0.heap.size := ⟨_, rfl⟩
  have B1 := Lib.hid (B0.out.trans ((ba).mono B0.out.size))
  rw [← hpA] at kb ⊢
  obtain ⟨w1, hw⟩ : ∃ W, W = w0.alloc (.cells #[.int .i64 r4, .int .i64 m4, .slice a4 Z4 c4] 25) := ⟨_, rfl⟩
  rw [← hw] at kb ⊢
  simp only [← hw] at B1
  have KA4_1 := Lib.hid kb
  clear ba kb hw hpA
  go_wp2_with fail
  refine (szActS_any _ l0 1048576 _ (H0.out.below B1.out) (by omega) (by omega)).mono ?_
  rintro e w2 ⟨r0, rfl, ra0, rb0, rs0, b2⟩
  have B2 := Lib.hid (B1.out.trans ((b2).mono B1.out.size))
  have KA4_2 := Lib.hid (KA4_1.out.below (b2) KA4_1.out.lt)
  have RS0 := Lib.hid rs0
  clear KA4_1 b2 rs0
  by_cases hr0 : r0 < 0
  · go_wp2_with fail
    go_ret
    exact ⟨rfl, B2.out⟩
  have SM0 := Lib.hid (RS0.out (by omega)).1
  have hz0 : szL l0 ≤ 9437184 := by have h1 := (RS0.out (by omega)).2; have h2 := szL_tot l0; omega
  obtain ⟨Z0, hZ0⟩ : ∃ Z, szL l0 = Z := ⟨_, rfl⟩
  rw [hZ0] at hz0
  have HZ0 := Lib.hid hZ0
  clear hZ0
  have cA40 := KA4_2.out.cell 0
  have cA41 := KA4_2.out.cell 1
  have cA42 := KA4_2.out.cell 2
  simp only [List.getElem?_cons_zero, List.getElem?_cons_succ] at cA40 cA41 cA42
  go_wp2_with fail
  refine (szE_any r4 m4 _ Z4 c4 r0 _ (by omega) (by omega) (by have := HX4.out; omega)).mono ?_
  rintro e w3 ⟨rfl, b3⟩
  have B3 := Lib.hid (B2.out.trans ((b3).mono B2.out.size))
  have KA4_3 := Lib.hid (KA4_2.out.below (b3) KA4_2.out.lt)
  clear KA4_2 b3
  generalize hq4 : (if r0 - (Z4 : Int) < 0 then (-1 : Int) else r0 - Z4) = q4
  have RS4 := Lib.hid hq4
  clear hq4
  by_cases hr4 : q4 < 0
  · go_wp2_with fail
    go_ret
    exact ⟨rfl, B3.out⟩
  have hN4 : Z4 ≤ 1048576 := by have h1 := RS4.out; split at h1 <;> omega
  clear cA40 cA41 cA42
  go_upto_region 8 with (fail)
  refine wp_region_held_drew (S := fun w' => Below w3.heap.size w3 w') (by kernel_rfl) ((Below.refl w3.heap.size w3).drew) (fun hHeld => ?_)
  have KQA4 := KA4_3
  refine held_take (i := 0) (d := some 26) (v := ?_) rfl (by kernel_rfl) (by kernel_rfl) (by kernel_rfl) (by kernel_rfl) (fun _ _ _ h => h) (by kernel_rfl) ?_ hHeld ?_
  rotate_left
  · intro w' hSw
    go_simp
    first | done | with_reducible rfl
  simp only [Act.put, List.setIfInBounds_toArray, List.set_cons_zero, List.set_cons_succ]
  refine held_take (i := 2) (d := some 28) (v := ?_) rfl (by kernel_rfl) (by kernel_rfl) (by kernel_rfl) (by kernel_rfl) (fun _ _ _ h => h) (by kernel_rfl) ?_ hHeld ?_
  rotate_left
  · intro w' hSw
    go_simp
    first | done | with_reducible rfl
  simp only [Act.put, List.setIfInBounds_toArray, List.set_cons_zero, List.set_cons_succ]
  refine held_take (i := 3) (d := some 29) (v := ?_) rfl (by kernel_rfl) (by kernel_rfl) (by kernel_rfl) (by kernel_rfl) (fun _ _ _ h => h) (by kernel_rfl) ?_ hHeld ?_
  rotate_left
  · intro w' hSw
    go_simp
    first | done | with_reducible rfl
  simp only [Act.put, List.setIfInBounds_toArray, List.set_cons_zero, List.set_cons_succ]
  refine held_take (i := 4) (d := some 30) (v := ?_) rfl (by kernel_rfl) (by kernel_rfl) (by kernel_rfl) (by kernel_rfl) (fun _ _ _ h => h) (by kernel_rfl) ?_ hHeld ?_
  rotate_left
  · intro w' hSw
    go_simp
    first | done | with_reducible rfl
  simp only [Act.put, List.setIfInBounds_toArray, List.set_cons_zero, List.set_cons_succ]
  refine held_take (i := 5) (d := some 31) (v := ?_) rfl (by kernel_rfl) (by kernel_rfl) (by kernel_rfl) (by kernel_rfl) (fun _ _ _ h => h) (by kernel_rfl) ?_ hHeld ?_
  rotate_left
  · intro w' hSw
    have gK := KQA4.out.below hSw KQA4.out.lt
    have g0 := gK.cell 0
    have g1 := gK.cell 1
    have g2 := gK.cell 2
    simp only [List.getElem?_cons_zero, List.getElem?_cons_succ] at g0 g1 g2
    go_simp
    first | done | with_reducible rfl
  simp only [Act.put, List.setIfInBounds_toArray, List.set_cons_zero, List.set_cons_succ]
  refine wpAnyH_ready (rs := [1]) (by kernel_rfl) (by simp) ?_
  refine AllReadyH.cons rfl (fun K hK => ?_) AllReadyH.nil
  go_simp
  refine (toL_any _ l0 _ ((H0.out.below B3.out).below hHeld) SM0.out).mono ?_
  rintro e w4 ⟨us0, ss0, rfl, os0, gs0, b4⟩
  have gs0 : ∀ b ∈ ss0, w3.heap.size ≤ b := fun b hb => Nat.le_trans hHeld.size (gs0 b hb)
  have bD4 := hHeld.trans (b4.mono hHeld.size)
  have Os0_4 := Lib.hid os0
  have NA4_s0 := Lib.hid (show pA4 ∉ ss0 from fun hc => by have h1 := KA4_3.out.lt; have h2 := gs0 pA4 hc; omega)
  have B4 := Lib.hid (B3.out.trans ((bD4).mono B3.out.size))
  have KA4_4 := Lib.hid (KA4_3.out.below (bD4) KA4_3.out.lt)
  clear KA4_3 b4 gs0 os0
  refine hK.out _ _ (bD4) (fun hHeld => ?_)
  clear hK K
  try simp only [Act.put, List.setIfInBounds_toArray, List.set_cons_zero, List.set_cons_succ]
  refine wpAnyH_ready (rs := [6]) (by kernel_rfl) (by simp) ?_
  refine AllReadyH.cons rfl (fun K hK => ?_) AllReadyH.nil
  go_simp
  refine (toE_any r4 m4 _ l4 _ (H4.out.below (B := 0) B4.out) (by rw [HZ4.out]; exact hN4)).mono ?_
  rintro e w5 ⟨us4, ss4, rfl, os4, gs4, b5⟩
  have hHeld2 := hHeld.trans (b5.mono hHeld.size)
  obtain ⟨eas4, ecs4, hvs4⟩ := ints_len os4.ints
  rw [HZ4.out] at hvs4
  subst hvs4
  have Os4_5 := Lib.hid os4
  have Ds0_s4 := Lib.hid (show ∀ b ∈ ss0, b ∉ ss4 from fun b hb hc => by have h1 := Os0_4.out.lt b hb; have h2 := gs4 b hc; omega)
  have Ds4_s0 := Lib.hid (show ∀ b ∈ ss4, b ∉ ss0 from fun b hc hb => by have h1 := Os0_4.out.lt b hb; have h2 := gs4 b hc; omega)
  have NA4_s4 := Lib.hid (show pA4 ∉ ss4 from fun hc => by have h1 := KA4_4.out.lt; have h2 := gs4 pA4 hc; omega)
  have B5 := Lib.hid (B4.out.trans ((b5).mono B4.out.size))
  have Os0_5 := Lib.hid (Os0_4.out.below (b5))
  have KA4_5 := Lib.hid (KA4_4.out.below (b5) KA4_4.out.lt)
  clear Os0_4 KA4_4 b5 gs4 os4
  refine hK.out _ _ (hHeld2) (fun hHeld => ?_)
  clear hK K
  try simp only [Act.put, List.setIfInBounds_toArray, List.set_cons_zero, List.set_cons_succ]
  refine wpAnyH_ready (rs := [7]) (by kernel_rfl) (by simp) ?_
  refine AllReadyH.cons rfl (fun K hK => ?_) AllReadyH.nil
  go_simp
  refine (CS.out _ _ _ Os0_5.out.acts Os4_5.out.ints SM0.out (by rw [HZ4.out]; exact hN4)).mono ?_
  rintro e w6 ⟨rfl, b6⟩
  have hHeld2 := hHeld.trans (b6.mono hHeld.size)
  have B6 := Lib.hid (B5.out.trans ((b6).mono B5.out.size))
  have KA4_6 := Lib.hid (KA4_5.out.below (b6) KA4_5.out.lt)
  clear Os0_5 Os4_5 KA4_5 b6
  refine hK.out _ _ (hHeld2) (fun hHeld => ?_)
  clear hK K
  try simp only [Act.put, List.setIfInBounds_toArray, List.set_cons_zero, List.set_cons_succ]
  refine held_take (i := 8) (d := some 12) (v := ?_) rfl (by kernel_rfl) (by kernel_rfl) (by kernel_rfl) (by kernel_rfl) (fun _ _ _ h => h) (by kernel_rfl) ?_ hHeld ?_
  rotate_left
  · intro w' hSw
    go_simp
    first | done | with_reducible rfl
  simp only [Act.put, List.setIfInBounds_toArray, List.set_cons_zero, List.set_cons_succ]
  refine wpAnyH_done (by kernel_rfl) ?_ _
  clear KQA4
  have E6 := Lib.hid (Below.refl w6.heap.size w6)
  go_wp2_with fail
  refine (toL_any _ l0 _ (H0.out.below B6.out) SM0.out).mono ?_
  rintro e w7 ⟨ux0, sx0, rfl, ox0, gx0, b7⟩
  have Ox0_7 := Lib.hid ox0
  have NA4_x0 := Lib.hid (show pA4 ∉ sx0 from fun hc => by have h1 := KA4_6.out.lt; have h2 := gx0 pA4 hc; omega)
  have Gx0 := Lib.hid (fun b hb => Nat.le_trans E6.out.size (gx0 b hb))
  have B7 := Lib.hid (B6.out.trans ((b7).mono B6.out.size))
  have E7 := Lib.hid (E6.out.trans ((b7).mono E6.out.size))
  have KA4_7 := Lib.hid (KA4_6.out.below (b7) KA4_6.out.lt)
  clear KA4_6 b7 gx0 ox0
  have cA40 := KA4_7.out.cell 0
  have cA41 := KA4_7.out.cell 1
  have cA42 := KA4_7.out.cell 2
  simp only [List.getElem?_cons_zero, List.getElem?_cons_succ] at cA40 cA41 cA42
  go_wp2_with fail
  refine (toE_any r4 m4 _ l4 _ (H4.out.below (B := 0) B7.out) (by rw [HZ4.out]; exact hN4)).mono ?_
  rintro e w8 ⟨ux4, sx4, rfl, ox4, gx4, b8⟩
  obtain ⟨eax4, ecx4, hvx4⟩ := ints_len ox4.ints
  rw [HZ4.out] at hvx4
  subst hvx4
  have Ox4_8 := Lib.hid ox4
  have Dx0_x4 := Lib.hid (show ∀ b ∈ sx0, b ∉ sx4 from fun b hb hc => by have h1 := Ox0_7.out.lt b hb; have h2 := gx4 b hc; omega)
  have Dx4_x0 := Lib.hid (show ∀ b ∈ sx4, b ∉ sx0 from fun b hc hb => by have h1 := Ox0_7.out.lt b hb; have h2 := gx4 b hc; omega)
  have NA4_x4 := Lib.hid (show pA4 ∉ sx4 from fun hc => by have h1 := KA4_7.out.lt; have h2 := gx4 pA4 hc; omega)
  have Gx4 := Lib.hid (fun b hb => Nat.le_trans E7.out.size (gx4 b hb))
  have B8 := Lib.hid (B7.out.trans ((b8).mono B7.out.size))
  have E8 := Lib.hid (E7.out.trans ((b8).mono E7.out.size))
  have Ox0_8 := Lib.hid (Ox0_7.out.below (b8))
  have KA4_8 := Lib.hid (KA4_7.out.below (b8) KA4_7.out.lt)
  clear Ox0_7 KA4_7 b8 gx4 ox4
  clear cA40 cA41 cA42
  go_upto_region 11 with (fail)
  have ba := (Below.refl w8.heap.size w8).alloc (Nat.le_refl _) (.cells #[.int .i64 r4, .int .i64 m4, .slice eax4 Z4 ecx4] 31)
  have kb := Blk.new w8 #[.int .i64 r4, .int .i64 m4, .slice eax4 Z4 ecx4] 31
  obtain ⟨px4, hpx4⟩ : ∃ p, p = w8.heap.size := ⟨_, rfl⟩
  have Nx4_x0 := Lib.hid (show px4 ∉ sx0 from fun h => by have h1 := Ox0_8.out.lt px4 h; omega)
  have Nx4_x4 := Lib.hid (show px4 ∉ sx4 from fun h => by have h1 := Ox4_8.out.lt px4 h; omega)
  have B9 := Lib.hid (B8.out.trans ((ba).mono B8.out.size))
  have E9 := Lib.hid (E8.out.trans ((ba).mono E8.out.size))
  have Ox0_9 := Lib.hid (Ox0_8.out.below (ba))
  have Ox4_9 := Lib.hid (Ox4_8.out.below (ba))
  have KA4_9 := Lib.hid (KA4_8.out.below (ba) KA4_8.out.lt)
  rw [← hpx4] at kb ⊢
  obtain ⟨w9, hw⟩ : ∃ W, W = w8.alloc (.cells #[.int .i64 r4, .int .i64 m4, .slice eax4 Z4 ecx4] 31) := ⟨_, rfl⟩
  rw [← hw] at kb ⊢
  simp only [← hw] at B9 E9 Ox0_9 Ox4_9 KA4_9
  have Kx4_9 := Lib.hid kb
  have Gpx4 := Lib.hid (show w6.heap.size ≤ px4 by rw [hpx4]; exact E8.out.size)
  clear Ox0_8 Ox4_8 KA4_8 ba kb hw hpx4
  have cx40 := Kx4_9.out.cell 0
  have cx41 := Kx4_9.out.cell 1
  have cx42 := Kx4_9.out.cell 2
  simp only [List.getElem?_cons_zero, List.getElem?_cons_succ] at cx40 cx41 cx42
  go_wp2_with fail
  refine (CI.out _ _ _ Ox0_9.out.acts Ox4_9.out.ints SM0.out (by rw [HZ4.out]; exact hN4)).mono ?_
  rintro e w10 ⟨rfl, b10⟩
  have B10 := Lib.hid (B9.out.trans ((b10).mono B9.out.size))
  have E10 := Lib.hid (E9.out.trans ((b10).mono E9.out.size))
  have Ox0_10 := Lib.hid (Ox0_9.out.below (b10))
  have Ox4_10 := Lib.hid (Ox4_9.out.below (b10))
  have KA4_10 := Lib.hid (KA4_9.out.below (b10) KA4_9.out.lt)
  have Kx4_10 := Lib.hid (Kx4_9.out.below (b10) Kx4_9.out.lt)
  clear Ox0_9 Ox4_9 KA4_9 Kx4_9 b10
  clear cx40 cx41 cx42
  go_wp2_with fail
  refine (toL_any _ l0 _ (H0.out.below B10.out) SM0.out).mono ?_
  rintro e w11 ⟨uy0, sy0, rfl, oy0, gy0, b11⟩
  have Oy0_11 := Lib.hid oy0
  have Dx0_y0 := Lib.hid (show ∀ b ∈ sx0, b ∉ sy0 from fun b hb hc => by have h1 := Ox0_10.out.lt b hb; have h2 := gy0 b hc; omega)
  have Dy0_x0 := Lib.hid (show ∀ b ∈ sy0, b ∉ sx0 from fun b hc hb => by have h1 := Ox0_10.out.lt b hb; have h2 := gy0 b hc; omega)
  have Dx4_y0 := Lib.hid (show ∀ b ∈ sx4, b ∉ sy0 from fun b hb hc => by have h1 := Ox4_10.out.lt b hb; have h2 := gy0 b hc; omega)
  have Dy0_x4 := Lib.hid (show ∀ b ∈ sy0, b ∉ sx4 from fun b hc hb => by have h1 := Ox4_10.out.lt b hb; have h2 := gy0 b hc; omega)
  have NA4_y0 := Lib.hid (show pA4 ∉ sy0 from fun hc => by have h1 := KA4_10.out.lt; have h2 := gy0 pA4 hc; omega)
  have Nx4_y0 := Lib.hid (show px4 ∉ sy0 from fun hc => by have h1 := Kx4_10.out.lt; have h2 := gy0 px4 hc; omega)
  have Gy0 := Lib.hid (fun b hb => Nat.le_trans E10.out.size (gy0 b hb))
  have B11 := Lib.hid (B10.out.trans ((b11).mono B10.out.size))
  have E11 := Lib.hid (E10.out.trans ((b11).mono E10.out.size))
  have Ox0_11 := Lib.hid (Ox0_10.out.below (b11))
  have Ox4_11 := Lib.hid (Ox4_10.out.below (b11))
  have KA4_11 := Lib.hid (KA4_10.out.below (b11) KA4_10.out.lt)
  have Kx4_11 := Lib.hid (Kx4_10.out.below (b11) Kx4_10.out.lt)
  clear Ox0_10 Ox4_10 KA4_10 Kx4_10 b11 gy0 oy0
  go_wp2_with fail
  refine (eqActS_any _ _ l0 _ Ox0_11.out.acts Oy0_11.out.acts).mono ?_
  rintro e w12 ⟨rfl, b12⟩
  have B12 := Lib.hid (B11.out.trans ((b12).mono B11.out.size))
  have E12 := Lib.hid (E11.out.trans ((b12).mono E11.out.size))
  have Ox0_12 := Lib.hid (Ox0_11.out.below (b12))
  have Ox4_12 := Lib.hid (Ox4_11.out.below (b12))
  have Oy0_12 := Lib.hid (Oy0_11.out.below (b12))
  have KA4_12 := Lib.hid (KA4_11.out.below (b12) KA4_11.out.lt)
  have Kx4_12 := Lib.hid (Kx4_11.out.below (b12) Kx4_11.out.lt)
  clear Ox0_11 Ox4_11 Oy0_11 KA4_11 Kx4_11 b12
  clear Oy0_12
  go_upto_region 16 with (fail)
  refine wp_region_held_drew (S := fun w' => Below w12.heap.size w12 w') (by kernel_rfl) ((Below.refl w12.heap.size w12).drew) (fun hHeld => ?_)
  have KQx4 := Kx4_12
  have KQA4 := KA4_12
  refine held_take (i := 0) (d := some 52) (v := ?_) rfl (by kernel_rfl) (by kernel_rfl) (by kernel_rfl) (by kernel_rfl) (fun _ _ _ h => h) (by kernel_rfl) ?_ hHeld ?_
  rotate_left
  · intro w' hSw
    have gK := KQx4.out.below hSw KQx4.out.lt
    have g0 := gK.cell 0
    have g1 := gK.cell 1
    have g2 := gK.cell 2
    simp only [List.getElem?_cons_zero, List.getElem?_cons_succ] at g0 g1 g2
    go_simp
    first | done | with_reducible rfl
  simp only [Act.put, List.setIfInBounds_toArray, List.set_cons_zero, List.set_cons_succ]
  refine held_take (i := 1) (d := some 53) (v := ?_) rfl (by kernel_rfl) (by kernel_rfl) (by kernel_rfl) (by kernel_rfl) (fun _ _ _ h => h) (by kernel_rfl) ?_ hHeld ?_
  rotate_left
  · intro w' hSw
    have gK := KQA4.out.below hSw KQA4.out.lt
    have g0 := gK.cell 0
    have g1 := gK.cell 1
    have g2 := gK.cell 2
    simp only [List.getElem?_cons_zero, List.getElem?_cons_succ] at g0 g1 g2
    go_simp
    first | done | with_reducible rfl
  simp only [Act.put, List.setIfInBounds_toArray, List.set_cons_zero, List.set_cons_succ]
  refine wpAnyH_ready (rs := [2]) (by kernel_rfl) (by simp) ?_
  refine AllReadyH.cons rfl (fun K hK => ?_) AllReadyH.nil
  go_simp
  refine (toE_any r4 m4 _ l4 _ ((H4.out.below (B := 0) B12.out).below (B := 0) hHeld) (by rw [HZ4.out]; exact hN4)).mono ?_
  rintro e w13 ⟨uy4, sy4, rfl, oy4, gy4, b13⟩
  have gy4 : ∀ b ∈ sy4, w12.heap.size ≤ b := fun b hb => Nat.le_trans hHeld.size (gy4 b hb)
  have bD13 := hHeld.trans (b13.mono hHeld.size)
  obtain ⟨eay4, ecy4, hvy4⟩ := ints_len oy4.ints
  rw [HZ4.out] at hvy4
  subst hvy4
  have Oy4_13 := Lib.hid oy4
  have Dx0_y4 := Lib.hid (show ∀ b ∈ sx0, b ∉ sy4 from fun b hb hc => by have h1 := Ox0_12.out.lt b hb; have h2 := gy4 b hc; omega)
  have Dy4_x0 := Lib.hid (show ∀ b ∈ sy4, b ∉ sx0 from fun b hc hb => by have h1 := Ox0_12.out.lt b hb; have h2 := gy4 b hc; omega)
  have Dx4_y4 := Lib.hid (show ∀ b ∈ sx4, b ∉ sy4 from fun b hb hc => by have h1 := Ox4_12.out.lt b hb; have h2 := gy4 b hc; omega)
  have Dy4_x4 := Lib.hid (show ∀ b ∈ sy4, b ∉ sx4 from fun b hc hb => by have h1 := Ox4_12.out.lt b hb; have h2 := gy4 b hc; omega)
  have NA4_y4 := Lib.hid (show pA4 ∉ sy4 from fun hc => by have h1 := KA4_12.out.lt; have h2 := gy4 pA4 hc; omega)
  have Nx4_y4 := Lib.hid (show px4 ∉ sy4 from fun hc => by have h1 := Kx4_12.out.lt; have h2 := gy4 px4 hc; omega)
  have Gy4 := Lib.hid (fun b hb => Nat.le_trans E12.out.size (gy4 b hb))
  have B13 := Lib.hid (B12.out.trans ((bD13).mono B12.out.size))
  have E13 := Lib.hid (E12.out.trans ((bD13).mono E12.out.size))
  have Ox0_13 := Lib.hid (Ox0_12.out.below (bD13))
  have Ox4_13 := Lib.hid (Ox4_12.out.below (bD13))
  have KA4_13 := Lib.hid (KA4_12.out.below (bD13) KA4_12.out.lt)
  have Kx4_13 := Lib.hid (Kx4_12.out.below (bD13) Kx4_12.out.lt)
  clear Ox0_12 Ox4_12 KA4_12 Kx4_12 b13 gy4 oy4
  refine hK.out _ _ (bD13) (fun hHeld => ?_)
  clear hK K
  try simp only [Act.put, List.setIfInBounds_toArray, List.set_cons_zero, List.set_cons_succ]
  refine wpAnyH_ready (rs := [3]) (by kernel_rfl) (by simp) ?_
  refine AllReadyH.cons rfl (fun K hK => ?_) AllReadyH.nil
  go_simp
  refine (eqE_any r4 m4 _ _ l4 _ Ox4_13.out.ints Oy4_13.out.ints).mono ?_
  rintro e w14 ⟨rfl, b14⟩
  have hHeld2 := hHeld.trans (b14.mono hHeld.size)
  have B14 := Lib.hid (B13.out.trans ((b14).mono B13.out.size))
  have E14 := Lib.hid (E13.out.trans ((b14).mono E13.out.size))
  have Ox0_14 := Lib.hid (Ox0_13.out.below (b14))
  have Ox4_14 := Lib.hid (Ox4_13.out.below (b14))
  have Oy4_14 := Lib.hid (Oy4_13.out.below (b14))
  have KA4_14 := Lib.hid (KA4_13.out.below (b14) KA4_13.out.lt)
  have Kx4_14 := Lib.hid (Kx4_13.out.below (b14) Kx4_13.out.lt)
  clear Ox0_13 Ox4_13 Oy4_13 KA4_13 Kx4_13 b14
  clear Oy4_14
  refine hK.out _ _ (hHeld2) (fun hHeld => ?_)
  clear hK K
  try simp only [Act.put, List.setIfInBounds_toArray, List.set_cons_zero, List.set_cons_succ]
  refine held_take (i := 4) (d := some 56) (v := ?_) rfl (by kernel_rfl) (by kernel_rfl) (by kernel_rfl) (by kernel_rfl) (fun _ _ _ h => h) (by kernel_rfl) ?_ hHeld ?_
  rotate_left
  · intro w' hSw
    go_simp
    first | done | with_reducible rfl
  simp only [Act.put, List.setIfInBounds_toArray, List.set_cons_zero, List.set_cons_succ]
  refine wpAnyH_done (by kernel_rfl) ?_ _
  clear KQx4
  clear KQA4
  go_wp2_with fail
  go_ret
  exact ⟨rfl, B14.out⟩
end Go.Proofs.YtjjgigoehgabkaaGreat
