/- The law FnExactHolds. -/
import Derived.Test.YtjjgigoehgabkaaQV
import Derived.Test.YtjjgigoehgabkaaQB
import Derived.Test.YtjjgigoehgabkaaNE
import Derived.Test.YtjjgigoehgabkaaHG
import Derived.Deep.DeepCutAuto
namespace Go.Proofs.Ytjjgigoehgabkaa
open Go.RowKit
set_option linter.unusedVariables false
set_option linter.unusedSimpArgs false

set_option maxRecDepth 100000 in
set_option maxHeartbeats 12800000 in
theorem law_holds (v0 : Value) (l0 : List ActM) (n1 : Int) (n2 : Int) (r3 m3 : Int) (v3 : Value) (l3 : List Int) (w0 : World) (h0 : Acts w0 v0 l0) (h1 : -9223372036854775808 ≤ n1 ∧ n1 ≤ 9223372036854775807) (h2 : -9223372036854775808 ≤ n2 ∧ n2 ≤ 9223372036854775807) (h3 : Ints w0 v3 l3) :
    Calls Try.prog 17 #[v0, .int .i64 n1, .int .i64 n2, .agg #[.int .i64 r3, .int .i64 m3, v3]] w0 fun e w' => e = .returned (.bool true) ∧ Below w0.heap.size w0 w' := by
  have H0 := Lib.hid h0
  have H3 := Lib.hid h3
  obtain ⟨M0, hM0⟩ : ∃ M, M = holdsM l0 n1 n2 r3 m3 l3 := ⟨_, rfl⟩
  have CS := Lib.hid (fun W u0 u3 (h0 : Acts W u0 l0) (h3 : Ints W u3 l3) (s0 : SmallL l0) (s3 : l3.length ≤ 1048576) => specHolds_any u0 u3 l0 l3 n1 n2 r3 m3 W h0 h3 h1)
  have CI := Lib.hid (fun W u0 u3 (h0 : Acts W u0 l0) (h3 : Ints W u3 l3) (s0 : SmallL l0) (s3 : l3.length ≤ 1048576) => implHolds_any u0 u3 l0 l3 n1 n2 r3 m3 W h0 h3 h1)
  simp only [← hM0] at CS CI
  have be0 : (M0 == M0) = true := by simp
  have bn0 : (M0 != M0) = false := by simp
  clear hM0 h0 h3
  obtain ⟨a3, c3, rfl⟩ := ints_len H3.out
  obtain ⟨Z3, hZ3⟩ : ∃ Z, l3.length = Z := ⟨_, rfl⟩
  have HX3 := Lib.hid (ints_max H3.out)
  rw [hZ3] at H3 HX3 ⊢
  have HZ3 := Lib.hid hZ3
  clear hZ3
  have B0 := Lib.hid (Below.refl w0.heap.size w0)
  go_enter Try.func17, Try.ntmps17
  go_upto_region 1 with (fail)
  have ba := (Below.refl w0.heap.size w0).alloc (Nat.le_refl _) (.cells #[.int .i64 r3, .int .i64 m3, .slice a3 Z3 c3] 87)
  have kb := Blk.new w0 #[.int .i64 r3, .int .i64 m3, .slice a3 Z3 c3] 87
  obtain ⟨pA3, hpA⟩ : ∃ p, p = w0.heap.size := ⟨_, rfl⟩
  have B1 := Lib.hid (B0.out.trans ((ba).mono B0.out.size))
  rw [← hpA] at kb ⊢
  obtain ⟨w1, hw⟩ : ∃ W, W = w0.alloc (.cells #[.int .i64 r3, .int .i64 m3, .slice a3 Z3 c3] 87) := ⟨_, rfl⟩
  rw [← hw] at kb ⊢
  simp only [← hw] at B1
  have KA3_1 := Lib.hid kb
  clear ba kb hw hpA
  go_wp2_with fail
  refine (szActS_any _ l0 1048576 _ (H0.out.below B1.out) (by omega) (by omega)).mono ?_
  rintro e w2 ⟨r0, rfl, ra0, rb0, rs0, b2⟩
  have B2 := Lib.hid (B1.out.trans ((b2).mono B1.out.size))
  have KA3_2 := Lib.hid (KA3_1.out.below (b2) KA3_1.out.lt)
  have RS0 := Lib.hid rs0
  clear KA3_1 b2 rs0
  by_cases hr0 : r0 < 0
  · go_wp2_with fail
    go_ret
    exact ⟨rfl, B2.out⟩
  have SM0 := Lib.hid (RS0.out (by omega)).1
  have hz0 : szL l0 ≤ 9437184 := by have h1 := (RS0.out (by omega)).2; have h2 := szL_tot l0; omega
  obtain ⟨Z0, hZ0⟩ : ∃ Z, szL l0 = Z := ⟨_, rfl⟩
  rw [hZ0] at hz0
  have HZ0 := Lib.hid hZ0
  clear hZ0
  have cA30 := KA3_2.out.cell 0
  have cA31 := KA3_2.out.cell 1
  have cA32 := KA3_2.out.cell 2
  simp only [List.getElem?_cons_zero, List.getElem?_cons_succ] at cA30 cA31 cA32
  go_wp2_with fail
  refine (szE_any r3 m3 _ Z3 c3 r0 _ (by omega) (by omega) (by have := HX3.out; omega)).mono ?_
  rintro e w3 ⟨rfl, b3⟩
  have B3 := Lib.hid (B2.out.trans ((b3).mono B2.out.size))
  have KA3_3 := Lib.hid (KA3_2.out.below (b3) KA3_2.out.lt)
  clear KA3_2 b3
  generalize hq3 : (if r0 - (Z3 : Int) < 0 then (-1 : Int) else r0 - Z3) = q3
  have RS3 := Lib.hid hq3
  clear hq3
  by_cases hr3 : q3 < 0
  · go_wp2_with fail
    go_ret
    exact ⟨rfl, B3.out⟩
  have hN3 : Z3 ≤ 1048576 := by have h1 := RS3.out; split at h1 <;> omega
  clear cA30 cA31 cA32
  go_upto_region 8 with (fail)
  refine wp_region_held_drew (S := fun w' => Below w3.heap.size w3 w') (by kernel_rfl) ((Below.refl w3.heap.size w3).drew) (fun hHeld => ?_)
  have KQA3 := KA3_3
  refine held_take (i := 0) (d := some 24) (v := ?_) rfl (by kernel_rfl) (by kernel_rfl) (by kernel_rfl) (by kernel_rfl) (fun _ _ _ h => h) (by kernel_rfl) ?_ hHeld ?_
  rotate_left
  · intro w' hSw
    go_simp
    first | done | with_reducible rfl
  simp only [Act.put, List.setIfInBounds_toArray, List.set_cons_zero, List.set_cons_succ]
  refine held_take (i := 2) (d := some 26) (v := ?_) rfl (by kernel_rfl) (by kernel_rfl) (by kernel_rfl) (by kernel_rfl) (fun _ _ _ h => h) (by kernel_rfl) ?_ hHeld ?_
  rotate_left
  · intro w' hSw
    go_simp
    first | done | with_reducible rfl
  simp only [Act.put, List.setIfInBounds_toArray, List.set_cons_zero, List.set_cons_succ]
  refine held_take (i := 3) (d := some 27) (v := ?_) rfl (by kernel_rfl) (by kernel_rfl) (by kernel_rfl) (by kernel_rfl) (fun _ _ _ h => h) (by kernel_rfl) ?_ hHeld ?_
  rotate_left
  · intro w' hSw
    go_simp
    first | done | with_reducible rfl
  simp only [Act.put, List.setIfInBounds_toArray, List.set_cons_zero, List.set_cons_succ]
  refine held_take (i := 4) (d := some 28) (v := ?_) rfl (by kernel_rfl) (by kernel_rfl) (by kernel_rfl) (by kernel_rfl) (fun _ _ _ h => h) (by kernel_rfl) ?_ hHeld ?_
  rotate_left
  · intro w' hSw
    have gK := KQA3.out.below hSw KQA3.out.lt
    have g0 := gK.cell 0
    have g1 := gK.cell 1
    have g2 := gK.cell 2
    simp only [List.getElem?_cons_zero, List.getElem?_cons_succ] at g0 g1 g2
    go_simp
    first | done | with_reducible rfl
  simp only [Act.put, List.setIfInBounds_toArray, List.set_cons_zero, List.set_cons_succ]
  refine wpAnyH_ready (rs := [1]) (by kernel_rfl) (by simp) ?_
  refine AllReadyH.cons rfl (fun K hK => ?_) AllReadyH.nil
  go_simp
  refine (toL_any _ l0 _ ((H0.out.below B3.out).below hHeld) SM0.out).mono ?_
  rintro e w4 ⟨us0, ss0, rfl, os0, gs0, b4⟩
  have gs0 : ∀ b ∈ ss0, w3.heap.size ≤ b := fun b hb => Nat.le_trans hHeld.size (gs0 b hb)
  have bD4 := hHeld.trans (b4.mono hHeld.size)
  have Os0_4 := Lib.hid os0
  have NA3_s0 := Lib.hid (show pA3 ∉ ss0 from fun hc => by have h1 := KA3_3.out.lt; have h2 := gs0 pA3 hc; omega)
  have B4 := Lib.hid (B3.out.trans ((bD4).mono B3.out.size))
  have KA3_4 := Lib.hid (KA3_3.out.below (bD4) KA3_3.out.lt)
  clear KA3_3 b4 gs0 os0
  refine hK.out _ _ (bD4) (fun hHeld => ?_)
  clear hK K
  try simp only [Act.put, List.setIfInBounds_toArray, List.set_cons_zero, List.set_cons_succ]
  refine wpAnyH_ready (rs := [5]) (by kernel_rfl) (by simp) ?_
  refine AllReadyH.cons rfl (fun K hK => ?_) AllReadyH.nil
  go_simp
  refine (toE_any r3 m3 _ l3 _ (H3.out.below (B := 0) B4.out) (by rw [HZ3.out]; exact hN3)).mono ?_
  rintro e w5 ⟨us3, ss3, rfl, os3, gs3, b5⟩
  have hHeld2 := hHeld.trans (b5.mono hHeld.size)
  obtain ⟨eas3, ecs3, hvs3⟩ := ints_len os3.ints
  rw [HZ3.out] at hvs3
  subst hvs3
  have Os3_5 := Lib.hid os3
  have Ds0_s3 := Lib.hid (show ∀ b ∈ ss0, b ∉ ss3 from fun b hb hc => by have h1 := Os0_4.out.lt b hb; have h2 := gs3 b hc; omega)
  have Ds3_s0 := Lib.hid (show ∀ b ∈ ss3, b ∉ ss0 from fun b hc hb => by have h1 := Os0_4.out.lt b hb; have h2 := gs3 b hc; omega)
  have NA3_s3 := Lib.hid (show pA3 ∉ ss3 from fun hc => by have h1 := KA3_4.out.lt; have h2 := gs3 pA3 hc; omega)
  have B5 := Lib.hid (B4.out.trans ((b5).mono B4.out.size))
  have Os0_5 := Lib.hid (Os0_4.out.below (b5))
  have KA3_5 := Lib.hid (KA3_4.out.below (b5) KA3_4.out.lt)
  clear Os0_4 KA3_4 b5 gs3 os3
  refine hK.out _ _ (hHeld2) (fun hHeld => ?_)
  clear hK K
  try simp only [Act.put, List.setIfInBounds_toArray, List.set_cons_zero, List.set_cons_succ]
  refine wpAnyH_ready (rs := [6]) (by kernel_rfl) (by simp) ?_
  refine AllReadyH.cons rfl (fun K hK => ?_) AllReadyH.nil
  go_simp
  refine (CS.out _ _ _ Os0_5.out.acts Os3_5.out.ints SM0.out (by rw [HZ3.out]; exact hN3)).mono ?_
  rintro e w6 ⟨rfl, b6⟩
  have hHeld2 := hHeld.trans (b6.mono hHeld.size)
  have B6 := Lib.hid (B5.out.trans ((b6).mono B5.out.size))
  have KA3_6 := Lib.hid (KA3_5.out.below (b6) KA3_5.out.lt)
  clear Os0_5 Os3_5 KA3_5 b6
  refine hK.out _ _ (hHeld2) (fun hHeld => ?_)
  clear hK K
  try simp only [Act.put, List.setIfInBounds_toArray, List.set_cons_zero, List.set_cons_succ]
  refine held_take (i := 7) (d := some 10) (v := ?_) rfl (by kernel_rfl) (by kernel_rfl) (by kernel_rfl) (by kernel_rfl) (fun _ _ _ h => h) (by kernel_rfl) ?_ hHeld ?_
  rotate_left
  · intro w' hSw
    go_simp
    first | done | with_reducible rfl
  simp only [Act.put, List.setIfInBounds_toArray, List.set_cons_zero, List.set_cons_succ]
  refine wpAnyH_done (by kernel_rfl) ?_ _
  clear KQA3
  have E6 := Lib.hid (Below.refl w6.heap.size w6)
  go_wp2_with fail
  refine (toL_any _ l0 _ (H0.out.below B6.out) SM0.out).mono ?_
  rintro e w7 ⟨ux0, sx0, rfl, ox0, gx0, b7⟩
  have Ox0_7 := Lib.hid ox0
  have NA3_x0 := Lib.hid (show pA3 ∉ sx0 from fun hc => by have h1 := KA3_6.out.lt; have h2 := gx0 pA3 hc; omega)
  have Gx0 := Lib.hid (fun b hb => Nat.le_trans E6.out.size (gx0 b hb))
  have B7 := Lib.hid (B6.out.trans ((b7).mono B6.out.size))
  have E7 := Lib.hid (E6.out.trans ((b7).mono E6.out.size))
  have KA3_7 := Lib.hid (KA3_6.out.below (b7) KA3_6.out.lt)
  clear KA3_6 b7 gx0 ox0
  have cA30 := KA3_7.out.cell 0
  have cA31 := KA3_7.out.cell 1
  have cA32 := KA3_7.out.cell 2
  simp only [List.getElem?_cons_zero, List.getElem?_cons_succ] at cA30 cA31 cA32
  go_wp2_with fail
  refine (toE_any r3 m3 _ l3 _ (H3.out.below (B := 0) B7.out) (by rw [HZ3.out]; exact hN3)).mono ?_
  rintro e w8 ⟨ux3, sx3, rfl, ox3, gx3, b8⟩
  obtain ⟨eax3, ecx3, hvx3⟩ := ints_len ox3.ints
  rw [HZ3.out] at hvx3
  subst hvx3
  have Ox3_8 := Lib.hid ox3
  have Dx0_x3 := Lib.hid (show ∀ b ∈ sx0, b ∉ sx3 from fun b hb hc => by have h1 := Ox0_7.out.lt b hb; have h2 := gx3 b hc; omega)
  have Dx3_x0 := Lib.hid (show ∀ b ∈ sx3, b ∉ sx0 from fun b hc hb => by have h1 := Ox0_7.out.lt b hb; have h2 := gx3 b hc; omega)
  have NA3_x3 := Lib.hid (show pA3 ∉ sx3 from fun hc => by have h1 := KA3_7.out.lt; have h2 := gx3 pA3 hc; omega)
  have Gx3 := Lib.hid (fun b hb => Nat.le_trans E7.out.size (gx3 b hb))
  have B8 := Lib.hid (B7.out.trans ((b8).mono B7.out.size))
  have E8 := Lib.hid (E7.out.trans ((b8).mono E7.out.size))
  have Ox0_8 := Lib.hid (Ox0_7.out.below (b8))
  have KA3_8 := Lib.hid (KA3_7.out.below (b8) KA3_7.out.lt)
  clear Ox0_7 KA3_7 b8 gx3 ox3
  clear cA30 cA31 cA32
  go_upto_region 11 with (fail)
  have ba := (Below.refl w8.heap.size w8).alloc (Nat.le_refl _) (.cells #[.int .i64 r3, .int .i64 m3, .slice eax3 Z3 ecx3] 53)
  have kb := Blk.new w8 #[.int .i64 r3, .int .i64 m3, .slice eax3 Z3 ecx3] 53
  obtain ⟨px3, hpx3⟩ : ∃ p, p = w8.heap.size := ⟨_, rfl⟩
  have Nx3_x0 := Lib.hid (show px3 ∉ sx0 from fun h => by have h1 := Ox0_8.out.lt px3 h; omega)
  have Nx3_x3 := Lib.hid (show px3 ∉ sx3 from fun h => by have h1 := Ox3_8.out.lt px3 h; omega)
  have B9 := Lib.hid (B8.out.trans ((ba).mono B8.out.size))
  have E9 := Lib.hid (E8.out.trans ((ba).mono E8.out.size))
  have Ox0_9 := Lib.hid (Ox0_8.out.below (ba))
  have Ox3_9 := Lib.hid (Ox3_8.out.below (ba))
  have KA3_9 := Lib.hid (KA3_8.out.below (ba) KA3_8.out.lt)
  rw [← hpx3] at kb ⊢
  obtain ⟨w9, hw⟩ : ∃ W, W = w8.alloc (.cells #[.int .i64 r3, .int .i64 m3, .slice eax3 Z3 ecx3] 53) := ⟨_, rfl⟩
  rw [← hw] at kb ⊢
  simp only [← hw] at B9 E9 Ox0_9 Ox3_9 KA3_9
  have Kx3_9 := Lib.hid kb
  have Gpx3 := Lib.hid (show w6.heap.size ≤ px3 by rw [hpx3]; exact E8.out.size)
  clear Ox0_8 Ox3_8 KA3_8 ba kb hw hpx3
  have cx30 := Kx3_9.out.cell 0
  have cx31 := Kx3_9.out.cell 1
  have cx32 := Kx3_9.out.cell 2
  simp only [List.getElem?_cons_zero, List.getElem?_cons_succ] at cx30 cx31 cx32
  go_wp2_with fail
  refine (CI.out _ _ _ Ox0_9.out.acts Ox3_9.out.ints SM0.out (by rw [HZ3.out]; exact hN3)).mono ?_
  rintro e w10 ⟨rfl, b10⟩
  have B10 := Lib.hid (B9.out.trans ((b10).mono B9.out.size))
  have E10 := Lib.hid (E9.out.trans ((b10).mono E9.out.size))
  have Ox0_10 := Lib.hid (Ox0_9.out.below (b10))
  have Ox3_10 := Lib.hid (Ox3_9.out.below (b10))
  have KA3_10 := Lib.hid (KA3_9.out.below (b10) KA3_9.out.lt)
  have Kx3_10 := Lib.hid (Kx3_9.out.below (b10) Kx3_9.out.lt)
  clear Ox0_9 Ox3_9 KA3_9 Kx3_9 b10
  clear cx30 cx31 cx32
  go_wp2_with fail
  refine (toL_any _ l0 _ (H0.out.below B10.out) SM0.out).mono ?_
  rintro e w11 ⟨uy0, sy0, rfl, oy0, gy0, b11⟩
  have Oy0_11 := Lib.hid oy0
  have Dx0_y0 := Lib.hid (show ∀ b ∈ sx0, b ∉ sy0 from fun b hb hc => by have h1 := Ox0_10.out.lt b hb; have h2 := gy0 b hc; omega)
  have Dy0_x0 := Lib.hid (show ∀ b ∈ sy0, b ∉ sx0 from fun b hc hb => by have h1 := Ox0_10.out.lt b hb; have h2 := gy0 b hc; omega)
  have Dx3_y0 := Lib.hid (show ∀ b ∈ sx3, b ∉ sy0 from fun b hb hc => by have h1 := Ox3_10.out.lt b hb; have h2 := gy0 b hc; omega)
  have Dy0_x3 := Lib.hid (show ∀ b ∈ sy0, b ∉ sx3 from fun b hc hb => by have h1 := Ox3_10.out.lt b hb; have h2 := gy0 b hc; omega)
  have NA3_y0 := Lib.hid (show pA3 ∉ sy0 from fun hc => by have h1 := KA3_10.out.lt; have h2 := gy0 pA3 hc; omega)
  have Nx3_y0 := Lib.hid (show px3 ∉ sy0 from fun hc => by have h1 := Kx3_10.out.lt; have h2 := gy0 px3 hc; omega)
  have Gy0 := Lib.hid (fun b hb => Nat.le_trans E10.out.size (gy0 b hb))
  have B11 := Lib.hid (B10.out.trans ((b11).mono B10.out.size))
  have E11 := Lib.hid (E10.out.trans ((b11).mono E10.out.size))
  have Ox0_11 := Lib.hid (Ox0_10.out.below (b11))
  have Ox3_11 := Lib.hid (Ox3_10.out.below (b11))
  have KA3_11 := Lib.hid (KA3_10.out.below (b11) KA3_10.out.lt)
  have Kx3_11 := Lib.hid (Kx3_10.out.below (b11) Kx3_10.out.lt)
  clear Ox0_10 Ox3_10 KA3_10 Kx3_10 b11 gy0 oy0
  go_wp2_with fail
  refine (eqActS_any _ _ l0 _ Ox0_11.out.acts Oy0_11.out.acts).mono ?_
  rintro e w12 ⟨rfl, b12⟩
  have B12 := Lib.hid (B11.out.trans ((b12).mono B11.out.size))
  have E12 := Lib.hid (E11.out.trans ((b12).mono E11.out.size))
  have Ox0_12 := Lib.hid (Ox0_11.out.below (b12))
  have Ox3_12 := Lib.hid (Ox3_11.out.below (b12))
  have Oy0_12 := Lib.hid (Oy0_11.out.below (b12))
  have KA3_12 := Lib.hid (KA3_11.out.below (b12) KA3_11.out.lt)
  have Kx3_12 := Lib.hid (Kx3_11.out.below (b12) Kx3_11.out.lt)
  clear Ox0_11 Ox3_11 Oy0_11 KA3_11 Kx3_11 b12
  clear Oy0_12
  go_upto_region 16 with (fail)
  refine wp_region_held_drew (S := fun w' => Below w12.heap.size w12 w') (by kernel_rfl) ((Below.refl w12.heap.size w12).drew) (fun hHeld => ?_)
  have KQx3 := Kx3_12
  have KQA3 := KA3_12
  refine held_take (i := 0) (d := some 48) (v := ?_) rfl (by kernel_rfl) (by kernel_rfl) (by kernel_rfl) (by kernel_rfl) (fun _ _ _ h => h) (by kernel_rfl) ?_ hHeld ?_
  rotate_left
  · intro w' hSw
    have gK := KQx3.out.below hSw KQx3.out.lt
    have g0 := gK.cell 0
    have g1 := gK.cell 1
    have g2 := gK.cell 2
    simp only [List.getElem?_cons_zero, List.getElem?_cons_succ] at g0 g1 g2
    go_simp
    first | done | with_reducible rfl
  simp only [Act.put, List.setIfInBounds_toArray, List.set_cons_zero, List.set_cons_succ]
  refine held_take (i := 1) (d := some 49) (v := ?_) rfl (by kernel_rfl) (by kernel_rfl) (by kernel_rfl) (by kernel_rfl) (fun _ _ _ h => h) (by kernel_rfl) ?_ hHeld ?_
  rotate_left
  · intro w' hSw
    have gK := KQA3.out.below hSw KQA3.out.lt
    have g0 := gK.cell 0
    have g1 := gK.cell 1
    have g2 := gK.cell 2
    simp only [List.getElem?_cons_zero, List.getElem?_cons_succ] at g0 g1 g2
    go_simp
    first | done | with_reducible rfl
  simp only [Act.put, List.setIfInBounds_toArray, List.set_cons_zero, List.set_cons_succ]
  refine wpAnyH_ready (rs := [2]) (by kernel_rfl) (by simp) ?_
  refine AllReadyH.cons rfl (fun K hK => ?_) AllReadyH.nil
  go_simp
  refine (toE_any r3 m3 _ l3 _ ((H3.out.below (B := 0) B12.out).below (B := 0) hHeld) (by rw [HZ3.out]; exact hN3)).mono ?_
  rintro e w13 ⟨uy3, sy3, rfl, oy3, gy3, b13⟩
  have gy3 : ∀ b ∈ sy3, w12.heap.size ≤ b := fun b hb => Nat.le_trans hHeld.size (gy3 b hb)
  have bD13 := hHeld.trans (b13.mono hHeld.size)
  obtain ⟨eay3, ecy3, hvy3⟩ := ints_len oy3.ints
  rw [HZ3.out] at hvy3
  subst hvy3
  have Oy3_13 := Lib.hid oy3
  have Dx0_y3 := Lib.hid (show ∀ b ∈ sx0, b ∉ sy3 from fun b hb hc => by have h1 := Ox0_12.out.lt b hb; have h2 := gy3 b hc; omega)
  have Dy3_x0 := Lib.hid (show ∀ b ∈ sy3, b ∉ sx0 from fun b hc hb => by have h1 := Ox0_12.out.lt b hb; have h2 := gy3 b hc; omega)
  have Dx3_y3 := Lib.hid (show ∀ b ∈ sx3, b ∉ sy3 from fun b hb hc => by have h1 := Ox3_12.out.lt b hb; have h2 := gy3 b hc; omega)
  have Dy3_x3 := Lib.hid (show ∀ b ∈ sy3, b ∉ sx3 from fun b hc hb => by have h1 := Ox3_12.out.lt b hb; have h2 := gy3 b hc; omega)
  have NA3_y3 := Lib.hid (show pA3 ∉ sy3 from fun hc => by have h1 := KA3_12.out.lt; have h2 := gy3 pA3 hc; omega)
  have Nx3_y3 := Lib.hid (show px3 ∉ sy3 from fun hc => by have h1 := Kx3_12.out.lt; have h2 := gy3 px3 hc; omega)
  have Gy3 := Lib.hid (fun b hb => Nat.le_trans E12.out.size (gy3 b hb))
  have B13 := Lib.hid (B12.out.trans ((bD13).mono B12.out.size))
  have E13 := Lib.hid (E12.out.trans ((bD13).mono E12.out.size))
  have Ox0_13 := Lib.hid (Ox0_12.out.below (bD13))
  have Ox3_13 := Lib.hid (Ox3_12.out.below (bD13))
  have KA3_13 := Lib.hid (KA3_12.out.below (bD13) KA3_12.out.lt)
  have Kx3_13 := Lib.hid (Kx3_12.out.below (bD13) Kx3_12.out.lt)
  clear Ox0_12 Ox3_12 KA3_12 Kx3_12 b13 gy3 oy3
  refine hK.out _ _ (bD13) (fun hHeld => ?_)
  clear hK K
  try simp only [Act.put, List.setIfInBounds_toArray, List.set_cons_zero, List.set_cons_succ]
  refine wpAnyH_ready (rs := [3]) (by kernel_rfl) (by simp) ?_
  refine AllReadyH.cons rfl (fun K hK => ?_) AllReadyH.nil
  go_simp
  refine (eqE_any r3 m3 _ _ l3 _ Ox3_13.out.ints Oy3_13.out.ints).mono ?_
  rintro e w14 ⟨rfl, b14⟩
  have hHeld2 := hHeld.trans (b14.mono hHeld.size)
  have B14 := Lib.hid (B13.out.trans ((b14).mono B13.out.size))
  have E14 := Lib.hid (E13.out.trans ((b14).mono E13.out.size))
  have Ox0_14 := Lib.hid (Ox0_13.out.below (b14))
  have Ox3_14 := Lib.hid (Ox3_13.out.below (b14))
  have Oy3_14 := Lib.hid (Oy3_13.out.below (b14))
  have KA3_14 := Lib.hid (KA3_13.out.below (b14) KA3_13.out.lt)
  have Kx3_14 := Lib.hid (Kx3_13.out.below (b14) Kx3_13.out.lt)
  clear Ox0_13 Ox3_13 Oy3_13 KA3_13 Kx3_13 b14
  clear Oy3_14
  refine hK.out _ _ (hHeld2) (fun hHeld => ?_)
  clear hK K
  try simp only [Act.put, List.setIfInBounds_toArray, List.set_cons_zero, List.set_cons_succ]
  refine held_take (i := 4) (d := some 52) (v := ?_) rfl (by kernel_rfl) (by kernel_rfl) (by kernel_rfl) (by kernel_rfl) (fun _ _ _ h => h) (by kernel_rfl) ?_ hHeld ?_
  rotate_left
  · intro w' hSw
    go_simp
    first | done | with_reducible rfl
  simp only [Act.put, List.setIfInBounds_toArray, List.set_cons_zero, List.set_cons_succ]
  refine wpAnyH_done (by kernel_rfl) ?_ _
  clear KQx3
  clear KQA3
  go_wp2_with fail
  go_ret
  exact ⟨rfl, B14.out⟩
end Go.Proofs.Ytjjgigoehgabkaa
