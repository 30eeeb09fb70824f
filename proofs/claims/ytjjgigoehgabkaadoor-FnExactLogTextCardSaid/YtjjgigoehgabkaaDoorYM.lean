/- The law FnExactLogText. -/
import Derived.Test.YtjjgigoehgabkaaDoorYK
import Derived.Test.YtjjgigoehgabkaaDoorHG
import Derived.Test.YtjjgigoehgabkaaDoorNE
import Derived.Test.YtjjgigoehgabkaaDoorKA
import Derived.Test.YtjjgigoehgabkaaDoorTA
import Derived.Deep.DeepCutAuto






namespace Go.Proofs.YtjjgigoehgabkaaDoor
open Go.RowKit
set_option linter.unusedVariables false
set_option linter.unusedSimpArgs false

set_option maxRecDepth 100000 in
set_option maxHeartbeats 12800000 in
theorem law_logText (v0 : Value) (l0 : List ActM) (w0 : World) (h0 : Acts w0 v0 l0) (hB0 : ∀ x ∈ l0, ActB x) (hTab : Tab w0) :
    Calls Tryd.prog 5 #[v0] w0 fun e w' => e = .returned (.bool true) ∧ Below w0.heap.size w0 w' := by
  have H0 := Lib.hid h0
  have HTAB := Lib.hid hTab
  obtain ⟨M0, hM0⟩ : ∃ M, M = (⟨(logL l0).toArray⟩ : ByteArray) := ⟨_, rfl⟩
  have CS := Lib.hid (fun W u0 (h0 : Acts W u0 l0) (s0 : SmallL l0) (z0 : szL l0 ≤ 9437184) => specLogText2 u0 l0 W h0 s0 z0 hB0)
  have CI := Lib.hid (fun W u0 (h0 : Acts W u0 l0) (s0 : SmallL l0) (z0 : szL l0 ≤ 9437184) (hT : Tab W) => implLogText2 u0 l0 W h0 s0 z0 hB0 hT)
  simp only [← hM0] at CS CI
  clear hM0 h0
  have B0 := Lib.hid (Below.refl w0.heap.size w0)
  go_enter Tryd.func5, Tryd.ntmps5
  go_wp2_with fail
  refine (szActS_any _ l0 1048576 _ (H0.out.below B0.out) (by omega) (by omega)).mono ?_
  rintro e w1 ⟨r0, rfl, ra0, rb0, rs0, b1⟩
  have B1 := Lib.hid (B0.out.trans ((b1).mono B0.out.size))
  have RS0 := Lib.hid rs0
  clear b1 rs0
  by_cases hr0 : r0 < 0
  · go_wp2_with fail
    go_ret
    exact ⟨rfl, B1.out⟩
  have SM0 := Lib.hid (RS0.out (by omega)).1
  have hz0 : szL l0 ≤ 9437184 := by have h1 := (RS0.out (by omega)).2; have h2 := szL_tot l0; omega
  obtain ⟨Z0, hZ0⟩ : ∃ Z, szL l0 = Z := ⟨_, rfl⟩
  rw [hZ0] at hz0
  have HZ0 := Lib.hid hZ0
  clear hZ0
  go_wp2_with fail
  refine (toL_any _ l0 _ (H0.out.below B1.out) SM0.out).mono ?_
  rintro e w2 ⟨us0, ss0, rfl, os0, gs0, b2⟩
  have Os0_2 := Lib.hid os0
  have B2 := Lib.hid (B1.out.trans ((b2).mono B1.out.size))
  clear b2 gs0 os0
  go_wp2_with fail
  refine (CS.out _ _ Os0_2.out.acts SM0.out (by rw [HZ0.out]; exact hz0)).mono ?_
  rintro e w3 ⟨rfl, b3⟩
  have B3 := Lib.hid (B2.out.trans ((b3).mono B2.out.size))
  clear Os0_2 b3
  have E3 := Lib.hid (Below.refl w3.heap.size w3)
  go_wp2_with fail
  refine (toL_any _ l0 _ (H0.out.below B3.out) SM0.out).mono ?_
  rintro e w4 ⟨ux0, sx0, rfl, ox0, gx0, b4⟩
  have Ox0_4 := Lib.hid ox0
  have Gx0 := Lib.hid (fun b hb => Nat.le_trans E3.out.size (gx0 b hb))
  have B4 := Lib.hid (B3.out.trans ((b4).mono B3.out.size))
  have E4 := Lib.hid (E3.out.trans ((b4).mono E3.out.size))
  clear b4 gx0 ox0
  go_wp2_with fail
  refine (CI.out _ _ Ox0_4.out.acts SM0.out (by rw [HZ0.out]; exact hz0) (HTAB.out.below B4.out)).mono ?_
  rintro e w5 ⟨rfl, b5⟩
  have B5 := Lib.hid (B4.out.trans ((b5).mono B4.out.size))
  have E5 := Lib.hid (E4.out.trans ((b5).mono E4.out.size))
  have Ox0_5 := Lib.hid (Ox0_4.out.below (b5))
  clear Ox0_4 b5
  go_wp2_with fail
  refine (toL_any _ l0 _ (H0.out.below B5.out) SM0.out).mono ?_
  rintro e w6 ⟨uy0, sy0, rfl, oy0, gy0, b6⟩
  have Oy0_6 := Lib.hid oy0
  have Dx0_y0 := Lib.hid (show ∀ b ∈ sx0, b ∉ sy0 from fun b hb hc => by have h1 := Ox0_5.out.lt b hb; have h2 := gy0 b hc; omega)
  have Dy0_x0 := Lib.hid (show ∀ b ∈ sy0, b ∉ sx0 from fun b hc hb => by have h1 := Ox0_5.out.lt b hb; have h2 := gy0 b hc; omega)
  have Gy0 := Lib.hid (fun b hb => Nat.le_trans E5.out.size (gy0 b hb))
  have B6 := Lib.hid (B5.out.trans ((b6).mono B5.out.size))
  have E6 := Lib.hid (E5.out.trans ((b6).mono E5.out.size))
  have Ox0_6 := Lib.hid (Ox0_5.out.below (b6))
  clear Ox0_5 b6 gy0 oy0
  go_wp2_with fail
  refine (eqActS_any _ _ l0 _ Ox0_6.out.acts Oy0_6.out.acts).mono ?_
  rintro e w7 ⟨rfl, b7⟩
  have B7 := Lib.hid (B6.out.trans ((b7).mono B6.out.size))
  have E7 := Lib.hid (E6.out.trans ((b7).mono E6.out.size))
  have Ox0_7 := Lib.hid (Ox0_6.out.below (b7))
  have Oy0_7 := Lib.hid (Oy0_6.out.below (b7))
  clear Ox0_6 Oy0_6 b7
  clear Oy0_7
  go_wp2_with fail
  go_ret
  exact ⟨rfl, B7.out⟩
end Go.Proofs.YtjjgigoehgabkaaDoor
