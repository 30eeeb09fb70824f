/- rights(): the example of the chapter. -/
import Derived.Test.YtcjoecjijmkbaaaGreatEA
import Derived.Test.YtcjoecjijmkbaaaGreatRW
import Derived.Test.YtcjoecjijmkbaaaGreatKA
import Derived.Test.YtcjoecjijmkbaaaGreatTG
import Derived.Test.YtcjoecjijmkbaaaGreatQW
import Derived.Test.YtcjoecjijmkbaaaGreatQT
import Derived.Test.YtcjoecjijmkbaaaGreatQE
import Derived.Deep.DeepCutAuto

namespace Go.Proofs.YtcjoecjijmkbaaaGreat
open Go.RowKit
set_option linter.unusedVariables false
set_option linter.unusedSimpArgs false
theorem Bel.alloc {W a : World} (h : Bel W a) (o : Obj) : Bel W (a.alloc o) := ⟨h.b.alloc h.b.size o⟩
theorem Bel.drewN {W a : World} (h : Bel W a) (q : Nat) : Bel W (a.drewN q) := ⟨below_drewN h.b q⟩
theorem ints_two_len {w : World} {v : Value} {xs : List Int} {n : Nat} (h : Ints w v xs) (hn : xs.length = n) : ∃ a c, v = .slice a n c := by
  obtain ⟨a, c, rfl⟩ := ints_len h
  exact ⟨a, c, by rw [hn]⟩
theorem r_c1 : clockOfM (sortL.take 3) 2 = [3, 0] := by decide +kernel
theorem r_c2 : clockOfM sortL 2 = [4, 1] := by decide +kernel
theorem r_h1 : holdsM (sortL.take 3) 2 1 (-1) 0 [3, 0] = true := by decide +kernel
theorem r_h2 : holdsM sortL 2 1 (-1) 0 [4, 1] = false := by decide +kernel
theorem r_r : rightsM (sortL.take 3) 2 2 0 (-1) 0 [3, 0] = 3 := by decide +kernel
theorem r_c : ceilingM sortL 2 0 (-1) 0 [3, 0] = 15 := by decide +kernel
set_option maxRecDepth 100000 in
set_option maxHeartbeats 6400000 in
theorem rights_any (w : World) : Calls Tryz.prog 10 #[] w fun e w' => e = .returned (.bool true) ∧ Below w.heap.size w w' := by
  go_enter Tryz.func10, Tryz.ntmps10
  go_wp2_with fail
  refine (sorted_any w).mono ?_
  rintro e W ⟨v, rfl, ho, b0⟩
  obtain ⟨ts, hts, hT⟩ := ownActs_acts ho
  have hlen : ts.length = 5 := by
    have := congrArg List.length hts
    rw [List.length_map] at this
    exact this.symm
  obtain ⟨b, off, cp, rfl, hb, h5, hat⟩ : ∃ b off cp, v = .slice (some ⟨b, off, none⟩) 5 cp ∧ b < W.heap.size ∧ 5 ≤ cp ∧ ∀ i, i < 5 → ActAt W b (off + i * 11) (ts.getD i t0) := by
    rcases hT.2 with ⟨a, cap, _, h0⟩ | ⟨b, off, cp, hv, hb, hlc, hcm, hc⟩
    · rw [h0] at hlen; cases hlen
    · rw [hlen] at hv hlc hc
      exact ⟨b, off, cp, hv, hb, hlc, hc⟩
  have A5 := Lib.hid (show Acts W (.slice (some ⟨b, off, none⟩) 5 cp) sortL from ⟨ts, hts, hT⟩)
  have A3 := Lib.hid (show Acts W (.slice (some ⟨b, off, none⟩) 3 cp) (sortL.take 3) from ⟨ts.take 3, by rw [hts, List.map_take], actsT_take hT 3 (by omega)⟩)
  have a2 := hat 2 (by omega)
  have R2 := hT.1 _ (getD_mem (ts := ts) (i := 2) (by omega))
  have HA : (ts.getD 2 t0).a = sA3 := by
    rw [← getD_map (by omega), ← hts]; rfl
  obtain ⟨t, ht⟩ : ∃ t, t = ts.getD 2 t0 := ⟨_, rfl⟩
  rw [← ht] at a2 R2 HA
  clear ht hat hT hts hlen ho
  have BB := Lib.hid b0
  have h3 : 3 ≤ cp := by omega
  have h3i : (3 : Int) ≤ (cp : Int) := by omega
  have RT := Lib.hid R2
  have AT := Lib.hid a2
  clear R2 a2 b0
  go_wp2_with fail
  refine (implEyeNow2 _ (sortL.take 3) 2 _ A3.out (by constructor <;> omega)).mono ?_
  rw [r_c1]
  rintro e w1 ⟨v1, bs1, rfl, ho1, _, hb1⟩
  have I1 := Lib.hid ho1.ints
  have B1 := Lib.hid hb1
  clear ho1 hb1
  obtain ⟨a1, c1, rfl⟩ := ints_two_len I1.out (n := 2) rfl
  obtain ⟨P, hP⟩ : ∃ P, P = w1.heap.size := ⟨_, rfl⟩
  obtain ⟨W2, hW2⟩ : ∃ V, V = w1.alloc (.cells #[.int .i64 (-1), .int .i64 0, .slice a1 2 c1] 26) := ⟨_, rfl⟩
  have b2 : Below w1.heap.size w1 W2 := by rw [hW2]; exact (Below.refl _ _).alloc (Nat.le_refl _) _
  have K2 := Lib.hid (show Blk W2 P _ from by rw [hW2, hP]; exact Blk.new w1 _ _)
  have B2 := Lib.hid (B1.out.trans (b2.mono B1.out.size))
  have I2 := Lib.hid (I1.out.below (B := 0) b2)
  go_upto_region 3 with (fail)
  rw [← hP, ← hW2]
  clear hW2 hP b2 I1 B1
  have AT2 := AT.out.below B2.out hb
  have RT2 := Lib.hid (RT.out.below B2.out)
  clear AT RT
  obtain ⟨d0, d1, d2, d3, d4, d5, d6, d7, d8, d9, d10⟩ := AT2
  have CF := Lib.hid (implEyeOf2 t.val t.a W2 RT2.out.is (by rw [HA]; exact ⟨by decide, by decide⟩))
  rw [HA] at CF
  simp only [ActT.val, HA] at CF d0 d1 d3 d4 d5 d6 d7 d8 d9
  simp only [sA3] at CF d0 d1 d3 d4 d5 d6 d7 d8 d9
  go_wp2_with fail
  refine CF.out.mono ?_
  rintro e w3 ⟨v3, bs3, rfl, ho3, _, hb3⟩
  have I3 := Lib.hid (show Ints w3 v3 [2, 0] from ho3.ints)
  have hP2 := K2.out.lt
  have K3 := Lib.hid (K2.out.below hb3 hP2)
  have J3 := Lib.hid (I2.out.below (B := 0) hb3)
  have B3 := Lib.hid (B2.out.trans (hb3.mono B2.out.size))
  clear ho3 hb3 CF RT2 d0 d1 d2 d3 d4 d5 d6 d7 d8 d9 d10 K2 I2 B2
  obtain ⟨a3, c3, rfl⟩ := ints_two_len I3.out (n := 2) rfl
  obtain ⟨Q, hQ⟩ : ∃ Q, Q = w3.heap.size := ⟨_, rfl⟩
  obtain ⟨W4, hW4⟩ : ∃ V, V = w3.alloc (.cells #[.int .i64 0, .int .i64 3, .slice a3 2 c3] 26) := ⟨_, rfl⟩
  have b4 : Below w3.heap.size w3 W4 := by rw [hW4]; exact (Below.refl _ _).alloc (Nat.le_refl _) _
  have hP3 := K3.out.lt
  have KQ := Lib.hid (show Blk W4 Q _ from by rw [hW4, hQ]; exact Blk.new w3 _ _)
  have KP := Lib.hid (K3.out.below b4 hP3)
  have B4 := Lib.hid (B3.out.trans (b4.mono B3.out.size))
  have J4 := Lib.hid (J3.out.below (B := 0) b4)
  have hPl := KP.out.lt
  have hQl := KQ.out.lt
  have X3 := Lib.hid (A3.out.below B4.out)
  have X5 := Lib.hid (A5.out.below B4.out)
  clear I3 K3 J3 B3 hP2 hP3 b4
  go_upto_region 4 with (fail)
  rw [← hQ, ← hW4]
  clear hW4 hQ A3 A5
  have e0 := fun W' (h : Bel W4 W') => (show W'.cell? ⟨P, 0, none⟩ = some (.int .i64 (-1)) from (KP.out.below h.b hPl).cell 0)
  have e1 := fun W' (h : Bel W4 W') => (show W'.cell? ⟨P, 1, none⟩ = some (.int .i64 0) from (KP.out.below h.b hPl).cell 1)
  have e2 := fun W' (h : Bel W4 W') => (show W'.cell? ⟨P, 2, none⟩ = some (.slice a1 2 c1) from (KP.out.below h.b hPl).cell 2)
  have f1 := fun W' (h : Bel W4 W') => (show W'.cell? ⟨Q, 1, none⟩ = some (.int .i64 3) from (KQ.out.below h.b hQl).cell 1)
  have SB := Lib.hid (show Bel W4 W4.drew from (⟨Below.refl _ _⟩ : Bel W4 W4).drew)
  have SL := Lib.hid (show Bel W4 (W4.alloc (.cells #[.int .i64 3, .int .i64 0] 3)).drew from (Bel.alloc ⟨Below.refl _ _⟩ _).drew)
  have CS := Lib.hid (sameInts_any (.slice a1 2 c1) (.slice (some ⟨W4.heap.size, 0, none⟩) 2 2) [3, 0] [3, 0] (W4.alloc (.cells #[.int .i64 3, .int .i64 0] 3)).drew (J4.out.below (B := 0) SL.out.b) ((ints_lit2 W4 3 0).below (B := 0) (Below.refl _ _).drew))
  rw [show eqB [3, 0] [3, 0] = true from rfl] at CS
  have CH := Lib.hid (fun W' (h : Bel W4 W') => implHolds_any (.slice (some ⟨b, off, none⟩) 3 cp) (.slice a1 2 c1) (sortL.take 3) [3, 0] 2 1 (-1) 0 W' (X3.out.below h.b) (J4.out.below (B := 0) h.b) (by constructor <;> omega))
  rw [r_h1] at CH
  have CN := Lib.hid (fun W' (h : Bel W4 W') => implEyeNow2 (.slice (some ⟨b, off, none⟩) 5 cp) sortL 2 W' (X5.out.below h.b) (by constructor <;> omega))
  rw [r_c2] at CN
  have CG := Lib.hid (fun W' (h : Bel W4 W') a c (hi : Ints W' (.slice a 2 c) [4, 1]) => implHolds_any (.slice (some ⟨b, off, none⟩) 5 cp) (.slice a 2 c) sortL [4, 1] 2 1 (-1) 0 W' (X5.out.below h.b) hi (by constructor <;> omega))
  rw [r_h2] at CG
  have CR := Lib.hid (fun W' (h : Bel W4 W') => implRights_any (.slice (some ⟨b, off, none⟩) 3 cp) (.slice a1 2 c1) (sortL.take 3) [3, 0] 2 2 0 (-1) 0 W' (X3.out.below h.b) (J4.out.below (B := 0) h.b) (by constructor <;> omega))
  rw [r_r] at CR
  have CC := Lib.hid (fun W' (h : Bel W4 W') => implCeiling_any (.slice (some ⟨b, off, none⟩) 5 cp) (.slice a1 2 c1) sortL [3, 0] 2 0 (-1) 0 W' (X5.out.below h.b) (J4.out.below (B := 0) h.b) (by constructor <;> omega))
  rw [r_c] at CC
  clear X3 X5 J4
  go_wp2_with fail
  go_region_held3 (fun w' => Bel W4 w')
    (first | (with_reducible exact SB.out) | (with_reducible assumption) | (with_reducible exact SL.out))
    (first
      | (go_at_call 34; (with_reducible refine CS.out.mono ?_); rintro e wz ⟨rfl, qz, hqz⟩; have bz : Bel W4 wz := (by rw [hqz]; exact SL.out.drewN qz); clear hqz)
      | (go_at_call 8; (with_reducible refine (CH.out _ (by with_reducible first | exact SB.out | assumption)).mono ?_); rintro e wz ⟨rfl, hbz⟩; have bz := Bel.step (by with_reducible first | exact SB.out | assumption) hbz; clear hbz)
      | (go_at_call 22; (with_reducible refine (CN.out _ (by with_reducible first | exact SB.out | assumption)).mono ?_); rintro e wz ⟨vz, bsz, rfl, hoz, _, hbz⟩; have iz := Lib.hid hoz.ints; obtain ⟨az, cz, hvz⟩ := ints_two_len iz.out (n := 2) rfl; subst hvz; have bz := Bel.step (by with_reducible first | exact SB.out | assumption) hbz; clear hbz hoz)
      | (go_at_call 8; (with_reducible refine (CG.out _ (by with_reducible first | exact SB.out | assumption) _ _ (by with_reducible exact iz.out)).mono ?_); rintro e wy ⟨rfl, hby⟩; have by_ := Bel.step (by with_reducible first | exact SB.out | assumption) hby; clear hby)
      | (go_at_call 13; (with_reducible refine (CR.out _ (by with_reducible first | exact SB.out | assumption)).mono ?_); rintro e wz ⟨rfl, hbz⟩; have bz := Bel.step (by with_reducible first | exact SB.out | assumption) hbz; clear hbz)
      | (go_at_call 15; (with_reducible refine (CC.out _ (by with_reducible first | exact SB.out | assumption)).mono ?_); rintro e wz ⟨rfl, hbz⟩; have bl := Bel.step (by with_reducible first | exact SB.out | assumption) hbz; clear hbz))
  have BL := Lib.hid bl.b
  clear e0 e1 e2 f1 SB SL CS CH CN CG CR CC
  go_wp2_with fail
  go_ret
  exact ⟨rfl, BB.out.trans ((B4.out.trans (BL.out.mono B4.out.size)).mono BB.out.size)⟩
end Go.Proofs.YtcjoecjijmkbaaaGreat
