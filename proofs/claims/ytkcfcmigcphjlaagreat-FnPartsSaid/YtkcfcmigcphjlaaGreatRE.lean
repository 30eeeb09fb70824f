/- sets(): the example of the chapter. -/
import Derived.Test.YtkcfcmigcphjlaaGreatRD
import Derived.Test.YtkcfcmigcphjlaaGreatGE
import Derived.Test.YtkcfcmigcphjlaaGreatGF
import Derived.Test.YtkcfcmigcphjlaaGreatGG
import Derived.Test.YtkcfcmigcphjlaaGreatGI
import Derived.Test.YtkcfcmigcphjlaaGreatGJ
import Derived.Test.YtkcfcmigcphjlaaGreatRW







namespace Go.Proofs.YtkcfcmigcphjlaaGreat
open Go.RowKit
set_option linter.unusedVariables false

theorem sets_add : addL (sortL.take 4) 2 sA4 = sortL ∧ addB (sortL.take 4) 2 sA4 = true := by decide +kernel
theorem sets_un : (unL (sortL.take 3) sortL 2).length = 5 ∧ unB (sortL.take 3) sortL 2 = true := by decide +kernel
theorem sets_ok : setOkM sortL 2 = true := by decide +kernel
theorem sets_clock : eqB (clockOfM sortL 2) [4, 1] = true := by decide +kernel
theorem sets_part : (partOfM sortL 2 [3, 0]).length = 3 := by decide +kernel
theorem sets_lacks : (lacksM sortL 2 [3, 0]).length = 2 := by decide +kernel

set_option maxRecDepth 100000 in
set_option maxHeartbeats 3200000 in
theorem sets_any (w : World) : Calls Tryz.prog 11 #[] w fun e w' => e = .returned (.bool true) ∧ Below w.heap.size w w' := by
  go_enter Tryz.func11, Tryz.ntmps11
  go_wp2_with fail
  refine (sorted_any w).mono ?_
  rintro e W ⟨v, rfl, ho, b0⟩
  obtain ⟨ts, hts, hT⟩ := ownActs_acts ho
  have hlen : ts.length = 5 := by
    have := congrArg List.length hts
    rw [List.length_map] at this
    exact this.symm
  obtain ⟨b, off, cp, rfl, hb, h5, hat⟩ : ∃ b off cp, v = .slice (some ⟨b, off, none⟩) 5 cp ∧ b < W.heap.size ∧ 5 ≤ cp ∧ ∀ i, i < 5 → ActAt W b (off + i * 11) (ts.getD i t0) := by
    rcases hT.2 with ⟨a, cap, _, h0⟩ | ⟨b, off, cp, hv, hb, hlc, hcm, hc⟩
    · rw [h0] at hlen; cases hlen
    · rw [hlen] at hv hlc hc
      exact ⟨b, off, cp, hv, hb, hlc, hc⟩
  have A5 := Lib.hid (show Acts W (.slice (some ⟨b, off, none⟩) 5 cp) sortL from ⟨ts, hts, hT⟩)
  have A4 := Lib.hid (show Acts W (.slice (some ⟨b, off, none⟩) 4 cp) (sortL.take 4) from ⟨ts.take 4, by rw [hts, List.map_take], actsT_take hT 4 (by omega)⟩)
  have A3 := Lib.hid (show Acts W (.slice (some ⟨b, off, none⟩) 3 cp) (sortL.take 3) from ⟨ts.take 3, by rw [hts, List.map_take], actsT_take hT 3 (by omega)⟩)
  have a4 := hat 4 (by omega)
  have R4 := hT.1 _ (getD_mem (ts := ts) (i := 4) (by omega))
  have HA : (ts.getD 4 t0).a = sA4 := by
    rw [← getD_map (by omega), ← hts]; rfl
  obtain ⟨t, ht⟩ : ∃ t, t = ts.getD 4 t0 := ⟨_, rfl⟩
  rw [← ht] at a4 R4 HA
  clear ht hat hT hts hlen ho
  have BB := Lib.hid b0
  have h4 : 4 ≤ cp := by omega
  have h4i : (4 : Int) ≤ (cp : Int) := by omega
  have C1 := Lib.hid (fun W' (h : Bel W W') => implAddAct_any (.slice (some ⟨b, off, none⟩) 4 cp) (sortL.take 4) 2 t.val t.a W' (A4.out.below h.b) (by constructor <;> omega) (R4.below h.b).is)
  simp only [ActT.val, HA, sets_add.1, sets_add.2] at C1
  have CE := fun W' (h : Bel W W') => a4.below h.b hb
  have e0 := fun W' (h : Bel W W') => (CE W' h).c0
  have e1 := fun W' (h : Bel W W') => (CE W' h).c1
  have e2 := fun W' (h : Bel W W') => (CE W' h).c2
  have e3 := fun W' (h : Bel W W') => (CE W' h).c3
  have e4 := fun W' (h : Bel W W') => (CE W' h).c4
  have e5 := fun W' (h : Bel W W') => (CE W' h).c5
  have e6 := fun W' (h : Bel W W') => (CE W' h).c6
  have e7 := fun W' (h : Bel W W') => (CE W' h).c7
  have e8 := fun W' (h : Bel W W') => (CE W' h).c8
  have e9 := fun W' (h : Bel W W') => (CE W' h).c9
  have e10 := fun W' (h : Bel W W') => (CE W' h).c10
  have SB0 := Lib.hid (show Bel W W.drew from (⟨Below.refl _ _⟩ : Bel W W).drew)
  clear CE a4
  simp only [HA] at e0 e1 e2 e3 e4 e5 e6 e7 e8 e9 e10
  go_wp2_with fail
  go_region_held3 (fun w' => Bel W w')
    (first | (with_reducible exact SB0.out) | (with_reducible assumption))
    (first | (go_at_call 17; (with_reducible refine (C1.out _ (by with_reducible first | exact SB0.out | assumption)).mono ?_); rintro e wz ⟨vz, bs, rfl, hown, _, hbz⟩; have bz := Bel.step (by with_reducible first | exact SB0.out | assumption) hbz; obtain ⟨xz, yz, hxz⟩ : ∃ x y, vz = .slice x 5 y := acts_len hown.acts; subst hxz; clear hbz hown))
  have B1 := Lib.hid bz.b
  clear e0 e1 e2 e3 e4 e5 e6 e7 e8 e9 e10 C1 SB0 bz
  go_wp2_with fail
  refine (implUnion_any _ _ (sortL.take 3) sortL 2 _ (A3.out.below B1.out) (A5.out.below B1.out) (by constructor <;> omega)).mono ?_
  rw [sets_un.2]
  rintro e w2 ⟨v2, bs2, rfl, hown, _, hb2⟩
  obtain ⟨x2, y2, hx2⟩ : ∃ x y, v2 = .slice x (unL (sortL.take 3) sortL 2).length y := acts_len hown.acts
  rw [sets_un.1] at hx2
  subst hx2
  have B2 := Lib.hid (B1.out.trans (hb2.mono B1.out.size))
  clear hb2 hown B1
  go_wp2_with fail
  refine (implSetOk_any _ sortL 2 _ (A5.out.below B2.out) (by omega)).mono ?_
  rw [sets_ok]
  rintro e w3 ⟨rfl, hb3⟩
  have B3 := Lib.hid (B2.out.trans (hb3.mono B2.out.size))
  clear hb3 B2
  go_wp2_with fail
  refine (implClockOf_any _ sortL 2 _ (A5.out.below B3.out) (by constructor <;> omega)).mono ?_
  rintro e w4 ⟨g4, v4, rfl, _, ho4, hb4⟩
  obtain ⟨x4, n4, y4, rfl⟩ : ∃ x n y, v4 = .slice x n y := by
    obtain ⟨x, y, h⟩ := ints_len (own_ints ho4)
    exact ⟨x, _, y, h⟩
  have I4 := Lib.hid (own_ints ho4)
  have B4 := Lib.hid (B3.out.trans (hb4.mono B3.out.size))
  clear ho4 hb4 B3
  go_wp2_with fail
  refine (sameInts_any _ _ (clockOfM sortL 2) [4, 1] _ (I4.out.below (B := 0) ((Below.refl _ _).alloc (Nat.le_refl _) _)) (ints_lit2 w4 4 1)).mono ?_
  rw [sets_clock]
  rintro e w5 ⟨rfl, q5, rfl⟩
  obtain ⟨w6, hw6⟩ : ∃ w6, w6 = (w4.alloc (.cells #[.int .i64 4, .int .i64 1] 3)).drewN q5 := ⟨_, rfl⟩
  have B6 := Lib.hid (show Below W.heap.size W w6 from by rw [hw6]; exact below_drewN (B4.out.alloc B4.out.size _) q5)
  rw [← hw6]
  clear hw6 B4 I4
  go_wp2_with fail
  refine (implPart_any _ _ sortL [3, 0] 2 _ (A5.out.below (B6.out.alloc B6.out.size _)) (ints_lit2 w6 3 0) (by constructor <;> omega)).mono ?_
  rintro e w7 ⟨v7, bs7, rfl, ho7, _, hb7⟩
  obtain ⟨x7, y7, hx7⟩ := acts_len ho7.acts
  rw [sets_part] at hx7
  subst hx7
  have B7 := Lib.hid ((B6.out.alloc B6.out.size (.cells #[.int .i64 3, .int .i64 0] 3)).trans (hb7.mono (by have := B6.out.size; simp; omega)))
  clear ho7 hb7 B6
  go_wp2_with fail
  refine (implLacks_any _ _ sortL [3, 0] 2 _ (A5.out.below (B7.out.alloc B7.out.size _)) (ints_lit2 w7 3 0) (by constructor <;> omega)).mono ?_
  rintro e w8 ⟨v8, bs8, rfl, ho8, _, hb8⟩
  obtain ⟨x8, y8, hx8⟩ := acts_len ho8.acts
  rw [sets_lacks] at hx8
  subst hx8
  have B8 := Lib.hid ((B7.out.alloc B7.out.size (.cells #[.int .i64 3, .int .i64 0] 3)).trans (hb8.mono (by have := B7.out.size; simp; omega)))
  clear ho8 hb8 B7
  go_wp2_with fail
  go_ret
  exact ⟨rfl, BB.out.trans (B8.out.mono BB.out.size)⟩
end Go.Proofs.YtkcfcmigcphjlaaGreat
