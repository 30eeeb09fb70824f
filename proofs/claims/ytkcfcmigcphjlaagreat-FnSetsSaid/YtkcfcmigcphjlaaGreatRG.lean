/- The law FnSets. -/
import Derived.Test.YtkcfcmigcphjlaaGreatRC
import Derived.Test.YtkcfcmigcphjlaaGreatRE
import Derived.Test.YtkcfcmigcphjlaaGreatRF
import Derived.Test.YtkcfcmigcphjlaaGreatCI




namespace Go.Proofs.YtkcfcmigcphjlaaGreat
open Go.RowKit
set_option linter.unusedVariables false

theorem Bel.base {W w' : World} (h : Below W.heap.size W w') : Bel W w' := ⟨h⟩
set_option maxRecDepth 100000 in
set_option maxHeartbeats 6400000 in
theorem law_FnSets (a : Option Addr) (len cap : Nat) (w : World) (hm : len ≤ 9223372036854775807) (hc : Code w w.heap.size a len) : Calls Tryz.prog 3 #[.slice a len cap] w fun e w' => e = .returned (.bool true) ∧ Below w.heap.size w w' := by
  have HC := Lib.hid hc
  clear hc
  go_enter Tryz.func3, Tryz.ntmps3
  go_wp2_with fail
  refine (drawSetOk_any a len cap _ hm HC.out).mono ?_
  rintro e W ⟨v, l, n, rfl, ha, hs, hl61, n0, n5, b0⟩
  obtain ⟨k, rfl⟩ := Int.eq_ofNat_of_zero_le n0
  obtain ⟨x, y, rfl⟩ := acts_len ha
  have B0 := Lib.hid b0
  have A0 := Lib.hid ha
  obtain ⟨m, hmm⟩ : ∃ m, m = l.length := ⟨_, rfl⟩
  rw [← hmm] at A0 ⊢
  have HM := Lib.hid hmm
  have hm61 : m ≤ 61 := by omega
  clear ha hs b0 hl61 hmm HC
  go_wp2_with fail
  refine (implSetOk_any _ l k _ A0.out (by omega)).mono ?_
  rintro e w1 ⟨rfl, b1⟩
  have B1 := Lib.hid b1
  clear b1
  go_wp2_with fail
  refine (setOk_any _ l k _ (A0.out.below B1.out) (by omega)).mono ?_
  rintro e w2 ⟨rfl, b2⟩
  have B2 := Lib.hid (B1.out.trans (b2.mono B1.out.size))
  clear b2 B1
  cases hok : setOkM l k
  · have HO := Lib.hid hok
    clear hok
    go_wp2_with fail
    refine (implClockOf_any _ l k _ (A0.out.below B2.out) (by constructor <;> omega)).mono ?_
    rintro e w3 ⟨g3, v3, rfl, _, ho3, hb3⟩
    obtain ⟨x3, y3, h3⟩ : ∃ x y, v3 = .slice x (clockOfM l k).length y := ints_len (own_ints ho3)
    rw [show clockOfM l k = [] from by unfold clockOfM; rw [HO.out]; rfl] at h3
    simp only [List.length_nil] at h3
    subst h3
    have B3 := Lib.hid (B2.out.trans (hb3.mono B2.out.size))
    clear ho3 hb3 B2
    go_wp2_with fail
    refine (sets_any _).mono ?_
    rintro e w4 ⟨rfl, hb4⟩
    have B4 := Lib.hid (B3.out.trans (hb4.mono B3.out.size))
    clear hb4 B3
    go_wp2_with fail
    go_ret
    exact ⟨rfl, B0.out.trans (B4.out.mono B0.out.size)⟩
  · have HO := Lib.hid hok
    clear hok
    obtain ⟨ts, hts, hT⟩ := A0.out
    have hlen : m = ts.length := by rw [HM.out, hts]; simp
    by_cases h0 : 0 < m
    · obtain ⟨b, off, cp, hx, hb, hat⟩ : ∃ b off cp, Value.slice x m y = .slice (some ⟨b, off, none⟩) m cp ∧ b < W.heap.size ∧ ∀ i, i < m → ActAt W b (off + i * 11) (ts.getD i t0) := by
        rcases hT.2 with ⟨a, cap, _, hz⟩ | ⟨b, off, cp, hv, hb, hlc, hcm, hc⟩
        · rw [hz] at hlen; simp at hlen; omega
        · rw [← hlen] at hv hc
          exact ⟨b, off, cp, hv, hb, hc⟩
      simp only [Value.slice.injEq, true_and] at hx
      obtain ⟨rfl, rfl⟩ := hx
      have HAT := Lib.hid hat
      have HTS := Lib.hid hts
      have HR := Lib.hid (fun i (hi : i < m) => hT.1 _ (getD_mem (ts := ts) (i := i) (by omega)))
      have HI := Lib.hid (fun i (hi : i < m) => (show (ts.getD i t0).a ∈ l from by rw [hts]; exact List.mem_map.2 ⟨_, getD_mem (by omega), rfl⟩))
      clear hat hts hT hlen
      go_wp2
      go_loopw [6] (fun iv wr => ∃ i : Nat, i ≤ m ∧ iv = .int .i64 i ∧ Hid (Below W.heap.size W wr)) (fun iv _ => m - (intOf iv).toNat)
      case atStart => exact ⟨0, Nat.zero_le _, rfl, B2⟩
      case round =>
        obtain ⟨i, hi, rfl, hbel⟩ := hrel
        clear B2
        by_cases hlt : i < m
        · go_wp2
          go_loopw [7] (fun jv wr => ∃ j : Nat, j ≤ m ∧ jv = .int .i64 j ∧ Hid (Below W.heap.size W wr)) (fun jv _ => m - (intOf jv).toNat)
          case atStart => exact ⟨0, Nat.zero_le _, rfl, hbel⟩
          case round =>
            obtain ⟨j, hj, rfl, hbel2⟩ := hrel
            by_cases hjt : j < m
            · have SB := Lib.hid (Bel.base hbel2.out).drew
              have Rp := Lib.hid (HR.out i hlt)
              have Ip := Lib.hid (HI.out i hlt)
              have ap := HAT.out i hlt
              obtain ⟨Tp, hTp⟩ : ∃ T, T = ts.getD i t0 := ⟨_, rfl⟩
              rw [← hTp] at Rp Ip ap
              clear hTp
              obtain ⟨xp, mp, yp, up, kp, zp, hdp, hsp⟩ := slice_of Rp.out
              obtain ⟨⟨p0, p1, p2, p3, p4, p5, p6, p7, p8, p9, p10⟩, vdp, vsp⟩ := Tp
              simp only at hdp hsp
              subst hdp hsp
              have c0 := fun W' (h : Bel W W') => (ap.below h.b hb).c0
              have c1 := fun W' (h : Bel W W') => (ap.below h.b hb).c1
              have c2 := fun W' (h : Bel W W') => (ap.below h.b hb).c2
              have c3 := fun W' (h : Bel W W') => (ap.below h.b hb).c3
              have c4 := fun W' (h : Bel W W') => (ap.below h.b hb).c4
              have c5 := fun W' (h : Bel W W') => (ap.below h.b hb).c5
              have c6 := fun W' (h : Bel W W') => (ap.below h.b hb).c6
              have c7 := fun W' (h : Bel W W') => (ap.below h.b hb).c7
              have c8 := fun W' (h : Bel W W') => (ap.below h.b hb).c8
              have c9 := fun W' (h : Bel W W') => (ap.below h.b hb).c9
              have c10 := fun W' (h : Bel W W') => (ap.below h.b hb).c10
              clear ap
              have Rq := Lib.hid (HR.out j hjt)
              have Iq := Lib.hid (HI.out j hjt)
              have aq := HAT.out j hjt
              obtain ⟨Tq, hTq⟩ : ∃ T, T = ts.getD j t0 := ⟨_, rfl⟩
              rw [← hTq] at Rq Iq aq
              clear hTq
              obtain ⟨xq, mq, yq, uq, kq, zq, hdq, hsq⟩ := slice_of Rq.out
              obtain ⟨⟨q0, q1, q2, q3, q4, q5, q6, q7, q8, q9, q10⟩, vdq, vsq⟩ := Tq
              simp only at hdq hsq
              subst hdq hsq
              have d0 := fun W' (h : Bel W W') => (aq.below h.b hb).c0
              have d1 := fun W' (h : Bel W W') => (aq.below h.b hb).c1
              have d2 := fun W' (h : Bel W W') => (aq.below h.b hb).c2
              have d3 := fun W' (h : Bel W W') => (aq.below h.b hb).c3
              have d4 := fun W' (h : Bel W W') => (aq.below h.b hb).c4
              have d5 := fun W' (h : Bel W W') => (aq.below h.b hb).c5
              have d6 := fun W' (h : Bel W W') => (aq.below h.b hb).c6
              have d7 := fun W' (h : Bel W W') => (aq.below h.b hb).c7
              have d8 := fun W' (h : Bel W W') => (aq.below h.b hb).c8
              have d9 := fun W' (h : Bel W W') => (aq.below h.b hb).c9
              have d10 := fun W' (h : Bel W W') => (aq.below h.b hb).c10
              clear aq
              have CK := Lib.hid (fun W' (h : Bel W W') => implKnows_any _ _ _ _ W' (Rp.out.below h.b).is (Rq.out.below h.b).is)
              have CA := Lib.hid (fun W' (h : Bel W W') => implAhead_any _ _ _ _ W' (Rq.out.below h.b).is (Rp.out.below h.b).is)
              have KA := Lib.hid (set_knows HO.out Ip.out Iq.out)
              simp only [ActT.val] at CK CA
              simp only at KA
              generalize hkz : knowsM _ _ = kz at CK KA
              generalize haz : aheadM _ _ = az at CA KA
              clear hkz haz
              cases kz
              · go_wp2_with fail
                refine wp_region_held_drew (S := fun w' => Bel W w') (by kernel_rfl) (SB.out) (fun hHeld => ?_)
                refine held_take (i := 0) (d := some 43) (v := ?_) rfl (by kernel_rfl) (by kernel_rfl) (by kernel_rfl) (by kernel_rfl) (fun _ _ _ h => h) (by kernel_rfl) ?_ hHeld ?_
                rotate_left
                · intro w' hSw
                  go_simp
                  first | done | with_reducible rfl
                simp only [Act.put, List.setIfInBounds_toArray, List.set_cons_zero, List.set_cons_succ]
                refine held_take (i := 1) (d := some 44) (v := ?_) rfl (by kernel_rfl) (by kernel_rfl) (by kernel_rfl) (by kernel_rfl) (fun _ _ _ h => h) (by kernel_rfl) ?_ hHeld ?_
                rotate_left
                · intro w' hSw
                  go_simp
                  first | done | with_reducible rfl
                simp only [Act.put, List.setIfInBounds_toArray, List.set_cons_zero, List.set_cons_succ]
                refine held_take (i := 2) (d := some 45) (v := ?_) rfl (by kernel_rfl) (by kernel_rfl) (by kernel_rfl) (by kernel_rfl) (fun _ _ _ h => h) (by kernel_rfl) ?_ hHeld ?_
                rotate_left
                · intro w' hSw
                  go_simp
                  first | done | with_reducible rfl
                simp only [Act.put, List.setIfInBounds_toArray, List.set_cons_zero, List.set_cons_succ]
                refine held_take (i := 3) (d := some 46) (v := ?_) rfl (by kernel_rfl) (by kernel_rfl) (by kernel_rfl) (by kernel_rfl) (fun _ _ _ h => h) (by kernel_rfl) ?_ hHeld ?_
                rotate_left
                · intro w' hSw
                  have e0 := c0 w' hSw
                  have e1 := c1 w' hSw
                  have e2 := c2 w' hSw
                  have e3 := c3 w' hSw
                  have e4 := c4 w' hSw
                  have e5 := c5 w' hSw
                  have e6 := c6 w' hSw
                  have e7 := c7 w' hSw
                  have e8 := c8 w' hSw
                  have e9 := c9 w' hSw
                  have e10 := c10 w' hSw
                  go_simp
                  first | done | with_reducible rfl
                simp only [Act.put, List.setIfInBounds_toArray, List.set_cons_zero, List.set_cons_succ]
                refine held_take (i := 4) (d := some 47) (v := ?_) rfl (by kernel_rfl) (by kernel_rfl) (by kernel_rfl) (by kernel_rfl) (fun _ _ _ h => h) (by kernel_rfl) ?_ hHeld ?_
                rotate_left
                · intro w' hSw
                  go_simp
                  first | done | with_reducible rfl
                simp only [Act.put, List.setIfInBounds_toArray, List.set_cons_zero, List.set_cons_succ]
                refine held_take (i := 5) (d := some 48) (v := ?_) rfl (by kernel_rfl) (by kernel_rfl) (by kernel_rfl) (by kernel_rfl) (fun _ _ _ h => h) (by kernel_rfl) ?_ hHeld ?_
                rotate_left
                · intro w' hSw
                  go_simp
                  first | done | with_reducible rfl
                simp only [Act.put, List.setIfInBounds_toArray, List.set_cons_zero, List.set_cons_succ]
                refine held_take (i := 6) (d := some 49) (v := ?_) rfl (by kernel_rfl) (by kernel_rfl) (by kernel_rfl) (by kernel_rfl) (fun _ _ _ h => h) (by kernel_rfl) ?_ hHeld ?_
                rotate_left
                · intro w' hSw
                  go_simp
                  first | done | with_reducible rfl
                simp only [Act.put, List.setIfInBounds_toArray, List.set_cons_zero, List.set_cons_succ]
                refine held_take (i := 7) (d := some 50) (v := ?_) rfl (by kernel_rfl) (by kernel_rfl) (by kernel_rfl) (by kernel_rfl) (fun _ _ _ h => h) (by kernel_rfl) ?_ hHeld ?_
                rotate_left
                · intro w' hSw
                  have e0 := d0 w' hSw
                  have e1 := d1 w' hSw
                  have e2 := d2 w' hSw
                  have e3 := d3 w' hSw
                  have e4 := d4 w' hSw
                  have e5 := d5 w' hSw
                  have e6 := d6 w' hSw
                  have e7 := d7 w' hSw
                  have e8 := d8 w' hSw
                  have e9 := d9 w' hSw
                  have e10 := d10 w' hSw
                  go_simp
                  first | done | with_reducible rfl
                simp only [Act.put, List.setIfInBounds_toArray, List.set_cons_zero, List.set_cons_succ]
                refine wpAnyH_ready (rs := [8]) (by kernel_rfl) (by simp) ?_
                refine AllReadyH.cons rfl (fun K hK => ?_) AllReadyH.nil
                go_simp
                refine (CK.out _ SB.out).mono ?_
                rintro e wz ⟨rfl, hbz⟩
                have bz := Bel.step SB.out hbz
                clear hbz
                refine hK.out _ _ (bz) (fun hHeld => ?_)
                clear hK K
                try simp only [Act.put, List.setIfInBounds_toArray, List.set_cons_zero, List.set_cons_succ]
                refine held_take (i := 9) (d := some 52) (v := ?_) rfl (by kernel_rfl) (by kernel_rfl) (by kernel_rfl) (by kernel_rfl) (fun _ _ _ h => h) (by kernel_rfl) ?_ hHeld ?_
                rotate_left
                · intro w' hSw
                  go_simp
                  first | done | with_reducible rfl
                simp only [Act.put, List.setIfInBounds_toArray, List.set_cons_zero, List.set_cons_succ]
                refine held_skip (i := 10) (d := some 53) rfl (by kernel_rfl) (by kernel_rfl) (by kernel_rfl) (by kernel_rfl) (fun _ _ _ h => h) (by kernel_rfl) hHeld ?_
                simp only [Act.put, List.setIfInBounds_toArray, List.set_cons_zero, List.set_cons_succ]
                refine held_skip (i := 11) (d := some 54) rfl (by kernel_rfl) (by kernel_rfl) (by kernel_rfl) (by kernel_rfl) (fun _ _ _ h => h) (by kernel_rfl) hHeld ?_
                simp only [Act.put, List.setIfInBounds_toArray, List.set_cons_zero, List.set_cons_succ]
                refine held_skip (i := 12) (d := some 55) rfl (by kernel_rfl) (by kernel_rfl) (by kernel_rfl) (by kernel_rfl) (fun _ _ _ h => h) (by kernel_rfl) hHeld ?_
                simp only [Act.put, List.setIfInBounds_toArray, List.set_cons_zero, List.set_cons_succ]
                refine held_skip (i := 13) (d := some 56) rfl (by kernel_rfl) (by kernel_rfl) (by kernel_rfl) (by kernel_rfl) (fun _ _ _ h => h) (by kernel_rfl) hHeld ?_
                simp only [Act.put, List.setIfInBounds_toArray, List.set_cons_zero, List.set_cons_succ]
                refine held_skip (i := 14) (d := some 57) rfl (by kernel_rfl) (by kernel_rfl) (by kernel_rfl) (by kernel_rfl) (fun _ _ _ h => h) (by kernel_rfl) hHeld ?_
                simp only [Act.put, List.setIfInBounds_toArray, List.set_cons_zero, List.set_cons_succ]
                refine held_skip (i := 15) (d := some 58) rfl (by kernel_rfl) (by kernel_rfl) (by kernel_rfl) (by kernel_rfl) (fun _ _ _ h => h) (by kernel_rfl) hHeld ?_
                simp only [Act.put, List.setIfInBounds_toArray, List.set_cons_zero, List.set_cons_succ]
                refine held_skip (i := 16) (d := some 59) rfl (by kernel_rfl) (by kernel_rfl) (by kernel_rfl) (by kernel_rfl) (fun _ _ _ h => h) (by kernel_rfl) hHeld ?_
                simp only [Act.put, List.setIfInBounds_toArray, List.set_cons_zero, List.set_cons_succ]
                refine held_skip (i := 17) (d := some 60) rfl (by kernel_rfl) (by kernel_rfl) (by kernel_rfl) (by kernel_rfl) (fun _ _ _ h => h) (by kernel_rfl) hHeld ?_
                simp only [Act.put, List.setIfInBounds_toArray, List.set_cons_zero, List.set_cons_succ]
                refine held_skip (i := 18) (d := some 61) rfl (by kernel_rfl) (by kernel_rfl) (by kernel_rfl) (by kernel_rfl) (fun _ _ _ h => h) (by kernel_rfl) hHeld ?_
                simp only [Act.put, List.setIfInBounds_toArray, List.set_cons_zero, List.set_cons_succ]
                refine held_skip (i := 19) (d := some 62) rfl (by kernel_rfl) (by kernel_rfl) (by kernel_rfl) (by kernel_rfl) (fun _ _ _ h => h) (by kernel_rfl) hHeld ?_
                simp only [Act.put, List.setIfInBounds_toArray, List.set_cons_zero, List.set_cons_succ]
                refine held_take (i := 20) (d := some 63) (v := ?_) rfl (by kernel_rfl) (by kernel_rfl) (by kernel_rfl) (by kernel_rfl) (fun _ _ _ h => h) (by kernel_rfl) ?_ hHeld ?_
                rotate_left
                · intro w' hSw
                  go_simp
                  first | done | with_reducible rfl
                simp only [Act.put, List.setIfInBounds_toArray, List.set_cons_zero, List.set_cons_succ]
                refine wpAnyH_done (by kernel_rfl) ?_ _
                go_wp2_with fail
                go_roundw
                case rel => exact ⟨j + 1, by omega, by go_num, Lib.hid bz.b⟩
                case measure => simp [intOf]; omega
              · obtain rfl : az = true := KA.out rfl
                go_wp2_with fail
                go_region_held3 (fun w' => Bel W w')
                  (first | (with_reducible exact SB.out) | (with_reducible assumption))
                  (first | (go_at_call 12; (with_reducible refine (CK.out _ (by with_reducible first | exact SB.out | assumption)).mono ?_); rintro e wz ⟨rfl, hbz⟩; have bz := Bel.step (by with_reducible first | exact SB.out | assumption) hbz; clear hbz) | (go_at_call 13; (with_reducible refine (CA.out _ (by with_reducible first | exact SB.out | assumption)).mono ?_); rintro e wz ⟨rfl, hbz⟩; have bz := Bel.step (by with_reducible first | exact SB.out | assumption) hbz; clear hbz))
                go_wp2_with fail
                go_roundw
                case rel => exact ⟨j + 1, by omega, by go_num, Lib.hid bz.b⟩
                case measure => simp [intOf]; omega
            · have hje : j = m := by omega
              have Rp := Lib.hid (HR.out i hlt)
              have Ip := Lib.hid (HI.out i hlt)
              have ap := HAT.out i hlt
              obtain ⟨Tp, hTp⟩ : ∃ T, T = ts.getD i t0 := ⟨_, rfl⟩
              rw [← hTp] at Rp Ip ap
              clear hTp
              obtain ⟨xp, mp, yp, up, kp, zp, hdp, hsp⟩ := slice_of Rp.out
              obtain ⟨⟨p0, p1, p2, p3, p4, p5, p6, p7, p8, p9, p10⟩, vdp, vsp⟩ := Tp
              simp only at hdp hsp
              subst hdp hsp
              have c0 := fun W' (h : Bel W W') => (ap.below h.b hb).c0
              have c1 := fun W' (h : Bel W W') => (ap.below h.b hb).c1
              have c2 := fun W' (h : Bel W W') => (ap.below h.b hb).c2
              have c3 := fun W' (h : Bel W W') => (ap.below h.b hb).c3
              have c4 := fun W' (h : Bel W W') => (ap.below h.b hb).c4
              have c5 := fun W' (h : Bel W W') => (ap.below h.b hb).c5
              have c6 := fun W' (h : Bel W W') => (ap.below h.b hb).c6
              have c7 := fun W' (h : Bel W W') => (ap.below h.b hb).c7
              have c8 := fun W' (h : Bel W W') => (ap.below h.b hb).c8
              have c9 := fun W' (h : Bel W W') => (ap.below h.b hb).c9
              have c10 := fun W' (h : Bel W W') => (ap.below h.b hb).c10
              clear ap
              have SB := Lib.hid (Bel.base hbel2.out).drew
              have RDp := Lib.hid (fun W' (h : Bel W W') => (show Ints W' (.slice xp mp yp) p2 from (Rp.out.below h.b).1))
              have KL : Hid (spLeq p2 (clockM l k) = true) := set_leq HO.out Ip.out

              have CO := Lib.hid (fun W' (h : Bel W W') => implClockOf_any (.slice (some ⟨b, off, none⟩) m y) l k W' (A0.out.below h.b) (by constructor <;> omega))
              go_wp2_with fail
              go_region_held3 (fun w' => Bel W w')
                (first | (with_reducible exact SB.out) | (with_reducible assumption))
                (first | (go_at_call 10; (with_reducible refine (CO.out _ (by with_reducible first | exact SB.out | assumption)).mono ?_); rintro e wz ⟨g3, v3, rfl, _, ho3, hb3⟩; rw [show clockOfM l k = clockM l k from (by unfold clockOfM; rw [if_pos HO.out, Int.toNat_natCast])] at ho3; obtain ⟨x3, y3, h3⟩ : ∃ x y, v3 = .slice x (clockM l k).length y := ints_len (own_ints ho3); have I3 := Lib.hid (own_ints ho3); subst h3; have bz := Bel.step (by with_reducible first | exact SB.out | assumption) hb3; clear ho3 hb3) | (go_at_call 14; (with_reducible refine (ClockLeq_any _ _ p2 (clockM l k) _ (RDp.out _ bz) I3.out).mono ?_); rw [KL.out]; rintro e wy ⟨rfl, hby⟩; have bz := Bel.step bz hby; clear hby))
              go_wp2_with fail
              go_roundw
              case rel => exact ⟨i + 1, by omega, by go_num, Lib.hid bz.b⟩
              case measure => simp [intOf]; omega
        · go_wp2_with fail
          refine (implClockOf_any _ l k _ (A0.out.below hbel.out) (by constructor <;> omega)).mono ?_
          rintro e w3 ⟨g3, v3, rfl, _, ho3, hb3⟩
          rw [show clockOfM l k = clockM l k from by unfold clockOfM; rw [if_pos HO.out, Int.toNat_natCast]] at ho3
          obtain ⟨x3, y3, h3⟩ : ∃ x y, v3 = .slice x (clockM l k).length y := ints_len (own_ints ho3)
          have I3 := Lib.hid (own_ints ho3)
          subst h3
          obtain ⟨k3, hk3⟩ : ∃ k3, k3 = (clockM l k).length := ⟨_, rfl⟩
          rw [← hk3] at I3 ⊢
          have B3 := Lib.hid (hbel.out.trans (hb3.mono hbel.out.size))
          clear ho3 hb3 hk3
          go_wp2_with fail
          refine (ClockSum_any _ (clockM l k) _ I3.out).mono ?_
          rw [set_sum HO.out, ← HM.out]
          rintro e w4 ⟨rfl, hb4⟩
          have B4 := Lib.hid (B3.out.trans (hb4.mono B3.out.size))
          clear hb4 B3
          go_wp2_with fail
          refine (sets_any _).mono ?_
          rintro e w5 ⟨rfl, hb5⟩
          have B5 := Lib.hid (B4.out.trans (hb5.mono B4.out.size))
          clear hb5 B4
          go_wp2_with fail
          go_ret
          exact ⟨rfl, B0.out.trans (B5.out.mono B0.out.size)⟩
    · have H0 : Hid (¬ 0 < m) := h0
      clear h0 hts hT hlen
      go_wp2
      go_loopw [6] (fun iv wr => ∃ i : Nat, i ≤ m ∧ iv = .int .i64 i ∧ Hid (Below W.heap.size W wr)) (fun iv _ => m - (intOf iv).toNat)
      case atStart => exact ⟨0, Nat.zero_le _, rfl, B2⟩
      case round =>
        obtain ⟨i, hi, rfl, hbel⟩ := hrel
        clear B2
        have hlt : ¬ i < m := by have := H0.out; omega
        go_wp2_with fail
        refine (implClockOf_any _ l k _ (A0.out.below hbel.out) (by constructor <;> omega)).mono ?_
        rintro e w3 ⟨g3, v3, rfl, _, ho3, hb3⟩
        rw [show clockOfM l k = clockM l k from by unfold clockOfM; rw [if_pos HO.out, Int.toNat_natCast]] at ho3
        obtain ⟨x3, y3, h3⟩ : ∃ x y, v3 = .slice x (clockM l k).length y := ints_len (own_ints ho3)
        have I3 := Lib.hid (own_ints ho3)
        subst h3
        obtain ⟨k3, hk3⟩ : ∃ k3, k3 = (clockM l k).length := ⟨_, rfl⟩
        rw [← hk3] at I3 ⊢
        have B3 := Lib.hid (hbel.out.trans (hb3.mono hbel.out.size))
        clear ho3 hb3 hk3
        go_wp2_with fail
        refine (ClockSum_any _ (clockM l k) _ I3.out).mono ?_
        rw [set_sum HO.out, ← HM.out]
        rintro e w4 ⟨rfl, hb4⟩
        have B4 := Lib.hid (B3.out.trans (hb4.mono B3.out.size))
        clear hb4 B3
        go_wp2_with fail
        refine (sets_any _).mono ?_
        rintro e w5 ⟨rfl, hb5⟩
        have B5 := Lib.hid (B4.out.trans (hb5.mono B4.out.size))
        clear hb5 B4
        go_wp2_with fail
        go_ret
        exact ⟨rfl, B0.out.trans (B5.out.mono B0.out.size)⟩
end Go.Proofs.YtkcfcmigcphjlaaGreat
