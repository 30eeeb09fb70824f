/- The law FnAdds. -/
import Derived.Test.YtkcfcmigcphjlaaGreatRH
import Derived.Test.YtkcfcmigcphjlaaGreatRI
import Derived.Test.YtkcfcmigcphjlaaGreatRE



namespace Go.Proofs.YtkcfcmigcphjlaaGreat
open Go.RowKit
set_option linter.unusedVariables false

set_option maxRecDepth 100000 in
set_option maxHeartbeats 6400000 in
theorem law_FnAdds (a : Option Addr) (len cap : Nat) (w : World) (hm : len ≤ 9223372036854775807) (hc : Code w w.heap.size a len) : Calls Tryz.prog 4 #[.slice a len cap] w fun e w' => e = .returned (.bool true) ∧ Below w.heap.size w w' := by
  have HC := Lib.hid hc
  clear hc
  go_enter Tryz.func4, Tryz.ntmps4
  go_wp2_with fail
  refine (drawAddAct_any a len cap _ hm HC.out).mono ?_
  rintro e W ⟨v, l, n, T, rfl, ha, hs, hl61, n0, n5, hT, hTs, b0⟩
  obtain ⟨x, y, rfl⟩ := acts_len ha
  obtain ⟨xt, mt, yt, ut, kt, zt, hdt, hst⟩ := slice_of hT
  obtain ⟨⟨q0, q1, q2, q3, q4, q5, q6, q7, q8, q9, q10⟩, vdt, vst⟩ := T
  simp only at hdt hst
  subst hdt hst
  have B0 := Lib.hid b0
  obtain ⟨m, hmm⟩ : ∃ m, m = l.length := ⟨_, rfl⟩
  have hm61 : m ≤ 61 := by omega
  obtain ⟨P, hP⟩ : ∃ P, P = W.heap.size := ⟨_, rfl⟩
  obtain ⟨W1, hW1⟩ : ∃ V, V = W.alloc (.cells #[.int .i64 q0, .int .i64 q1, .slice xt mt yt, .int .i64 q3, .int .i64 q4, .int .i64 q5, .int .i64 q6, .int .i64 q7, .int .i64 q8, .int .i64 q9, .slice ut kt zt] 33) := ⟨_, rfl⟩
  have b1 : Below W.heap.size W W1 := by rw [hW1]; exact (Below.refl _ _).alloc (Nat.le_refl _) _
  have K1 := Lib.hid (show Blk W1 P _ from by rw [hW1, hP]; exact Blk.new W _ _)
  have A1 := Lib.hid (ha.below b1)
  have T1 := Lib.hid (hT.below b1)
  have TS := Lib.hid hTs
  have hP1 := K1.out.lt
  rw [← hmm] at A1 ⊢
  have HM := Lib.hid hmm
  have B1 := Lib.hid (B0.out.trans (b1.mono B0.out.size))
  simp only [ActT.val]
  clear ha hT hTs hs b0 b1 B0 HC hmm hl61
  go_upto_region 2 with (fail)
  rw [← hP, ← hW1]
  clear hW1 hP
  have c := K1.out.cell
  have CA := Lib.hid (implAddAct_any (.slice x m y) l n _ _ W1 A1.out (by constructor <;> omega) T1.out.is)
  simp only [ActT.val] at CA
  go_wp2_with fail
  refine CA.out.mono ?_
  rintro e w2 ⟨vm, bs, rfl, hown, _, hb2⟩
  have A2 := Lib.hid (A1.out.below hb2)
  have T2 := Lib.hid (T1.out.below hb2)
  have K2 := Lib.hid (K1.out.below hb2 hP1)
  have hP2 := K2.out.lt
  have B2 := Lib.hid (B1.out.trans (hb2.mono B1.out.size))
  have M2 := Lib.hid hown.acts
  clear hown hb2 K1 A1 T1 B1 CA c
  have c := K2.out.cell
  have CS := Lib.hid (addAct_any (.slice x m y) l n _ w2 A2.out (by constructor <;> omega) T2.out TS.out)
  simp only [ActT.val] at CS
  cases ho : addM l n ⟨q0, q1, q2, q3, q4, q5, q6, q7, q8, q9, q10⟩ with
  | none =>
    have e1 : addB l n ⟨q0, q1, q2, q3, q4, q5, q6, q7, q8, q9, q10⟩ = false := by unfold addB; rw [ho]; rfl
    have e2 : addL l n ⟨q0, q1, q2, q3, q4, q5, q6, q7, q8, q9, q10⟩ = [] := by unfold addL; rw [ho]; rfl
    rw [e2] at M2
    obtain ⟨x2, y2, hx2⟩ := acts_len M2.out
    simp only [List.length_nil] at hx2
    subst hx2
    rw [e1]
    have HO := Lib.hid ho
    clear ho e1 e2 M2
    go_wp2_with fail
    refine CS.out.mono ?_
    rintro e w3 (⟨_, rfl, hb3⟩ | ⟨l', hl', _⟩)
    · have B3 := Lib.hid (B2.out.trans (hb3.mono B2.out.size))
      clear hb3 B2 A2 T2 K2 c CS
      go_wp2_with fail
      refine (sets_any _).mono ?_
      rintro e w4 ⟨rfl, hb4⟩
      have B4 := Lib.hid (B3.out.trans (hb4.mono B3.out.size))
      clear hb4 B3
      go_wp2_with fail
      go_ret
      exact ⟨rfl, B4.out⟩
    · rw [HO.out] at hl'
      cases hl'
  | some M =>
    have e1 : addB l n ⟨q0, q1, q2, q3, q4, q5, q6, q7, q8, q9, q10⟩ = true := by unfold addB; rw [ho]; rfl
    have e2 : addL l n ⟨q0, q1, q2, q3, q4, q5, q6, q7, q8, q9, q10⟩ = M := by unfold addL; rw [ho]; rfl
    rw [e2] at M2
    rw [e1]
    have HA := Lib.hid (show addB M n ⟨q0, q1, q2, q3, q4, q5, q6, q7, q8, q9, q10⟩ = false from by unfold addB; rw [add_again ho]; rfl)
    have HT := Lib.hid (add_there ho)
    have HL := Lib.hid (add_len ho)
    have HS := Lib.hid (show setOkM M n = true from (add_some ho).2.2.2)
    have HO := Lib.hid ho
    clear ho e1 e2
    obtain ⟨ts, hts, hTM⟩ := M2.out
    obtain ⟨x2, y2, rfl⟩ := actsT_len hTM
    obtain ⟨mm, hmm⟩ : ∃ mm, mm = ts.length := ⟨_, rfl⟩
    rw [← hmm] at M2 hTM ⊢
    have HMM := Lib.hid (show mm = m + 1 from by rw [hmm, HM.out]; have := HL.out; rw [hts, List.length_map] at this; exact this)
    have HLN := Lib.hid (show M.length = mm from by rw [hmm, hts, List.length_map])
    have h0 : 0 < mm := by have := HMM.out; omega
    obtain ⟨z1, b, off, rfl, hb, hat⟩ := actsT_at hTM h0
    clear z1
    have HAT := Lib.hid hat
    have HR := Lib.hid (fun i (hi : i < mm) => hTM.1 _ (getD_mem (ts := ts) (i := i) (by rw [← hmm]; exact hi)))
    have HTS := Lib.hid (fun i (hi : i < mm) => (show M.getD i act0 = (ts.getD i t0).a from by rw [hts, getD_map (by rw [← hmm]; exact hi)]))
    have hmm62 : mm ≤ 62 := by have := HMM.out; omega
    clear hmm hat hTM hts
    go_wp2_with fail
    refine CS.out.mono ?_
    rintro e w3 (⟨hn, _⟩ | ⟨l', hl', v3, rfl, _, hb3⟩)
    · rw [HO.out] at hn
      cases hn
    · have T3 := Lib.hid (T2.out.below hb3)
      have K3 := Lib.hid (K2.out.below hb3 hP2)
      have B3 := Lib.hid (B2.out.trans (hb3.mono B2.out.size))
      have M3 := Lib.hid (M2.out.below hb3)
      have hP3 := K3.out.lt
      have L3 := Lib.hid (show Below w2.heap.size w2 w3 from hb3)
      clear hb3 hl' B2 A2 T2 K2 M2 c CS HO
      have c := K3.out.cell
      have CB := Lib.hid (implAddAct_any (.slice (some ⟨b, off, none⟩) mm y2) M n _ _ w3 M3.out (by constructor <;> omega) T3.out.is)
      rw [HA.out] at CB
      simp only [ActT.val] at CB
      go_wp2_with fail
      refine CB.out.mono ?_
      rintro e w4 ⟨v4, bs4, rfl, _, _, hb4⟩
      have T4 := Lib.hid (T3.out.below hb4)
      have K4 := Lib.hid (K3.out.below hb4 hP3)
      have B4 := Lib.hid (B3.out.trans (hb4.mono B3.out.size))
      have M4 := Lib.hid (M3.out.below hb4)
      have hP4 := K4.out.lt
      have L4 := Lib.hid (L3.out.trans (hb4.mono L3.out.size))
      clear hb4 B3 M3 T3 K3 c CB L3
      have hb4 : b < w4.heap.size := Nat.lt_of_lt_of_le hb L4.out.size
      have HAT4 := Lib.hid (fun i (hi : i < mm) => (HAT.out i hi).below L4.out hb)
      have HR4 := Lib.hid (fun i (hi : i < mm) => (HR.out i hi).below L4.out)
      clear HAT HR L4 hb
      go_wp2_with fail
      go_loopw [12, 13] (fun tv iv wr => ∃ i t : Nat, i ≤ mm ∧ t ≤ i ∧ Hid (t = thereM (M.take i) ⟨q0, q1, q2, q3, q4, q5, q6, q7, q8, q9, q10⟩) ∧ tv = .int .i64 t ∧ iv = .int .i64 i ∧ Hid (Below w4.heap.size w4 wr)) (fun _ iv _ => mm - (intOf iv).toNat)
      case atStart => exact ⟨0, 0, Nat.zero_le _, Nat.le_refl _, Lib.hid rfl, rfl, rfl, Lib.hid (Below.refl _ _)⟩
      case round =>
        obtain ⟨i, t, hi, hti, htt, rfl, rfl, hbel⟩ := hrel
        by_cases hlt : i < mm
        · have SB := Lib.hid (show Bel w4 wr from ⟨hbel.out⟩).drew
          have HX := Lib.hid (HTS.out i hlt)
          have Rp := Lib.hid (HR4.out i hlt)
          have ap := HAT4.out i hlt
          obtain ⟨Tp, hTp⟩ : ∃ T, T = ts.getD i t0 := ⟨_, rfl⟩
          rw [← hTp] at Rp ap HX
          clear hTp
          obtain ⟨xp, mp, yp, up, kp, zp, hdp, hsp⟩ := slice_of Rp.out
          obtain ⟨⟨p0, p1, p2, p3, p4, p5, p6, p7, p8, p9, p10⟩, vdp, vsp⟩ := Tp
          simp only at hdp hsp
          subst hdp hsp
          have c0 := fun W' (h : Bel w4 W') => (ap.below h.b hb4).c0
          have c1 := fun W' (h : Bel w4 W') => (ap.below h.b hb4).c1
          have c2 := fun W' (h : Bel w4 W') => (ap.below h.b hb4).c2
          have c3 := fun W' (h : Bel w4 W') => (ap.below h.b hb4).c3
          have c4 := fun W' (h : Bel w4 W') => (ap.below h.b hb4).c4
          have c5 := fun W' (h : Bel w4 W') => (ap.below h.b hb4).c5
          have c6 := fun W' (h : Bel w4 W') => (ap.below h.b hb4).c6
          have c7 := fun W' (h : Bel w4 W') => (ap.below h.b hb4).c7
          have c8 := fun W' (h : Bel w4 W') => (ap.below h.b hb4).c8
          have c9 := fun W' (h : Bel w4 W') => (ap.below h.b hb4).c9
          have c10 := fun W' (h : Bel w4 W') => (ap.below h.b hb4).c10
          clear ap
          have d0 := fun W' (h : Bel w4 W') => (show W'.cell? ⟨P, 0, none⟩ = some (.int .i64 q0) from (K4.out.below h.b hP4).cell 0)
          have d1 := fun W' (h : Bel w4 W') => (show W'.cell? ⟨P, 1, none⟩ = some (.int .i64 q1) from (K4.out.below h.b hP4).cell 1)
          have d2 := fun W' (h : Bel w4 W') => (show W'.cell? ⟨P, 2, none⟩ = some (.slice xt mt yt) from (K4.out.below h.b hP4).cell 2)
          have d3 := fun W' (h : Bel w4 W') => (show W'.cell? ⟨P, 3, none⟩ = some (.int .i64 q3) from (K4.out.below h.b hP4).cell 3)
          have d4 := fun W' (h : Bel w4 W') => (show W'.cell? ⟨P, 4, none⟩ = some (.int .i64 q4) from (K4.out.below h.b hP4).cell 4)
          have d5 := fun W' (h : Bel w4 W') => (show W'.cell? ⟨P, 5, none⟩ = some (.int .i64 q5) from (K4.out.below h.b hP4).cell 5)
          have d6 := fun W' (h : Bel w4 W') => (show W'.cell? ⟨P, 6, none⟩ = some (.int .i64 q6) from (K4.out.below h.b hP4).cell 6)
          have d7 := fun W' (h : Bel w4 W') => (show W'.cell? ⟨P, 7, none⟩ = some (.int .i64 q7) from (K4.out.below h.b hP4).cell 7)
          have d8 := fun W' (h : Bel w4 W') => (show W'.cell? ⟨P, 8, none⟩ = some (.int .i64 q8) from (K4.out.below h.b hP4).cell 8)
          have d9 := fun W' (h : Bel w4 W') => (show W'.cell? ⟨P, 9, none⟩ = some (.int .i64 q9) from (K4.out.below h.b hP4).cell 9)
          have d10 := fun W' (h : Bel w4 W') => (show W'.cell? ⟨P, 10, none⟩ = some (.slice ut kt zt) from (K4.out.below h.b hP4).cell 10)
          have CK := Lib.hid (fun W' (h : Bel w4 W') => implSame_any _ _ _ _ W' (Rp.out.below h.b).is (T4.out.below h.b).is)
          simp only [ActT.val] at CK
          simp only at HX
          have TST := Lib.hid (there_step M ⟨q0, q1, q2, q3, q4, q5, q6, q7, q8, q9, q10⟩ i (by rw [HLN.out]; exact hlt))
          rw [HX.out, ← htt.out] at TST
          generalize sameM _ _ = sv at CK TST
          have i0 : (0 : Int) ≤ i := by omega
          have i1 : (i : Int) < mm := by omega
          cases sv
          · go_wp2_with fail
            go_region_held3 (fun w' => Bel w4 w')
              (first | (with_reducible exact SB.out) | (with_reducible assumption))
              (first | (go_at_call 19; (with_reducible refine (CK.out _ (by with_reducible first | exact SB.out | assumption)).mono ?_); rintro e wz ⟨rfl, hbz⟩; have bz := Bel.step (by with_reducible first | exact SB.out | assumption) hbz; clear hbz))
            have BZ := Lib.hid bz.b
            have TE := Lib.hid (show t = thereM (M.take (i + 1)) _ from by have := TST.out; simp at this; exact this.symm)
            clear bz CK TST
            go_wp2_with fail
            go_roundw
            case rel => exact ⟨i + 1, t, by omega, by omega, TE, rfl, by go_num, BZ⟩
            case measure => simp [intOf]; omega
          · go_wp2_with fail
            go_region_held3 (fun w' => Bel w4 w')
              (first | (with_reducible exact SB.out) | (with_reducible assumption))
              (first | (go_at_call 19; (with_reducible refine (CK.out _ (by with_reducible first | exact SB.out | assumption)).mono ?_); rintro e wz ⟨rfl, hbz⟩; have bz := Bel.step (by with_reducible first | exact SB.out | assumption) hbz; clear hbz))
            have BZ := Lib.hid bz.b
            have TE := Lib.hid (show t + 1 = thereM (M.take (i + 1)) _ from by have := TST.out; simp at this; exact this.symm)
            clear bz CK TST
            go_wp2_with fail
            go_roundw
            case rel => exact ⟨i + 1, t + 1, by omega, by omega, TE, by go_num, by go_num, BZ⟩
            case measure => simp [intOf]; omega
        · have hie : i = mm := by omega
          have ht1 : t = 1 := by
            have := htt.out
            rw [hie, ← HLN.out, List.take_length, HT.out] at this
            exact this
          subst ht1
          have ew : IntKind.i64.wrap ((m : Int) + 1) = (mm : Int) := by rw [IntWalk.i64_in _ (by omega)]; have := HMM.out; omega
          have M5 := Lib.hid (M4.out.below hbel.out)
          have B5 := Lib.hid (B4.out.trans (hbel.out.mono B4.out.size))
          go_wp2_with fail
          refine (implSetOk_any _ M n _ M5.out (by omega)).mono ?_
          rw [HS.out]
          rintro e w6 ⟨rfl, hb6⟩
          have B6 := Lib.hid (B5.out.trans (hb6.mono B5.out.size))
          clear hb6 B5 M5
          go_wp2_with fail
          refine (sets_any _).mono ?_
          rintro e w7 ⟨rfl, hb7⟩
          have B7 := Lib.hid (B6.out.trans (hb7.mono B6.out.size))
          clear hb7 B6
          go_wp2_with fail
          go_ret
          exact ⟨rfl, B7.out⟩
end Go.Proofs.YtkcfcmigcphjlaaGreat
