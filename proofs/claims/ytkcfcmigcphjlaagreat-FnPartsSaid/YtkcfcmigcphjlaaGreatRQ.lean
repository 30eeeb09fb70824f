/- The law FnParts. -/
import Derived.Test.YtkcfcmigcphjlaaGreatRP
import Derived.Test.YtkcfcmigcphjlaaGreatRJ
import Derived.Test.YtkcfcmigcphjlaaGreatRL
import Derived.Test.YtkcfcmigcphjlaaGreatRE




namespace Go.Proofs.YtkcfcmigcphjlaaGreat
open Go.RowKit
set_option linter.unusedVariables false
set_option maxRecDepth 100000 in
set_option maxHeartbeats 6400000 in
theorem law_FnParts (a : Option Addr) (len cap : Nat) (w : World) (hm : len ≤ 9223372036854775807) (hc : Code w w.heap.size a len) : Calls Tryz.prog 6 #[.slice a len cap] w fun e w' => e = .returned (.bool true) ∧ Below w.heap.size w w' := by
  have HC := Lib.hid hc
  clear hc
  go_enter Tryz.func6, Tryz.ntmps6
  go_wp2_with fail
  refine (drawPart_any a len cap _ hm HC.out).mono ?_
  rintro e W ⟨v, vv, l, n, xs, rfl, ha, hl61, n0, n5, hi, b0⟩
  obtain ⟨k, rfl⟩ := Int.eq_ofNat_of_zero_le n0
  obtain ⟨x, y, rfl⟩ := acts_len ha
  obtain ⟨xv, yv, rfl⟩ := ints_len hi
  have B0 := Lib.hid b0
  have A0 := Lib.hid ha
  have I0 := Lib.hid hi
  obtain ⟨p, hp⟩ : ∃ p, p = l.length := ⟨_, rfl⟩
  obtain ⟨q, hq⟩ : ∃ q, q = xs.length := ⟨_, rfl⟩
  rw [← hp] at A0 ⊢
  rw [← hq] at I0 ⊢
  clear ha hi b0 hl61 HC hp hq n0
  go_wp2_with fail
  refine (implPart_any _ _ l xs k _ A0.out I0.out (by constructor <;> omega)).mono ?_
  rintro e w1 ⟨v1, bs1, rfl, ho1, _, hb1⟩
  have B1 := Lib.hid (B0.out.trans (hb1.mono B0.out.size))
  have A1 := Lib.hid (A0.out.below hb1)
  have I1 := Lib.hid (I0.out.below (B := 0) hb1)
  have P1 := Lib.hid ho1.acts
  clear ho1 hb1 B0 A0 I0
  obtain ⟨x1, y1, rfl⟩ := acts_len P1.out
  obtain ⟨p1, hp1⟩ : ∃ p, p = (partOfM l k xs).length := ⟨_, rfl⟩
  rw [← hp1] at P1 ⊢
  have HP1 := Lib.hid hp1
  clear hp1
  go_wp2_with fail
  refine (implLacks_any _ _ l xs k _ A1.out I1.out (by constructor <;> omega)).mono ?_
  rintro e w2 ⟨v2, bs2, rfl, ho2, _, hb2⟩
  have B2 := Lib.hid (B1.out.trans (hb2.mono B1.out.size))
  have A2 := Lib.hid (A1.out.below hb2)
  have I2 := Lib.hid (I1.out.below (B := 0) hb2)
  have P2 := Lib.hid (P1.out.below hb2)
  have Q2 := Lib.hid ho2.acts
  clear ho2 hb2 B1 A1 I1 P1
  obtain ⟨x2, y2, rfl⟩ := acts_len Q2.out
  obtain ⟨p2, hp2⟩ : ∃ p, p = (lacksM l k xs).length := ⟨_, rfl⟩
  rw [← hp2] at Q2 ⊢
  have HP2 := Lib.hid hp2
  clear hp2
  go_wp2_with fail
  refine (specPart_any _ _ l xs k _ A2.out I2.out (by constructor <;> omega)).mono ?_
  rintro e w3 ⟨v3, rfl, ho3, hb3⟩
  have B3 := Lib.hid (B2.out.trans (hb3.mono B2.out.size))
  have A3 := Lib.hid (A2.out.below hb3)
  have I3 := Lib.hid (I2.out.below (B := 0) hb3)
  have P3 := Lib.hid (P2.out.below hb3)
  have Q3 := Lib.hid (Q2.out.below hb3)
  have R3 := Lib.hid ho3
  clear ho3 hb3 B2 A2 I2 P2 Q2
  obtain ⟨x3, y3, rfl⟩ := acts_len R3.out
  obtain ⟨p3, hp3⟩ : ∃ p, p = (partOfM l k xs).length := ⟨_, rfl⟩
  rw [← hp3] at R3 ⊢
  clear hp3
  go_wp2_with fail
  refine (sameActs_any _ _ _ _ _ P3.out R3.out).mono ?_
  rw [show decide (partOfM l k xs = partOfM l k xs) = true from by simp]
  rintro e w4 ⟨rfl, hb4⟩
  have B4 := Lib.hid (B3.out.trans (hb4.mono B3.out.size))
  have A4 := Lib.hid (A3.out.below hb4)
  have I4 := Lib.hid (I3.out.below (B := 0) hb4)
  have P4 := Lib.hid (P3.out.below hb4)
  have Q4 := Lib.hid (Q3.out.below hb4)
  clear hb4 B3 A3 I3 P3 Q3 R3
  go_wp2_with fail
  refine (specLacks_any _ _ l xs k _ A4.out I4.out (by constructor <;> omega)).mono ?_
  rintro e w5 ⟨v5, rfl, ho5, hb5⟩
  have B5 := Lib.hid (B4.out.trans (hb5.mono B4.out.size))
  have A5 := Lib.hid (A4.out.below hb5)
  have P5 := Lib.hid (P4.out.below hb5)
  have Q5 := Lib.hid (Q4.out.below hb5)
  have R5 := Lib.hid ho5
  clear ho5 hb5 B4 A4 I4 P4 Q4
  obtain ⟨x5, y5, rfl⟩ := acts_len R5.out
  obtain ⟨p5, hp5⟩ : ∃ p, p = (lacksM l k xs).length := ⟨_, rfl⟩
  rw [← hp5] at R5 ⊢
  clear hp5
  go_wp2_with fail
  refine (sameActs_any _ _ _ _ _ Q5.out R5.out).mono ?_
  rw [show decide (lacksM l k xs = lacksM l k xs) = true from by simp]
  rintro e w6 ⟨rfl, hb6⟩
  have B6 := Lib.hid (B5.out.trans (hb6.mono B5.out.size))
  have A6 := Lib.hid (A5.out.below hb6)
  have P6 := Lib.hid (P5.out.below hb6)
  have Q6 := Lib.hid (Q5.out.below hb6)
  clear hb6 B5 A5 P5 Q5 R5
  by_cases h0 : p1 = 0
  · subst h0
    clear HP1 HP2
    go_wp2_with fail
    refine (sets_any _).mono ?_
    rintro e w7 ⟨rfl, hb7⟩
    have B7 := Lib.hid (B6.out.trans (hb7.mono B6.out.size))
    clear hb7 B6
    go_wp2_with fail
    go_ret
    exact ⟨rfl, B7.out⟩
  · have hz : ((p1 : Int) == 0) = false := by simp; omega
    have hne : partOfM l k xs ≠ [] := fun h => h0 (by rw [HP1.out, h]; rfl)
    have hcut : cutB l k xs = true := by
      cases hc : cutB l k xs with
      | true => rfl
      | false => exact absurd (part_no l k xs (by rw [hc]; simp)) hne
    have hpo : setOkM (partM l xs true) k = true := by
      cases hc : setOkM (partM l xs true) k with
      | true => rfl
      | false => exact absurd (by rw [part_yes l k xs hcut, hc]; rfl) hne
    have ep : partOfM l k xs = partM l xs true := by rw [part_yes l k xs hcut, if_pos hpo]
    have eq : lacksM l k xs = partM l xs false := lacks_yes l k xs hcut
    have hl := ((cutB_iff l k xs).1 hcut).1
    rw [ep] at P6
    rw [eq] at Q6
    have LQ := Lib.hid (show (partM l xs false).length = p2 from by rw [HP2.out, eq])
    have HL := Lib.hid hl
    have HPO := Lib.hid hpo
    have hp61 : p2 ≤ 61 := by
      have h1 := partM_len l xs false
      have h2 := (setOk_all hl).2.2.1
      have h3 := LQ.out
      omega
    have ADD := Lib.hid (fun i (hi : i < p2) => putAll_step hl (xs := xs) (show i < (partM l xs false).length by rw [LQ.out]; exact hi) (putAll_set hl hpo i (by rw [LQ.out]; omega)))
    have ALL := Lib.hid (putAll_all (xs := xs) hl hpo)
    have HP : Hid (partM l xs true = putAll (partM l xs true) (partM l xs false) 0) := rfl
    clear h0 hne hcut hpo ep eq hl HP1 HP2
    go_wp2_with fail
    go_loopw [8, 9, 10, 11] (fun xw iv _ _ wr => ∃ (i : Nat) (u : Value), u = xw ∧ i ≤ p2 ∧ iv = .int .i64 i ∧ Hid (Acts wr u (putAll (partM l xs true) (partM l xs false) i)) ∧ Hid (Below w6.heap.size w6 wr)) (fun _ iv _ _ _ => p2 - (intOf iv).toNat)
    case atStart => exact ⟨0, _, rfl, Nat.zero_le _, rfl, P6, Lib.hid (Below.refl _ _)⟩
    case round =>
      obtain ⟨i, u, hu, hi, rfl, hX, hbel⟩ := hrel
      subst hu
      by_cases hlt : i < p2
      · obtain ⟨ts, hts, hT⟩ := (Q6.out.below hbel.out)
        obtain ⟨z1, b, off, hx2, hb, hat⟩ := actsT_at hT (by omega)
        have hi2 : i < ts.length := by omega
        have at_ := hat i hlt
        have RT := Lib.hid (hT.1 _ (getD_mem hi2))
        have AD := Lib.hid (show addM (putAll (partM l xs true) (partM l xs false) i) k (ts.getD i t0).a = some (putAll (partM l xs true) (partM l xs false) (i + 1)) from by rw [← getD_map hi2, ← hts]; exact ADD.out i hlt)
        clear hat hT hts z1 hi2
        generalize ts.getD i t0 = T at at_ RT AD
        subst hx2
        obtain ⟨c0, c1, c2, c3, c4, c5, c6, c7, c8, c9, c10⟩ := at_
        have CA := Lib.hid (implAddAct_any u _ k T.val T.a wr hX.out (by constructor <;> omega) RT.out.is)
        have eL : addL (putAll (partM l xs true) (partM l xs false) i) k T.a = putAll (partM l xs true) (partM l xs false) (i + 1) := by unfold addL; rw [AD.out]; rfl
        have eB : addB (putAll (partM l xs true) (partM l xs false) i) k T.a = true := by unfold addB; rw [AD.out]; rfl
        rw [eL, eB] at CA
        simp only [ActT.val] at CA
        have i0 : (0 : Int) ≤ i := by omega
        have i1 : (i : Int) < p2 := by omega
        obtain ⟨xu, yu, hu⟩ := acts_len hX.out
        generalize (putAll (partM l xs true) (partM l xs false) i).length = pu at hu
        subst hu
        clear eL eB AD hX
        go_wp2_with fail
        refine CA.out.mono ?_
        rintro e w7 ⟨v7, bs7, rfl, ho7, _, hb7⟩
        have B7 := Lib.hid (hbel.out.trans (hb7.mono hbel.out.size))
        have X7 := Lib.hid ho7.acts
        obtain ⟨x7, y7, hx7⟩ := acts_len X7.out
        generalize (putAll (partM l xs true) (partM l xs false) (i + 1)).length = p7 at hx7
        subst hx7
        clear ho7 hb7 CA c0 c1 c2 c3 c4 c5 c6 c7 c8 c9 c10 hbel RT
        go_wp2_with fail
        go_roundw
        case rel => exact ⟨i + 1, _, rfl, by omega, by go_num, X7.out, B7⟩
        case measure => simp [intOf]; omega
      · obtain rfl : i = p2 := by omega
        have X7 := Lib.hid (show Acts wr u l from by have := hX.out; rw [← LQ.out, ALL.out] at this; exact this)
        obtain ⟨xu, yu, hu⟩ := acts_len X7.out
        generalize l.length = pu at hu
        subst hu
        have A7 := Lib.hid (A6.out.below hbel.out)
        have P7 := Lib.hid (P6.out.below hbel.out)
        have B7 := Lib.hid (B6.out.trans (hbel.out.mono B6.out.size))
        clear hX hbel A6 P6 B6 Q6
        go_wp2_with fail
        refine (sameActs_any _ _ l l _ X7.out A7.out).mono ?_
        rw [show decide (l = l) = true from by simp]
        rintro e w8 ⟨rfl, hb8⟩
        have B8 := Lib.hid (B7.out.trans (hb8.mono B7.out.size))
        have P8 := Lib.hid (P7.out.below hb8)
        clear hb8 B7 A7 P7 X7
        go_wp2_with fail
        refine (implSetOk_any _ (partM l xs true) k _ P8.out (by omega)).mono ?_
        rw [HPO.out]
        rintro e w9 ⟨rfl, hb9⟩
        have B9 := Lib.hid (B8.out.trans (hb9.mono B8.out.size))
        clear hb9 B8 P8
        go_wp2_with fail
        refine (sets_any _).mono ?_
        rintro e w10 ⟨rfl, hb10⟩
        have B10 := Lib.hid (B9.out.trans (hb10.mono B9.out.size))
        clear hb10 B9
        go_wp2_with fail
        go_ret
        exact ⟨rfl, B10.out⟩
end Go.Proofs.YtkcfcmigcphjlaaGreat
