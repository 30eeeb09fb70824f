/- The law FnUnions. -/
import Derived.Test.YtkcfcmigcphjlaaGreatRN
import Derived.Test.YtkcfcmigcphjlaaGreatRJ
import Derived.Test.YtkcfcmigcphjlaaGreatRK
import Derived.Test.YtkcfcmigcphjlaaGreatRE
import Derived.Test.YtkcfcmigcphjlaaGreatQM





namespace Go.Proofs.YtkcfcmigcphjlaaGreat
open Go.RowKit
set_option linter.unusedVariables false

theorem clockOf_set {l : List ActM} {n : Nat} (h : setOkM l n = true) : clockOfM l n = clockM l n := by unfold clockOfM; rw [if_pos h, Int.toNat_natCast]
set_option maxRecDepth 100000 in
set_option maxHeartbeats 6400000 in
theorem law_FnUnions (a : Option Addr) (len cap : Nat) (w : World) (hm : len ≤ 9223372036854775807) (hc : Code w w.heap.size a len) : Calls Tryz.prog 5 #[.slice a len cap] w fun e w' => e = .returned (.bool true) ∧ Below w.heap.size w w' := by
  have HC := Lib.hid hc
  clear hc
  go_enter Tryz.func5, Tryz.ntmps5
  go_wp2_with fail
  refine (drawUnion_any a len cap _ hm HC.out).mono ?_
  rintro e W ⟨v, v', l, m, n, rfl, ha, hb, hl61, hm61, n0, n5, b0⟩
  obtain ⟨k, rfl⟩ := Int.eq_ofNat_of_zero_le n0
  obtain ⟨x, y, rfl⟩ := acts_len ha
  obtain ⟨x', y', rfl⟩ := acts_len hb
  have B0 := Lib.hid b0
  have A0 := Lib.hid ha
  have M0 := Lib.hid hb
  obtain ⟨p, hp⟩ : ∃ p, p = l.length := ⟨_, rfl⟩
  obtain ⟨q, hq⟩ : ∃ q, q = m.length := ⟨_, rfl⟩
  rw [← hp] at A0 ⊢
  rw [← hq] at M0 ⊢
  clear ha hb b0 hl61 hm61 HC hp hq n0
  go_wp2_with fail
  refine (implUnion_any _ _ l m k _ A0.out M0.out (by constructor <;> omega)).mono ?_
  rintro e w1 ⟨v1, bs1, rfl, ho1, _, hb1⟩
  have B1 := Lib.hid (B0.out.trans (hb1.mono B0.out.size))
  have A1 := Lib.hid (A0.out.below hb1)
  have M1 := Lib.hid (M0.out.below hb1)
  have X1 := Lib.hid ho1.acts
  clear ho1 hb1 B0 A0 M0
  obtain ⟨x1, y1, rfl⟩ := acts_len X1.out
  obtain ⟨p1, hp1⟩ : ∃ p, p = (unL l m k).length := ⟨_, rfl⟩
  rw [← hp1] at X1 ⊢
  have HP1 := Lib.hid hp1
  clear hp1
  go_wp2_with fail
  refine (implUnion_any _ _ m l k _ M1.out A1.out (by constructor <;> omega)).mono ?_
  rintro e w2 ⟨v2, bs2, rfl, ho2, _, hb2⟩
  have B2 := Lib.hid (B1.out.trans (hb2.mono B1.out.size))
  have A2 := Lib.hid (A1.out.below hb2)
  have M2 := Lib.hid (M1.out.below hb2)
  have X2 := Lib.hid (X1.out.below hb2)
  have Y2 := Lib.hid ho2.acts
  clear ho2 hb2 B1 A1 M1 X1
  obtain ⟨x2, y2, rfl⟩ := acts_len Y2.out
  have EL : unL m l k = unL l m k := by unfold unL; rw [union_symm]
  have EB : unB m l k = unB l m k := by unfold unB; rw [union_symm]
  rw [EL, ← HP1.out] at Y2 ⊢
  rw [EB]
  clear EL EB
  have CS := Lib.hid (union_any _ _ l m k w2 A2.out M2.out (by constructor <;> omega))
  cases hu : unionM l m k with
  | none =>
    have e1 : unB l m k = false := by unfold unB; rw [hu]; rfl
    have e2 : p1 = 0 := by rw [HP1.out]; unfold unL; rw [hu]; rfl
    subst e2
    rw [e1]
    have HU := Lib.hid hu
    clear e1 hu HP1
    go_wp2_with fail
    refine CS.out.mono ?_
    rintro e w3 (⟨_, rfl, hb3⟩ | ⟨l', hl', _⟩)
    · have B3 := Lib.hid (B2.out.trans (hb3.mono B2.out.size))
      clear hb3 B2 A2 M2 X2 Y2 CS
      go_wp2_with fail
      refine (sets_any _).mono ?_
      rintro e w4 ⟨rfl, hb4⟩
      have B4 := Lib.hid (B3.out.trans (hb4.mono B3.out.size))
      clear hb4 B3
      go_wp2_with fail
      go_ret
      exact ⟨rfl, B4.out⟩
    · rw [HU.out] at hl'
      cases hl'
  | some X =>
    have e1 : unB l m k = true := by unfold unB; rw [hu]; rfl
    have e2 : unL l m k = X := by unfold unL; rw [hu]; rfl
    rw [e2] at X2 Y2
    rw [e1]
    have HS := Lib.hid (union_self hu)
    have e3 : unB X l k = true := by unfold unB; rw [HS.out]; rfl
    have e4 : unL X l k = X := by unfold unL; rw [HS.out]; rfl
    obtain ⟨s1, s2, s3, _⟩ := union_some hu
    have E1 := Lib.hid (clockOf_set s1)
    have E2 := Lib.hid (clockOf_set s2)
    have E3 := Lib.hid (clockOf_set s3)
    have HC := Lib.hid (union_clock hu)
    have E4 := Lib.hid e3
    have E5 := Lib.hid e4
    have HU := Lib.hid hu
    clear e1 e2 e3 e4 s1 s2 s3 hu HS HP1
    go_wp2_with fail
    refine CS.out.mono ?_
    rintro e w3 (⟨hn, _⟩ | ⟨l', hl', v3, rfl, _, hb3⟩)
    · rw [HU.out] at hn
      cases hn
    · have B3 := Lib.hid (B2.out.trans (hb3.mono B2.out.size))
      have A3 := Lib.hid (A2.out.below hb3)
      have M3 := Lib.hid (M2.out.below hb3)
      have X3 := Lib.hid (X2.out.below hb3)
      have Y3 := Lib.hid (Y2.out.below hb3)
      obtain ⟨x3, y3, hx3⟩ : ∃ x y, v3 = .slice x l'.length y := by
        rename_i ho3
        obtain ⟨ts, e, o⟩ := ho3
        have := acts_len (w := w3) (v := v3) (l := l') ⟨ts, e, ownT_acts o⟩
        exact this
      subst hx3
      generalize l'.length = p3
      clear hb3 hl' B2 A2 M2 X2 Y2 CS HU
      go_wp2_with fail
      refine (implUnion_any _ _ X l k _ X3.out A3.out (by constructor <;> omega)).mono ?_
      rintro e w4 ⟨v4, bs4, rfl, ho4, _, hb4⟩
      have B4 := Lib.hid (B3.out.trans (hb4.mono B3.out.size))
      have A4 := Lib.hid (A3.out.below hb4)
      have M4 := Lib.hid (M3.out.below hb4)
      have X4 := Lib.hid (X3.out.below hb4)
      have Y4 := Lib.hid (Y3.out.below hb4)
      have Z4 := Lib.hid ho4.acts
      clear ho4 hb4 B3 A3 M3 X3 Y3
      rw [E5.out] at Z4
      rw [E4.out]
      obtain ⟨x4, y4, rfl⟩ := acts_len Z4.out
      obtain ⟨p4, hp4⟩ : ∃ p, p = X.length := ⟨_, rfl⟩
      rw [← hp4] at Z4 ⊢
      clear hp4 E4 E5
      go_wp2_with fail
      refine (sameActs_any _ _ X X _ X4.out Y4.out).mono ?_
      rw [show decide (X = X) = true from by simp]
      rintro e w5 ⟨rfl, hb5⟩
      have B5 := Lib.hid (B4.out.trans (hb5.mono B4.out.size))
      have A5 := Lib.hid (A4.out.below hb5)
      have M5 := Lib.hid (M4.out.below hb5)
      have X5 := Lib.hid (X4.out.below hb5)
      have Z5 := Lib.hid (Z4.out.below hb5)
      clear hb5 B4 A4 M4 X4 Y4 Z4
      go_wp2_with fail
      refine (sameActs_any _ _ X X _ Z5.out X5.out).mono ?_
      rw [show decide (X = X) = true from by simp]
      rintro e w6 ⟨rfl, hb6⟩
      have B6 := Lib.hid (B5.out.trans (hb6.mono B5.out.size))
      have A6 := Lib.hid (A5.out.below hb6)
      have M6 := Lib.hid (M5.out.below hb6)
      have X6 := Lib.hid (X5.out.below hb6)
      clear hb6 B5 A5 M5 X5 Z5
      go_wp2_with fail
      refine (implClockOf_any _ X k _ X6.out (by constructor <;> omega)).mono ?_
      rw [E3.out]
      rintro e w7 ⟨g7, v7, rfl, _, ho7, hb7⟩
      have B7 := Lib.hid (B6.out.trans (hb7.mono B6.out.size))
      have A7 := Lib.hid (A6.out.below hb7)
      have M7 := Lib.hid (M6.out.below hb7)
      have I7 := Lib.hid (own_ints ho7)
      clear hb7 ho7 B6 A6 M6 X6
      obtain ⟨a7, c7, rfl⟩ := ints_len I7.out
      obtain ⟨p7, hp7⟩ : ∃ p, p = (clockM X k).length := ⟨_, rfl⟩
      rw [← hp7] at I7 ⊢
      clear hp7
      go_wp2_with fail
      refine (implClockOf_any _ l k _ A7.out (by constructor <;> omega)).mono ?_
      rw [E1.out]
      rintro e w8 ⟨g8, v8, rfl, _, ho8, hb8⟩
      have B8 := Lib.hid (B7.out.trans (hb8.mono B7.out.size))
      have M8 := Lib.hid (M7.out.below hb8)
      have I8 := Lib.hid (I7.out.below (B := 0) hb8)
      have J8 := Lib.hid (own_ints ho8)
      clear hb8 ho8 B7 A7 M7 I7
      obtain ⟨a8, c8, rfl⟩ := ints_len J8.out
      obtain ⟨p8, hp8⟩ : ∃ p, p = (clockM l k).length := ⟨_, rfl⟩
      rw [← hp8] at J8 ⊢
      clear hp8
      go_wp2_with fail
      refine (implClockOf_any _ m k _ M8.out (by constructor <;> omega)).mono ?_
      rw [E2.out]
      rintro e w9 ⟨g9, v9, rfl, _, ho9, hb9⟩
      have B9 := Lib.hid (B8.out.trans (hb9.mono B8.out.size))
      have I9 := Lib.hid (I8.out.below (B := 0) hb9)
      have J9 := Lib.hid (J8.out.below (B := 0) hb9)
      have K9 := Lib.hid (own_ints ho9)
      clear hb9 ho9 B8 M8 I8 J8
      obtain ⟨a9, c9, rfl⟩ := ints_len K9.out
      obtain ⟨p9, hp9⟩ : ∃ p, p = (clockM m k).length := ⟨_, rfl⟩
      rw [← hp9] at K9 ⊢
      clear hp9
      go_wp2_with fail
      refine (ClockMax_any _ _ (clockM l k) (clockM m k) _ J9.out K9.out).mono ?_
      rw [HC.out]
      rintro e w10 ⟨g10, v10, rfl, _, ho10, hb10⟩
      have B10 := Lib.hid (B9.out.trans (hb10.mono B9.out.size))
      have I10 := Lib.hid (I9.out.below (B := 0) hb10)
      have L10 := Lib.hid (own_ints ho10)
      clear hb10 ho10 B9 I9 J9 K9
      obtain ⟨a10, c10, rfl⟩ := ints_len L10.out
      obtain ⟨p10, hp10⟩ : ∃ p, p = (clockM X k).length := ⟨_, rfl⟩
      rw [← hp10] at L10 ⊢
      clear hp10
      go_wp2_with fail
      refine (sameInts_any _ _ (clockM X k) (clockM X k) _ I10.out L10.out).mono ?_
      rw [show eqB (clockM X k) (clockM X k) = true from by simp [eqB]]
      rintro e w11 ⟨rfl, q11, rfl⟩
      have B11 := Lib.hid (below_drewN B10.out q11)
      clear B10 I10 L10
      generalize w10.drewN q11 = w11 at B11 ⊢
      go_wp2_with fail
      refine (sets_any _).mono ?_
      rintro e w12 ⟨rfl, hb12⟩
      have B12 := Lib.hid (B11.out.trans (hb12.mono B11.out.size))
      clear hb12 B11
      go_wp2_with fail
      go_ret
      exact ⟨rfl, B12.out⟩
end Go.Proofs.YtkcfcmigcphjlaaGreat
