/- The law FnBack. -/
import Derived.Test.YtcjoecjijmkbaaaGreatVG
import Derived.Test.YtcjoecjijmkbaaaGreatVB
import Derived.Test.YtcjoecjijmkbaaaGreatEA
import Derived.Test.YtcjoecjijmkbaaaGreatQT
import Derived.Test.YtcjoecjijmkbaaaGreatKA
import Derived.Test.YtcjoecjijmkbaaaGreatTG
import Derived.Test.YtcjoecjijmkbaaaGreatMN
import Derived.Deep.DeepCutAuto

namespace Go.Proofs.YtcjoecjijmkbaaaGreat
open Go.RowKit
set_option linter.unusedVariables false
set_option linter.unusedSimpArgs false
theorem actsT_at3 {w : World} {b c : Nat} {ts : List ActT} (h : ActsT w (.slice (some ⟨b, 0, none⟩) 3 c) ts) : ActAt w b 22 (ts.getD 2 t0) := by
  obtain ⟨_, b', o, e, _, f⟩ := actsT_at h (by omega)
  simp only [Option.some.injEq, Addr.mk.injEq, and_true] at e
  obtain ⟨rfl, rfl⟩ := e
  exact f 2 (by omega)
set_option maxRecDepth 100000 in
set_option maxHeartbeats 6400000 in
theorem law_FnBack (a : Option Addr) (len cap : Nat) (w : World) (hm : len ≤ 9223372036854775807) (hc : Code w w.heap.size a len) : Calls Tryz.prog 5 #[.slice a len cap] w fun e w' => e = .returned (.bool true) ∧ Below w.heap.size w w' := by
  have HC := Lib.hid hc
  clear hc
  go_enter Tryz.func5, Tryz.ntmps5
  go_wp2_with fail
  refine (at_any a len cap w.heap.size 1 _ hm HC.out (by omega)).mono ?_
  rintro e w1 ⟨⟨x1, x10, x11, rfl⟩, bw1⟩
  have BB_0 := Lib.hid (bw1)
  clear bw1
  obtain ⟨m0, m8⟩ := mod_lt x1 x10 8 (by omega)
  obtain ⟨y1, hy1⟩ : ∃ y, y = x1.tmod 8 := ⟨_, rfl⟩
  have gx1 : x1.tmod 8 = y1 := hy1.symm
  have kx1 : IntKind.i64.wrap (x1.tmod 8) = y1 := by rw [gx1]; exact IntWalk.i64_in _ (by have h1 : 0 ≤ x1.tmod 8 := m0; have h2 : x1.tmod 8 < 8 := m8; omega)
  have y10 : 0 ≤ y1 := by rw [hy1]; exact m0
  have y11 : y1 < 8 := by rw [hy1]; exact m8
  clear m0 m8 hy1
  have gm : IntKind.i64.wrap (y1 + 8) = y1 + 8 := IntWalk.i64_in _ (by omega)
  obtain ⟨m, hm8⟩ : ∃ m, m = y1 + 8 := ⟨_, rfl⟩
  have HM8 := Lib.hid hm8
  rw [← hm8] at gm
  clear hm8
  go_upto_region 2 with (fail)
  rw [← HM8.out]
  clear gx1 kx1 gm
  have O := ints_lit2 w1 0 0
  have z : Below w1.heap.size w1 (w1.alloc (.cells #[.int .i64 0, .int .i64 0] 3)) := (Below.refl _ _).alloc (Nat.le_refl _) _
  have BB_1 := Lib.hid (BB_0.out.trans (z.mono BB_0.out.size))
  clear BB_0
  clear z
  have D1_1 := Lib.hid (O)
  clear O
  obtain ⟨q1, hq1⟩ : ∃ q, q = w1.heap.size := ⟨_, rfl⟩
  go_wp2_with fail
  refine (grant_any _ _ _ _ _ _ _ _ _).mono ?_
  rintro e w2 ⟨rfl, b2⟩
  have BB_2 := Lib.hid (BB_1.out.trans (b2.mono BB_1.out.size))
  have D1_2 := Lib.hid (D1_1.out.below (B := 0) b2)
  clear BB_1 D1_1
  clear b2
  have O := ints_lit2 w2 1 0
  have z : Below w2.heap.size w2 (w2.alloc (.cells #[.int .i64 1, .int .i64 0] 3)) := (Below.refl _ _).alloc (Nat.le_refl _) _
  have BB_3 := Lib.hid (BB_2.out.trans (z.mono BB_2.out.size))
  have D1_3 := Lib.hid (D1_2.out.below (B := 0) z)
  clear BB_2 D1_2
  clear z
  have D2_3 := Lib.hid (O)
  clear O
  go_wp2_with fail
  refine (grant_any _ _ _ _ _ _ _ _ _).mono ?_
  rintro e w3 ⟨rfl, b3⟩
  have BB_4 := Lib.hid (BB_3.out.trans (b3.mono BB_3.out.size))
  have D1_4 := Lib.hid (D1_3.out.below (B := 0) b3)
  have D2_4 := Lib.hid (D2_3.out.below (B := 0) b3)
  clear BB_3 D1_3 D2_3
  clear b3
  have O := ints_lit2 w3 2 0
  have z : Below w3.heap.size w3 (w3.alloc (.cells #[.int .i64 2, .int .i64 0] 3)) := (Below.refl _ _).alloc (Nat.le_refl _) _
  have BB_5 := Lib.hid (BB_4.out.trans (z.mono BB_4.out.size))
  have D1_5 := Lib.hid (D1_4.out.below (B := 0) z)
  have D2_5 := Lib.hid (D2_4.out.below (B := 0) z)
  clear BB_4 D1_4 D2_4
  clear z
  have D3_5 := Lib.hid (O)
  clear O
  go_wp2_with fail
  refine (txn_any _ _ _ _ _ _ _ _ _ _).mono ?_
  rintro e w4 ⟨rfl, b4⟩
  have BB_6 := Lib.hid (BB_5.out.trans (b4.mono BB_5.out.size))
  have D1_6 := Lib.hid (D1_5.out.below (B := 0) b4)
  have D2_6 := Lib.hid (D2_5.out.below (B := 0) b4)
  have D3_6 := Lib.hid (D3_5.out.below (B := 0) b4)
  clear BB_5 D1_5 D2_5 D3_5
  clear b4
  obtain ⟨q2, hq2⟩ : ∃ q, q = w2.heap.size := ⟨_, rfl⟩
  obtain ⟨q3, hq3⟩ : ∃ q, q = w3.heap.size := ⟨_, rfl⟩
  rw [← hq1] at D1_6
  rw [← hq2] at D2_6
  rw [← hq3] at D3_6
  rw [← hq1, ← hq2, ← hq3]
  clear hq1 hq2 hq3
  obtain ⟨L, hL⟩ : ∃ P, P = w4.heap.size := ⟨_, rfl⟩
  obtain ⟨W5, hW5⟩ : ∃ V, V = w4.alloc (.cells #[.int .i64 0, .int .i64 1, .slice (some ⟨q1, 0, none⟩) 2 2, .int .i64 0, .int .i64 1, .int .i64 1, .int .i64 0, .int .i64 m, .int .i64 0, .int .i64 0, .slice none 0 0, .int .i64 0, .int .i64 2, .slice (some ⟨q2, 0, none⟩) 2 2, .int .i64 1, .int .i64 1, .int .i64 2, .int .i64 0, .int .i64 (bits .and .i64 m 7), .int .i64 0, .int .i64 0, .slice none 0 0, .int .i64 0, .int .i64 3, .slice (some ⟨q3, 0, none⟩) 2 2, .int .i64 2, .int .i64 4, .int .i64 0, .int .i64 0, .int .i64 0, .int .i64 0, .int .i64 0, .slice none 0 0] 33) := ⟨_, rfl⟩
  have z : Below w4.heap.size w4 W5 := by rw [hW5]; exact (Below.refl _ _).alloc (Nat.le_refl _) _
  have BB_7 := Lib.hid (BB_6.out.trans (z.mono BB_6.out.size))
  have D1_7 := Lib.hid (D1_6.out.below (B := 0) z)
  have D2_7 := Lib.hid (D2_6.out.below (B := 0) z)
  have D3_7 := Lib.hid (D3_6.out.below (B := 0) z)
  clear BB_6 D1_6 D2_6 D3_6
  clear z
  have KL_7 := Lib.hid (show Blk W5 L _ from by rw [hW5, hL]; exact Blk.new w4 _ _)
  go_upto_region 3 with (fail)
  rw [← hL, ← hW5]
  clear hW5 hL
  obtain ⟨tl, htl⟩ : ∃ tl : List ActT, tl = [⟨(bkL m).getD 0 act0, .slice (some ⟨q1, 0, none⟩) 2 2, .slice none 0 0⟩, ⟨(bkL m).getD 1 act0, .slice (some ⟨q2, 0, none⟩) 2 2, .slice none 0 0⟩, ⟨(bkL m).getD 2 act0, .slice (some ⟨q3, 0, none⟩) 2 2, .slice none 0 0⟩] := ⟨_, rfl⟩
  have AL_7 := Lib.hid (show ActsT W5 (.slice (some ⟨L, 0, none⟩) 3 3) tl from by
    rw [htl]
    refine ⟨fun t ht => ?_, .inr ⟨L, 0, 3, rfl, KL_7.out.lt, Nat.le_refl _, by unfold maxLen; omega, fun i hi => ?_⟩⟩
    · simp only [List.mem_cons, List.not_mem_nil, or_false] at ht
      rcases ht with rfl | rfl | rfl
      · exact ⟨D1_7.out, .inl ⟨none, 0, rfl, rfl⟩⟩
      · exact ⟨D2_7.out, .inl ⟨none, 0, rfl, rfl⟩⟩
      · exact ⟨D3_7.out, .inl ⟨none, 0, rfl, rfl⟩⟩
    · have c := KL_7.out.cell
      simp only [List.length_cons, List.length_nil] at hi
      rcases (by omega : i = 0 ∨ i = 1 ∨ i = 2) with rfl | rfl | rfl
      · exact ⟨c 0, c 1, c 2, c 3, c 4, c 5, c 6, c 7, c 8, c 9, c 10⟩
      · exact ⟨c 11, c 12, c 13, c 14, c 15, c 16, c 17, c 18, c 19, c 20, c 21⟩
      · exact ⟨c 22, c 23, c 24, c 25, c 26, c 27, c 28, c 29, c 30, c 31, c 32⟩)
  have TM := Lib.hid (show tl.map ActT.a = bkL m from by rw [htl]; rfl)
  have TL := Lib.hid (show tl.getD 2 t0 = ⟨⟨0, 3, [2, 0], 2, 4, 0, 0, 0, 0, 0, []⟩, .slice (some ⟨q3, 0, none⟩) 2 2, .slice none 0 0⟩ from by rw [htl]; rfl)
  clear htl
  clear D1_7
  clear D2_7
  go_wp2_with fail
  refine (at_any a len cap w.heap.size 2 _ hm (HC.out.other (fun b o hb => (BB_7.out).cell (p := ⟨b, o, none⟩) hb)) (by omega)).mono ?_
  rintro e w6 ⟨⟨x2, x20, x21, rfl⟩, bw6⟩
  have BB_8 := Lib.hid (BB_7.out.trans (bw6.mono BB_7.out.size))
  have D3_8 := Lib.hid (D3_7.out.below (B := 0) bw6)
  have KL_8 := Lib.hid (KL_7.out.below bw6 KL_7.out.lt)
  have AL_8 := Lib.hid (AL_7.out.below bw6)
  clear BB_7 D3_7 KL_7 AL_7
  clear bw6
  obtain ⟨m0, m8⟩ := mod_lt x2 x20 3 (by omega)
  obtain ⟨who, hwho⟩ : ∃ y, y = x2.tmod 3 := ⟨_, rfl⟩
  have gx2 : x2.tmod 3 = who := hwho.symm
  have kx2 : IntKind.i64.wrap (x2.tmod 3) = who := by rw [gx2]; exact IntWalk.i64_in _ (by have h1 : 0 ≤ x2.tmod 3 := m0; have h2 : x2.tmod 3 < 3 := m8; omega)
  have who0 : 0 ≤ who := by rw [hwho]; exact m0
  have who1 : who < 3 := by rw [hwho]; exact m8
  clear m0 m8 hwho
  go_upto_region 4 with (fail)
  clear gx2 kx2
  have O := ints_lit2 w6 3 0
  have z : Below w6.heap.size w6 (w6.alloc (.cells #[.int .i64 3, .int .i64 0] 3)) := (Below.refl _ _).alloc (Nat.le_refl _) _
  have BB_9 := Lib.hid (BB_8.out.trans (z.mono BB_8.out.size))
  have D3_9 := Lib.hid (D3_8.out.below (B := 0) z)
  have KL_9 := Lib.hid (KL_8.out.below z KL_8.out.lt)
  have AL_9 := Lib.hid (AL_8.out.below z)
  clear BB_8 D3_8 KL_8 AL_8
  clear z
  have D4_9 := Lib.hid (O)
  clear O
  obtain ⟨q4, hq4⟩ : ∃ q, q = w6.heap.size := ⟨_, rfl⟩
  go_wp2_with fail
  refine (revoke_any _ _ _ _ _ _ _ _ _).mono ?_
  rintro e w8 ⟨rfl, b8⟩
  have BB_10 := Lib.hid (BB_9.out.trans (b8.mono BB_9.out.size))
  have D3_10 := Lib.hid (D3_9.out.below (B := 0) b8)
  have KL_10 := Lib.hid (KL_9.out.below b8 KL_9.out.lt)
  have AL_10 := Lib.hid (AL_9.out.below b8)
  have D4_10 := Lib.hid (D4_9.out.below (B := 0) b8)
  clear BB_9 D3_9 KL_9 AL_9 D4_9
  clear b8
  rw [← hq4] at D4_10 ⊢
  clear hq4
  have OK := Lib.hid (show bkOk m who from by have h := HM8.out; rw [h]; exact bk_ok y10 y11 who0 who1)
  have CA := Lib.hid (addAct_any (.slice (some ⟨L, 0, none⟩) 3 3) (bkL m) 2 ⟨bkR who, .slice (some ⟨q4, 0, none⟩) 2 2, .slice none 0 0⟩ w8 ⟨tl, TM.out.symm, AL_10.out⟩ (by constructor <;> omega) ⟨D4_10.out, .inl ⟨none, 0, rfl, rfl⟩⟩ ⟨by show 2 ≤ _; omega, by show 0 ≤ _; omega⟩)
  simp only [ActT.val, bkR] at CA
  go_wp2_with fail
  refine (CA.out).mono ?_
  rintro e w9 (⟨hn, _⟩ | ⟨l', hl', v9, rfl, ho9, b9⟩)
  · have := OK.out.1
    rw [show addM (bkL m) 2 (bkR who) = none from hn] at this
    cases this
  have hl2 : l' = bkX m who := by have := OK.out.1; rw [show addM (bkL m) 2 (bkR who) = some l' from hl'] at this; exact Option.some.inj this
  subst hl2
  clear hl' CA
  clear D4_10
  have BB_11 := Lib.hid (BB_10.out.trans (b9.mono BB_10.out.size))
  have D3_11 := Lib.hid (D3_10.out.below (B := 0) b9)
  have KL_11 := Lib.hid (KL_10.out.below b9 KL_10.out.lt)
  have AL_11 := Lib.hid (AL_10.out.below b9)
  clear BB_10 D3_10 KL_10 AL_10
  clear b9
  have X_11 := Lib.hid (ownActs_acts ho9)
  have hlen : (bkX m who).length = 4 := by unfold bkX; rw [putM_length]; rfl
  obtain ⟨ax, cx, hv9⟩ := acts_len (X_11.out)
  rw [hlen] at hv9
  subst hv9
  clear ho9 hlen
  go_wp2_with fail
  refine (implEyeNow2 _ (bkX m who) 2 _ (X_11.out) (by constructor <;> omega)).mono ?_
  rw [OK.out.2.1]
  rintro e w10 ⟨v10, bs10, rfl, ho10, _, b10⟩
  have J := ho10.ints
  have BB_12 := Lib.hid (BB_11.out.trans (b10.mono BB_11.out.size))
  have D3_12 := Lib.hid (D3_11.out.below (B := 0) b10)
  have KL_12 := Lib.hid (KL_11.out.below b10 KL_11.out.lt)
  have AL_12 := Lib.hid (AL_11.out.below b10)
  have X_12 := Lib.hid (X_11.out.below b10)
  clear BB_11 D3_11 KL_11 AL_11 X_11
  clear b10
  have E1_12 := Lib.hid (J)
  obtain ⟨a1, c1, rfl⟩ := ints_two_len J (n := 2) rfl
  clear ho10 J
  obtain ⟨P1, hP1⟩ : ∃ P, P = w10.heap.size := ⟨_, rfl⟩
  obtain ⟨W11, hW11⟩ : ∃ V, V = w10.alloc (.cells #[.int .i64 (-1), .int .i64 0, .slice a1 2 c1] 26) := ⟨_, rfl⟩
  have z : Below w10.heap.size w10 W11 := by rw [hW11]; exact (Below.refl _ _).alloc (Nat.le_refl _) _
  have BB_13 := Lib.hid (BB_12.out.trans (z.mono BB_12.out.size))
  have D3_13 := Lib.hid (D3_12.out.below (B := 0) z)
  have KL_13 := Lib.hid (KL_12.out.below z KL_12.out.lt)
  have AL_13 := Lib.hid (AL_12.out.below z)
  have X_13 := Lib.hid (X_12.out.below z)
  have E1_13 := Lib.hid (E1_12.out.below (B := 0) z)
  clear BB_12 D3_12 KL_12 AL_12 X_12 E1_12
  clear z
  have KP1_13 := Lib.hid (show Blk W11 P1 _ from by rw [hW11, hP1]; exact Blk.new w10 _ _)
  go_upto_region 6 with (fail)
  rw [← hP1, ← hW11]
  clear hW11 hP1
  have at_ := actsT_at3 (AL_13.out)
  have rd := (AL_13.out).1 _ (getD_mem (ts := tl) (i := 2) (by have := congrArg List.length TM.out; rw [List.length_map] at this; rw [this]; exact (show 2 < 3 by omega)))
  rw [TL.out] at at_ rd
  have CF := Lib.hid (implEyeOf2 _ _ W11 rd.is ⟨by show 2 ≤ _; omega, by show 0 ≤ _; omega⟩)
  obtain ⟨c0, e1, e2, e3, e4, e5, e6, e7, e8, e9, e10⟩ := at_
  simp only at c0 e1 e2 e3 e4 e5 e6 e7 e8 e9 e10
  clear rd
  simp only [ActT.val] at CF
  go_wp2_with fail
  refine (CF.out).mono ?_
  rintro e w12 ⟨v12, bs12, rfl, ho12, _, b12⟩
  have J : Ints w12 v12 [2, 0] := ho12.ints
  clear c0 e1 e2 e3 e4 e5 e6 e7 e8 e9 e10 CF
  clear AL_13
  clear KL_13
  clear D3_13
  have BB_14 := Lib.hid (BB_13.out.trans (b12.mono BB_13.out.size))
  have X_14 := Lib.hid (X_13.out.below b12)
  have E1_14 := Lib.hid (E1_13.out.below (B := 0) b12)
  have KP1_14 := Lib.hid (KP1_13.out.below b12 KP1_13.out.lt)
  clear BB_13 X_13 E1_13 KP1_13
  clear b12
  have E2_14 := Lib.hid (J)
  obtain ⟨a2, c2, rfl⟩ := ints_two_len J (n := 2) rfl
  clear ho12 J TM TL
  obtain ⟨P2, hP2⟩ : ∃ P, P = w12.heap.size := ⟨_, rfl⟩
  obtain ⟨W13, hW13⟩ : ∃ V, V = w12.alloc (.cells #[.int .i64 0, .int .i64 3, .slice a2 2 c2] 26) := ⟨_, rfl⟩
  have z : Below w12.heap.size w12 W13 := by rw [hW13]; exact (Below.refl _ _).alloc (Nat.le_refl _) _
  have BB_15 := Lib.hid (BB_14.out.trans (z.mono BB_14.out.size))
  have X_15 := Lib.hid (X_14.out.below z)
  have E1_15 := Lib.hid (E1_14.out.below (B := 0) z)
  have KP1_15 := Lib.hid (KP1_14.out.below z KP1_14.out.lt)
  have E2_15 := Lib.hid (E2_14.out.below (B := 0) z)
  clear BB_14 X_14 E1_14 KP1_14 E2_14
  clear z
  have KP2_15 := Lib.hid (show Blk W13 P2 _ from by rw [hW13, hP2]; exact Blk.new w12 _ _)
  go_upto_region 7 with (fail)
  rw [← hP2, ← hW13]
  clear hW13 hP2
  have c := KP2_15.out.cell
  go_wp2_with fail
  refine (implHolds_any (.slice ax 4 cx) (.slice a2 2 c2) (bkX m who) [2, 0] 2 0 0 3 _ (X_15.out) (E2_15.out) (by constructor <;> omega)).mono ?_
  rw [OK.out.2.2.1]
  rintro e w14 ⟨rfl, b⟩
  clear c
  have BB_16 := Lib.hid (BB_15.out.trans (b.mono BB_15.out.size))
  have X_16 := Lib.hid (X_15.out.below b)
  have E1_16 := Lib.hid (E1_15.out.below (B := 0) b)
  have KP1_16 := Lib.hid (KP1_15.out.below b KP1_15.out.lt)
  have E2_16 := Lib.hid (E2_15.out.below (B := 0) b)
  have KP2_16 := Lib.hid (KP2_15.out.below b KP2_15.out.lt)
  clear BB_15 X_15 E1_15 KP1_15 E2_15 KP2_15
  clear b
  have c := KP2_16.out.cell
  go_wp2_with fail
  refine (implHolds_any (.slice ax 4 cx) (.slice a2 2 c2) (bkX m who) [2, 0] 2 1 0 3 _ (X_16.out) (E2_16.out) (by constructor <;> omega)).mono ?_
  rw [OK.out.2.2.2.1]
  rintro e w15 ⟨rfl, b⟩
  clear c
  have BB_17 := Lib.hid (BB_16.out.trans (b.mono BB_16.out.size))
  have X_17 := Lib.hid (X_16.out.below b)
  have E1_17 := Lib.hid (E1_16.out.below (B := 0) b)
  have KP1_17 := Lib.hid (KP1_16.out.below b KP1_16.out.lt)
  have E2_17 := Lib.hid (E2_16.out.below (B := 0) b)
  have KP2_17 := Lib.hid (KP2_16.out.below b KP2_16.out.lt)
  clear BB_16 X_16 E1_16 KP1_16 E2_16 KP2_16
  clear b
  have hne : (bits .and .i64 m 7 != bits .and .i64 m 7) = false := by simp
  have c := KP2_17.out.cell
  go_wp2_with fail
  refine (implRights_any (.slice ax 4 cx) (.slice a2 2 c2) (bkX m who) [2, 0] 2 2 0 0 3 _ (X_17.out) (E2_17.out) (by constructor <;> omega)).mono ?_
  rw [OK.out.2.2.2.2.1]
  rintro e w16 ⟨rfl, b⟩
  clear c
  have BB_18 := Lib.hid (BB_17.out.trans (b.mono BB_17.out.size))
  have X_18 := Lib.hid (X_17.out.below b)
  have E1_18 := Lib.hid (E1_17.out.below (B := 0) b)
  have KP1_18 := Lib.hid (KP1_17.out.below b KP1_17.out.lt)
  have E2_18 := Lib.hid (E2_17.out.below (B := 0) b)
  have KP2_18 := Lib.hid (KP2_17.out.below b KP2_17.out.lt)
  clear BB_17 X_17 E1_17 KP1_17 E2_17 KP2_17
  clear b
  by_cases hz : who = 0
  · have ez : (who == 0) = true := by simp [hz]
    have OZ := Lib.hid (OK.out.2.2.2.2.2.1 hz)
    clear hz OK
    have c := KP1_18.out.cell
    go_wp2_with fail
    refine (implHolds_any (.slice ax 4 cx) (.slice a1 2 c1) (bkX m who) [3, 1] 2 0 (-1) 0 _ (X_18.out) (E1_18.out) (by constructor <;> omega)).mono ?_
    rw [OZ.out.1]
    rintro e w17 ⟨rfl, b⟩
    clear c
    have BB_19 := Lib.hid (BB_18.out.trans (b.mono BB_18.out.size))
    have X_19 := Lib.hid (X_18.out.below b)
    have E1_19 := Lib.hid (E1_18.out.below (B := 0) b)
    have KP1_19 := Lib.hid (KP1_18.out.below b KP1_18.out.lt)
    have E2_19 := Lib.hid (E2_18.out.below (B := 0) b)
    have KP2_19 := Lib.hid (KP2_18.out.below b KP2_18.out.lt)
    clear BB_18 X_18 E1_18 KP1_18 E2_18 KP2_18
    clear b
    have c := KP1_19.out.cell
    go_wp2_with fail
    refine (implHolds_any (.slice ax 4 cx) (.slice a1 2 c1) (bkX m who) [3, 1] 2 1 (-1) 0 _ (X_19.out) (E1_19.out) (by constructor <;> omega)).mono ?_
    rw [OZ.out.2.1]
    rintro e w18 ⟨rfl, b⟩
    clear c
    have BB_20 := Lib.hid (BB_19.out.trans (b.mono BB_19.out.size))
    have X_20 := Lib.hid (X_19.out.below b)
    have E1_20 := Lib.hid (E1_19.out.below (B := 0) b)
    have KP1_20 := Lib.hid (KP1_19.out.below b KP1_19.out.lt)
    have E2_20 := Lib.hid (E2_19.out.below (B := 0) b)
    have KP2_20 := Lib.hid (KP2_19.out.below b KP2_19.out.lt)
    clear BB_19 X_19 E1_19 KP1_19 E2_19 KP2_19
    clear b
    have c := KP1_20.out.cell
    go_wp2_with fail
    refine (implRights_any (.slice ax 4 cx) (.slice a1 2 c1) (bkX m who) [3, 1] 2 2 0 (-1) 0 _ (X_20.out) (E1_20.out) (by constructor <;> omega)).mono ?_
    rw [OZ.out.2.2]
    rintro e w19 ⟨rfl, b⟩
    clear c
    have BB_21 := Lib.hid (BB_20.out.trans (b.mono BB_20.out.size))
    have X_21 := Lib.hid (X_20.out.below b)
    have E1_21 := Lib.hid (E1_20.out.below (B := 0) b)
    have KP1_21 := Lib.hid (KP1_20.out.below b KP1_20.out.lt)
    have E2_21 := Lib.hid (E2_20.out.below (B := 0) b)
    have KP2_21 := Lib.hid (KP2_20.out.below b KP2_20.out.lt)
    clear BB_20 X_20 E1_20 KP1_20 E2_20 KP2_20
    clear b
    go_wp2_with fail
    refine (rights_any _).mono ?_
    rintro e w20 ⟨rfl, b⟩
    have BB_22 := Lib.hid (BB_21.out.trans (b.mono BB_21.out.size))
    have X_22 := Lib.hid (X_21.out.below b)
    have E1_22 := Lib.hid (E1_21.out.below (B := 0) b)
    have KP1_22 := Lib.hid (KP1_21.out.below b KP1_21.out.lt)
    have E2_22 := Lib.hid (E2_21.out.below (B := 0) b)
    have KP2_22 := Lib.hid (KP2_21.out.below b KP2_21.out.lt)
    clear BB_21 X_21 E1_21 KP1_21 E2_21 KP2_21
    clear b
    go_wp2_with fail
    go_ret
    exact ⟨rfl, BB_22.out⟩
  · have ez : (who == 0) = false := by simp [hz]
    have OZ := Lib.hid (OK.out.2.2.2.2.2.2 hz)
    clear hz OK
    have hmm : (m == m) = true := by simp
    have c := KP1_18.out.cell
    go_wp2_with fail
    refine (implHolds_any (.slice ax 4 cx) (.slice a1 2 c1) (bkX m who) [3, 1] 2 0 (-1) 0 _ (X_18.out) (E1_18.out) (by constructor <;> omega)).mono ?_
    rw [OZ.out.1]
    rintro e w17 ⟨rfl, b⟩
    clear c
    have BB_19 := Lib.hid (BB_18.out.trans (b.mono BB_18.out.size))
    have X_19 := Lib.hid (X_18.out.below b)
    have E1_19 := Lib.hid (E1_18.out.below (B := 0) b)
    have KP1_19 := Lib.hid (KP1_18.out.below b KP1_18.out.lt)
    have E2_19 := Lib.hid (E2_18.out.below (B := 0) b)
    have KP2_19 := Lib.hid (KP2_18.out.below b KP2_18.out.lt)
    clear BB_18 X_18 E1_18 KP1_18 E2_18 KP2_18
    clear b
    have c := KP1_19.out.cell
    go_wp2_with fail
    refine (implRights_any (.slice ax 4 cx) (.slice a1 2 c1) (bkX m who) [3, 1] 2 1 0 (-1) 0 _ (X_19.out) (E1_19.out) (by constructor <;> omega)).mono ?_
    rw [OZ.out.2]
    rintro e w18 ⟨rfl, b⟩
    clear c
    have BB_20 := Lib.hid (BB_19.out.trans (b.mono BB_19.out.size))
    have X_20 := Lib.hid (X_19.out.below b)
    have E1_20 := Lib.hid (E1_19.out.below (B := 0) b)
    have KP1_20 := Lib.hid (KP1_19.out.below b KP1_19.out.lt)
    have E2_20 := Lib.hid (E2_19.out.below (B := 0) b)
    have KP2_20 := Lib.hid (KP2_19.out.below b KP2_19.out.lt)
    clear BB_19 X_19 E1_19 KP1_19 E2_19 KP2_19
    clear b
    go_wp2_with fail
    refine (rights_any _).mono ?_
    rintro e w20 ⟨rfl, b⟩
    have BB_21 := Lib.hid (BB_20.out.trans (b.mono BB_20.out.size))
    have X_21 := Lib.hid (X_20.out.below b)
    have E1_21 := Lib.hid (E1_20.out.below (B := 0) b)
    have KP1_21 := Lib.hid (KP1_20.out.below b KP1_20.out.lt)
    have E2_21 := Lib.hid (E2_20.out.below (B := 0) b)
    have KP2_21 := Lib.hid (KP2_20.out.below b KP2_20.out.lt)
    clear BB_20 X_20 E1_20 KP1_20 E2_20 KP2_20
    clear b
    go_wp2_with fail
    go_ret
    exact ⟨rfl, BB_21.out⟩
end Go.Proofs.YtcjoecjijmkbaaaGreat
