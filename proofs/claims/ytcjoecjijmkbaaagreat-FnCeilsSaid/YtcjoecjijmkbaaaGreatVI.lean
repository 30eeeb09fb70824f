/- The law FnCeils. -/
import Derived.Test.YtcjoecjijmkbaaaGreatVG
import Derived.Test.YtcjoecjijmkbaaaGreatVB
import Derived.Test.YtcjoecjijmkbaaaGreatEA
import Derived.Test.YtcjoecjijmkbaaaGreatMN
import Derived.Test.YtcjoecjijmkbaaaGreatQT
import Derived.Test.YtcjoecjijmkbaaaGreatKA
import Derived.Test.YtcjoecjijmkbaaaGreatTG
import Derived.Deep.DeepCutAuto

namespace Go.Proofs.YtcjoecjijmkbaaaGreat
open Go.RowKit
set_option linter.unusedVariables false
set_option linter.unusedSimpArgs false
theorem actsT_atL {w : World} {b n c : Nat} {ts : List ActT} (h : ActsT w (.slice (some ⟨b, 0, none⟩) n c) ts) (i : Nat) (hi : i < n) : ActAt w b (0 + i * 11) (ts.getD i t0) := by
  obtain ⟨_, b', o, e, _, f⟩ := actsT_at h (by omega)
  simp only [Option.some.injEq, Addr.mk.injEq, and_true] at e
  obtain ⟨rfl, rfl⟩ := e
  exact f i hi
set_option maxRecDepth 100000 in
set_option maxHeartbeats 6400000 in
theorem law_FnCeils (a : Option Addr) (len cap : Nat) (w : World) (hm : len ≤ 9223372036854775807) (hc : Code w w.heap.size a len) : Calls Tryz.prog 6 #[.slice a len cap] w fun e w' => e = .returned (.bool true) ∧ Below w.heap.size w w' := by
  have HC := Lib.hid hc
  clear hc
  go_enter Tryz.func6, Tryz.ntmps6
  go_wp2_with fail
  refine (at_any a len cap w.heap.size 1 _ hm HC.out (by omega)).mono ?_
  rintro e w1 ⟨⟨x1, x10, x11, rfl⟩, bw1⟩
  have BB_0 := Lib.hid (bw1)
  clear bw1
  obtain ⟨m0, m8⟩ := mod_lt x1 x10 16 (by omega)
  obtain ⟨aa, haa⟩ : ∃ y, y = x1.tmod 16 := ⟨_, rfl⟩
  have gx1 : x1.tmod 16 = aa := haa.symm
  have kx1 : IntKind.i64.wrap (x1.tmod 16) = aa := by rw [gx1]; exact IntWalk.i64_in _ (by have h1 : 0 ≤ x1.tmod 16 := m0; have h2 : x1.tmod 16 < 16 := m8; omega)
  have aa0 : 0 ≤ aa := by rw [haa]; exact m0
  have aa1 : aa < 16 := by rw [haa]; exact m8
  clear m0 m8 haa
  go_upto_region 2 with (fail)
  clear gx1 kx1
  go_wp2_with fail
  refine (at_any a len cap w.heap.size 2 _ hm (HC.out.other (fun b o hb => (BB_0.out).cell (p := ⟨b, o, none⟩) hb)) (by omega)).mono ?_
  rintro e w2 ⟨⟨x2, x20, x21, rfl⟩, bw2⟩
  have BB_1 := Lib.hid (BB_0.out.trans (bw2.mono BB_0.out.size))
  clear BB_0
  clear bw2
  obtain ⟨m0, m8⟩ := mod_lt x2 x20 16 (by omega)
  obtain ⟨bb, hbb⟩ : ∃ y, y = x2.tmod 16 := ⟨_, rfl⟩
  have gx2 : x2.tmod 16 = bb := hbb.symm
  have kx2 : IntKind.i64.wrap (x2.tmod 16) = bb := by rw [gx2]; exact IntWalk.i64_in _ (by have h1 : 0 ≤ x2.tmod 16 := m0; have h2 : x2.tmod 16 < 16 := m8; omega)
  have bb0 : 0 ≤ bb := by rw [hbb]; exact m0
  have bb1 : bb < 16 := by rw [hbb]; exact m8
  clear m0 m8 hbb
  go_upto_region 3 with (fail)
  clear gx2 kx2
  have O := ints_lit2 w2 0 0
  have z : Below w2.heap.size w2 (w2.alloc (.cells #[.int .i64 0, .int .i64 0] 3)) := (Below.refl _ _).alloc (Nat.le_refl _) _
  have BB_2 := Lib.hid (BB_1.out.trans (z.mono BB_1.out.size))
  clear BB_1
  clear z
  have D1_2 := Lib.hid (O)
  clear O
  obtain ⟨q1, hq1⟩ : ∃ q, q = w2.heap.size := ⟨_, rfl⟩
  go_wp2_with fail
  refine (grant_any _ _ _ _ _ _ _ _ _).mono ?_
  rintro e w3 ⟨rfl, b3⟩
  have BB_3 := Lib.hid (BB_2.out.trans (b3.mono BB_2.out.size))
  have D1_3 := Lib.hid (D1_2.out.below (B := 0) b3)
  clear BB_2 D1_2
  clear b3
  rw [← hq1] at D1_3 ⊢
  clear hq1
  have z1 : Below w3.heap.size w3 (w3.alloc (.cells #[.int .i64 1, .int .i64 0] 3)) := (Below.refl _ _).alloc (Nat.le_refl _) _
  have O2 := ints_lit2 w3 1 0
  have BB_4 := Lib.hid (BB_3.out.trans (z1.mono BB_3.out.size))
  have D1_4 := Lib.hid (D1_3.out.below (B := 0) z1)
  clear BB_3 D1_3
  clear z1
  have D2_4 := Lib.hid (O2)
  have z1 : Below (w3.alloc (.cells #[.int .i64 1, .int .i64 0] 3)).heap.size (w3.alloc (.cells #[.int .i64 1, .int .i64 0] 3)) ((w3.alloc (.cells #[.int .i64 1, .int .i64 0] 3)).alloc (.cells #[.int .i64 2, .int .i64 0] 3)) := (Below.refl _ _).alloc (Nat.le_refl _) _
  have O3 := ints_lit2 (w3.alloc (.cells #[.int .i64 1, .int .i64 0] 3)) 2 0
  have BB_5 := Lib.hid (BB_4.out.trans (z1.mono BB_4.out.size))
  have D1_5 := Lib.hid (D1_4.out.below (B := 0) z1)
  have D2_5 := Lib.hid (D2_4.out.below (B := 0) z1)
  clear BB_4 D1_4 D2_4
  clear z1
  have D3_5 := Lib.hid (O3)
  have z1 : Below ((w3.alloc (.cells #[.int .i64 1, .int .i64 0] 3)).alloc (.cells #[.int .i64 2, .int .i64 0] 3)).heap.size ((w3.alloc (.cells #[.int .i64 1, .int .i64 0] 3)).alloc (.cells #[.int .i64 2, .int .i64 0] 3)) (((w3.alloc (.cells #[.int .i64 1, .int .i64 0] 3)).alloc (.cells #[.int .i64 2, .int .i64 0] 3)).alloc (.cells #[.int .i64 2, .int .i64 0] 3)) := (Below.refl _ _).alloc (Nat.le_refl _) _
  have O4 := ints_lit2 ((w3.alloc (.cells #[.int .i64 1, .int .i64 0] 3)).alloc (.cells #[.int .i64 2, .int .i64 0] 3)) 2 0
  have BB_6 := Lib.hid (BB_5.out.trans (z1.mono BB_5.out.size))
  have D1_6 := Lib.hid (D1_5.out.below (B := 0) z1)
  have D2_6 := Lib.hid (D2_5.out.below (B := 0) z1)
  have D3_6 := Lib.hid (D3_5.out.below (B := 0) z1)
  clear BB_5 D1_5 D2_5 D3_5
  clear z1
  have D4_6 := Lib.hid (O4)
  clear O2 O3 O4
  obtain ⟨w6, hw6⟩ : ∃ V, V = (((w3.alloc (.cells #[.int .i64 1, .int .i64 0] 3)).alloc (.cells #[.int .i64 2, .int .i64 0] 3)).alloc (.cells #[.int .i64 2, .int .i64 0] 3)) := ⟨_, rfl⟩
  have hs6 : w6.heap.size = w3.heap.size + 3 := by rw [hw6]; simp
  rw [← hw6] at BB_6
  rw [← hw6] at D1_6
  rw [← hw6] at D2_6
  rw [← hw6] at D3_6
  rw [← hw6] at D4_6
  simp only [World.size_alloc, Nat.add_assoc, Nat.reduceAdd] at D3_6 D4_6
  obtain ⟨W5, hW5⟩ : ∃ V, V = w6.alloc (.cells #[.int .i64 0, .int .i64 1, .slice (some ⟨q1, 0, none⟩) 2 2, .int .i64 0, .int .i64 1, .int .i64 1, .int .i64 0, .int .i64 15, .int .i64 0, .int .i64 0, .slice none 0 0, .int .i64 0, .int .i64 2, .slice (some ⟨w3.heap.size, 0, none⟩) 2 2, .int .i64 0, .int .i64 3, .int .i64 0, .int .i64 0, .int .i64 aa, .int .i64 0, .int .i64 0, .slice none 0 0, .int .i64 0, .int .i64 3, .slice (some ⟨w3.heap.size + 1, 0, none⟩) 2 2, .int .i64 0, .int .i64 3, .int .i64 0, .int .i64 0, .int .i64 bb, .int .i64 0, .int .i64 0, .slice none 0 0, .int .i64 1, .int .i64 1, .slice (some ⟨w3.heap.size + 2, 0, none⟩) 2 2, .int .i64 1, .int .i64 4, .int .i64 0, .int .i64 0, .int .i64 0, .int .i64 0, .int .i64 0, .slice none 0 0] 33) := ⟨_, rfl⟩
  have z : Below w6.heap.size w6 W5 := by rw [hW5]; exact (Below.refl _ _).alloc (Nat.le_refl _) _
  have BB_7 := Lib.hid (BB_6.out.trans (z.mono BB_6.out.size))
  have D1_7 := Lib.hid (D1_6.out.below (B := 0) z)
  have D2_7 := Lib.hid (D2_6.out.below (B := 0) z)
  have D3_7 := Lib.hid (D3_6.out.below (B := 0) z)
  have D4_7 := Lib.hid (D4_6.out.below (B := 0) z)
  clear BB_6 D1_6 D2_6 D3_6 D4_6
  clear z
  have KL_7 := Lib.hid (show Blk W5 (w3.heap.size + 3) _ from by rw [hW5, ← hs6]; exact Blk.new w6 _ _)
  rw [hw6] at hW5
  go_upto_region 4 with (fail)
  rw [← hW5]
  clear hW5 hw6 hs6
  obtain ⟨q, hq⟩ : ∃ q, q = w3.heap.size := ⟨_, rfl⟩
  rw [← hq] at D2_7 D3_7 D4_7 KL_7 ⊢
  clear hq
  obtain ⟨L, hL⟩ : ∃ L, L = q + 3 := ⟨_, rfl⟩
  rw [← hL] at KL_7 ⊢
  clear hL
  obtain ⟨tl, htl⟩ : ∃ tl : List ActT, tl = [⟨(clL aa bb).getD 0 act0, .slice (some ⟨q1, 0, none⟩) 2 2, .slice none 0 0⟩, ⟨(clL aa bb).getD 1 act0, .slice (some ⟨q, 0, none⟩) 2 2, .slice none 0 0⟩, ⟨(clL aa bb).getD 2 act0, .slice (some ⟨q + 1, 0, none⟩) 2 2, .slice none 0 0⟩, ⟨(clL aa bb).getD 3 act0, .slice (some ⟨q + 2, 0, none⟩) 2 2, .slice none 0 0⟩] := ⟨_, rfl⟩
  have AL_7 := Lib.hid (show ActsT W5 (.slice (some ⟨L, 0, none⟩) 4 4) tl from by
    rw [htl]
    refine ⟨fun t ht => ?_, .inr ⟨L, 0, 4, rfl, KL_7.out.lt, Nat.le_refl _, by unfold maxLen; omega, fun i hi => ?_⟩⟩
    · simp only [List.mem_cons, List.not_mem_nil, or_false] at ht
      rcases ht with rfl | rfl | rfl | rfl
      · exact ⟨D1_7.out, .inl ⟨none, 0, rfl, rfl⟩⟩
      · exact ⟨D2_7.out, .inl ⟨none, 0, rfl, rfl⟩⟩
      · exact ⟨D3_7.out, .inl ⟨none, 0, rfl, rfl⟩⟩
      · exact ⟨D4_7.out, .inl ⟨none, 0, rfl, rfl⟩⟩
    · have c := KL_7.out.cell
      simp only [List.length_cons, List.length_nil] at hi
      rcases (by omega : i = 0 ∨ i = 1 ∨ i = 2 ∨ i = 3) with rfl | rfl | rfl | rfl
      · exact ⟨c 0, c 1, c 2, c 3, c 4, c 5, c 6, c 7, c 8, c 9, c 10⟩
      · exact ⟨c 11, c 12, c 13, c 14, c 15, c 16, c 17, c 18, c 19, c 20, c 21⟩
      · exact ⟨c 22, c 23, c 24, c 25, c 26, c 27, c 28, c 29, c 30, c 31, c 32⟩
      · exact ⟨c 33, c 34, c 35, c 36, c 37, c 38, c 39, c 40, c 41, c 42, c 43⟩)
  have TM := Lib.hid (show tl.map ActT.a = clL aa bb from by rw [htl]; rfl)
  have TLN := Lib.hid (show tl.length = 4 from by rw [htl]; rfl)
  have T1 := Lib.hid (show tl.getD 1 t0 = ⟨⟨0, 2, [1, 0], 0, 3, 0, 0, aa, 0, 0, []⟩, .slice (some ⟨q, 0, none⟩) 2 2, .slice none 0 0⟩ from by rw [htl]; rfl)
  have T3 := Lib.hid (show tl.getD 3 t0 = ⟨⟨1, 1, [2, 0], 1, 4, 0, 0, 0, 0, 0, []⟩, .slice (some ⟨q + 2, 0, none⟩) 2 2, .slice none 0 0⟩ from by rw [htl]; rfl)
  have OK := Lib.hid (cl_ok aa0 aa1 bb0 bb1)
  clear htl
  clear D1_7
  clear D2_7
  clear D3_7
  clear D4_7
  clear KL_7
  go_wp2
  go_loopw [6, 7] (fun xv iv wr => ∃ (i : Nat) (v : Value), v = xv ∧ i ≤ 4 ∧ iv = .int .i64 i ∧ Hid (Acts wr v (clX aa bb i)) ∧ Hid (Below W5.heap.size W5 wr)) (fun _ iv _ => 4 - (intOf iv).toNat)
  case atStart => exact ⟨0, _, rfl, Nat.zero_le _, rfl, Lib.hid (acts_empty _ _ _), Lib.hid (Below.refl _ _)⟩
  case round =>
    obtain ⟨i, v, hv, hi, rfl, hX, hbel⟩ := hrel
    subst hv
    by_cases hlt : i < 4
    · have at_ := actsT_atL (AL_7.out.below hbel.out) i hlt
      have rd := Lib.hid ((AL_7.out.below hbel.out).1 _ (getD_mem (ts := tl) (i := i) (by rw [TLN.out]; exact hlt)))
      have ta := Lib.hid (show (tl.getD i t0).a = (clL aa bb).getD i act0 from by rw [← TM.out, getD_map (by rw [TLN.out]; exact hlt)])
      generalize tl.getD i t0 = T at at_ rd ta
      have sm : T.a.Small := by
        rw [ta.out]
        rcases (by omega : i = 0 ∨ i = 1 ∨ i = 2 ∨ i = 3) with rfl | rfl | rfl | rfl <;> exact ⟨by show 2 ≤ _; omega, by show 0 ≤ _; omega⟩
      have CA := Lib.hid (addAct_any v (clX aa bb i) 2 T wr hX.out (by constructor <;> omega) rd.out sm)
      have AD := Lib.hid (show addM (clX aa bb i) 2 T.a = some (clX aa bb (i + 1)) from by rw [ta.out]; exact OK.out.1 i (List.mem_range.2 hlt))
      obtain ⟨xu, yu, hu⟩ := acts_len hX.out
      generalize (clX aa bb i).length = pu at hu
      subst hu
      simp only [ActT.val] at CA
      have i0 : (0 : Int) ≤ i := by omega
      have i1 : (i : Int) < 4 := by omega
      obtain ⟨c0, c1, c2, c3, c4, c5, c6, c7, c8, c9, c10⟩ := at_
      simp only [Nat.zero_add] at c0 c1 c2 c3 c4 c5 c6 c7 c8 c9 c10
      clear ta sm rd hX
      go_wp2_with fail
      refine CA.out.mono ?_
      rintro e w7 (⟨hn, _⟩ | ⟨l', hl', v7, rfl, ho7, hb7⟩)
      · rw [AD.out] at hn
        cases hn
      · rw [AD.out] at hl'
        injection hl' with hl'
        subst hl'
        have B7 := Lib.hid (hbel.out.trans (hb7.mono hbel.out.size))
        have X7 := Lib.hid (ownActs_acts ho7)
        obtain ⟨x7, y7, hx7⟩ := acts_len X7.out
        generalize (clX aa bb (i + 1)).length = p7 at hx7
        subst hx7
        clear ho7 hb7 CA AD c0 c1 c2 c3 c4 c5 c6 c7 c8 c9 c10 hbel
        go_wp2_with fail
        go_roundw
        case rel => exact ⟨i + 1, _, rfl, by omega, by go_num, X7, B7⟩
        case measure => simp [intOf]; omega
    · have hi4 : i = 4 := by omega
      rw [hi4] at hX
      clear hi4
      have b := hbel.out
      have BB_8 := Lib.hid (BB_7.out.trans (b.mono BB_7.out.size))
      have AL_8 := Lib.hid (AL_7.out.below b)
      have X_8 := Lib.hid (hX.out)
      clear b hbel
      obtain ⟨ax, cx, hu⟩ := acts_len hX.out
      generalize (clX aa bb 4).length = pu at hu
      subst hu
      clear hX
      have hb_ : (bb == bb) = true := by simp
      have ha_ : (aa == aa) = true := by simp
      have hab : (bits .and .i64 aa bb == bits .and .i64 aa bb) = true := by simp
      go_wp2_with fail
      refine (implEyeNow2 _ (clX aa bb 4) 2 _ (X_8.out) (by constructor <;> omega)).mono ?_
      rw [OK.out.2.1]
      rintro e w11a ⟨ve, bse, rfl, hoe, _, b⟩
      have J := hoe.ints
      have BB_9 := Lib.hid (BB_8.out.trans (b.mono BB_8.out.size))
      have AL_9 := Lib.hid (AL_8.out.below b)
      have X_9 := Lib.hid (X_8.out.below b)
      clear BB_8 AL_8 X_8
      clear b
      have E_9 := Lib.hid (J)
      obtain ⟨ae, ce, rfl⟩ := ints_two_len J (n := 2) rfl
      clear hoe J
      go_wp2_with fail
      refine (implRights_any (.slice ax pu cx) (.slice ae 2 ce) (clX aa bb 4) [3, 1] 2 1 0 (-1) 0 _ (X_9.out) (E_9.out) (by constructor <;> omega)).mono ?_
      rw [OK.out.2.2.1]
      rintro e w11 ⟨rfl, b⟩
      clear E_9
      have BB_10 := Lib.hid (BB_9.out.trans (b.mono BB_9.out.size))
      have AL_10 := Lib.hid (AL_9.out.below b)
      have X_10 := Lib.hid (X_9.out.below b)
      clear BB_9 AL_9 X_9
      clear b
      have at_ := actsT_atL (AL_10.out) 3 (by omega)
      have rd := (AL_10.out).1 _ (getD_mem (ts := tl) (i := 3) (by rw [TLN.out]; omega))
      rw [T3.out] at at_ rd
      have CF := Lib.hid (implEyeOf2 _ _ _ rd.is ⟨by show 2 ≤ _; omega, by show 0 ≤ _; omega⟩)
      obtain ⟨c0, e1, e2, e3, e4, e5, e6, e7, e8, e9, e10⟩ := at_
      simp only [Nat.zero_add, Nat.reduceAdd, Nat.reduceMul] at c0 e1 e2 e3 e4 e5 e6 e7 e8 e9 e10
      clear rd
      simp only [ActT.val] at CF
      go_wp2_with fail
      refine (CF.out).mono ?_
      rintro e w12a ⟨ve, bse, rfl, hoe, _, b⟩
      have J : Ints w12a ve [2, 0] := hoe.ints
      clear c0 e1 e2 e3 e4 e5 e6 e7 e8 e9 e10 CF
      have BB_11 := Lib.hid (BB_10.out.trans (b.mono BB_10.out.size))
      have AL_11 := Lib.hid (AL_10.out.below b)
      have X_11 := Lib.hid (X_10.out.below b)
      clear BB_10 AL_10 X_10
      clear b
      have E_11 := Lib.hid (J)
      obtain ⟨ae, ce, rfl⟩ := ints_two_len J (n := 2) rfl
      clear hoe J
      go_wp2_with fail
      refine (implRights_any (.slice ax pu cx) (.slice ae 2 ce) (clX aa bb 4) [2, 0] 2 1 0 1 1 _ (X_11.out) (E_11.out) (by constructor <;> omega)).mono ?_
      rw [OK.out.2.2.2.1]
      rintro e w12 ⟨rfl, b⟩
      clear E_11
      have BB_12 := Lib.hid (BB_11.out.trans (b.mono BB_11.out.size))
      have AL_12 := Lib.hid (AL_11.out.below b)
      have X_12 := Lib.hid (X_11.out.below b)
      clear BB_11 AL_11 X_11
      clear b
      go_wp2_with fail
      refine (implEyeNow2 _ (clX aa bb 4) 2 _ (X_12.out) (by constructor <;> omega)).mono ?_
      rw [OK.out.2.1]
      rintro e w13a ⟨ve, bse, rfl, hoe, _, b⟩
      have J := hoe.ints
      have BB_13 := Lib.hid (BB_12.out.trans (b.mono BB_12.out.size))
      have AL_13 := Lib.hid (AL_12.out.below b)
      have X_13 := Lib.hid (X_12.out.below b)
      clear BB_12 AL_12 X_12
      clear b
      have E_13 := Lib.hid (J)
      obtain ⟨ae, ce, rfl⟩ := ints_two_len J (n := 2) rfl
      clear hoe J
      go_wp2_with fail
      refine (implRights_any (.slice ax pu cx) (.slice ae 2 ce) (clX aa bb 4) [3, 1] 2 0 0 (-1) 0 _ (X_13.out) (E_13.out) (by constructor <;> omega)).mono ?_
      rw [OK.out.2.2.2.2.1]
      rintro e w13 ⟨rfl, b⟩
      clear E_13
      have BB_14 := Lib.hid (BB_13.out.trans (b.mono BB_13.out.size))
      have AL_14 := Lib.hid (AL_13.out.below b)
      have X_14 := Lib.hid (X_13.out.below b)
      clear BB_13 AL_13 X_13
      clear b
      have at_ := actsT_atL (AL_14.out) 1 (by omega)
      have rd := (AL_14.out).1 _ (getD_mem (ts := tl) (i := 1) (by rw [TLN.out]; omega))
      rw [T1.out] at at_ rd
      have CF := Lib.hid (implEyeOf2 _ _ _ rd.is ⟨by show 2 ≤ _; omega, by show 0 ≤ _; omega⟩)
      obtain ⟨c0, e1, e2, e3, e4, e5, e6, e7, e8, e9, e10⟩ := at_
      simp only [Nat.zero_add, Nat.reduceAdd, Nat.reduceMul] at c0 e1 e2 e3 e4 e5 e6 e7 e8 e9 e10
      clear rd
      simp only [ActT.val] at CF
      go_wp2_with fail
      refine (CF.out).mono ?_
      rintro e w14a ⟨ve, bse, rfl, hoe, _, b⟩
      have J : Ints w14a ve [1, 0] := hoe.ints
      clear c0 e1 e2 e3 e4 e5 e6 e7 e8 e9 e10 CF
      have BB_15 := Lib.hid (BB_14.out.trans (b.mono BB_14.out.size))
      have AL_15 := Lib.hid (AL_14.out.below b)
      have X_15 := Lib.hid (X_14.out.below b)
      clear BB_14 AL_14 X_14
      clear b
      have E_15 := Lib.hid (J)
      obtain ⟨ae, ce, rfl⟩ := ints_two_len J (n := 2) rfl
      clear hoe J
      go_wp2_with fail
      refine (implRights_any (.slice ax pu cx) (.slice ae 2 ce) (clX aa bb 4) [1, 0] 2 1 0 0 2 _ (X_15.out) (E_15.out) (by constructor <;> omega)).mono ?_
      rw [OK.out.2.2.2.2.2.1]
      rintro e w14 ⟨rfl, b⟩
      clear E_15
      have BB_16 := Lib.hid (BB_15.out.trans (b.mono BB_15.out.size))
      have AL_16 := Lib.hid (AL_15.out.below b)
      have X_16 := Lib.hid (X_15.out.below b)
      clear BB_15 AL_15 X_15
      clear b
      go_wp2_with fail
      refine (implEyeNow2 _ (clX aa bb 4) 2 _ (X_16.out) (by constructor <;> omega)).mono ?_
      rw [OK.out.2.1]
      rintro e w15a ⟨ve, bse, rfl, hoe, _, b⟩
      have J := hoe.ints
      have BB_17 := Lib.hid (BB_16.out.trans (b.mono BB_16.out.size))
      have AL_17 := Lib.hid (AL_16.out.below b)
      have X_17 := Lib.hid (X_16.out.below b)
      clear BB_16 AL_16 X_16
      clear b
      have E_17 := Lib.hid (J)
      obtain ⟨ae, ce, rfl⟩ := ints_two_len J (n := 2) rfl
      clear hoe J
      go_wp2_with fail
      refine (implRights_any (.slice ax pu cx) (.slice ae 2 ce) (clX aa bb 4) [3, 1] 2 1 1 (-1) 0 _ (X_17.out) (E_17.out) (by constructor <;> omega)).mono ?_
      rw [OK.out.2.2.2.2.2.2]
      rintro e w15 ⟨rfl, b⟩
      clear E_17
      have BB_18 := Lib.hid (BB_17.out.trans (b.mono BB_17.out.size))
      have AL_18 := Lib.hid (AL_17.out.below b)
      have X_18 := Lib.hid (X_17.out.below b)
      clear BB_17 AL_17 X_17
      clear b
      go_wp2_with fail
      refine (rights_any _).mono ?_
      rintro e w16 ⟨rfl, b⟩
      have BB_19 := Lib.hid (BB_18.out.trans (b.mono BB_18.out.size))
      have AL_19 := Lib.hid (AL_18.out.below b)
      have X_19 := Lib.hid (X_18.out.below b)
      clear BB_18 AL_18 X_18
      clear b
      go_wp2_with fail
      go_ret
      exact ⟨rfl, BB_19.out⟩
end Go.Proofs.YtcjoecjijmkbaaaGreat
