/- The program's settled, Settled. -/
import Derived.Test.YtjjgigoehgabkaaSU
import Derived.Test.YtjjgigoehgabkaaHF
import Derived.Deep.DeepCutAuto
namespace Go.Proofs.Ytjjgigoehgabkaa
open Go.RowKit
set_option linter.unusedVariables false
set_option linter.unusedSimpArgs false

theorem min_ok2 {xs ys : List Int} {n : Nat} (l1 : xs.length = n) (l2 : ys.length = n) : (List.zipWith mn xs ys).length = n := by simp; omega

set_option maxRecDepth 100000 in
set_option maxHeartbeats 6400000 in
theorem settledP_any (a : Option Addr) (K cap mb m : Nat) (q0 q1 q2 q3 : Int) (ts : List ActT) (w : World) (hK : K = ts.length) (hts : ActsT w (.slice a K cap) ts) (hs : setOkM (ts.map ActT.a) m = true)
    (hq : ∀ i, i < 4 → [q0, q1, q2, q3].getD i 0 = (cntM (ts.map ActT.a) i : Int)) (hown : w.ownsMap Try.prog 117 (plainElem Try.prog 3) mb K (atD (ts.map ActT.a) 0 (.map []))) :
    Calls Try.prog 136 #[.agg #[.slice a K cap, .map (some mb), .int .i64 m, .int .i64 q0, .int .i64 q1, .int .i64 q2, .int .i64 q3]] w fun e w' => e = .returned (kcV m (settledM (ts.map ActT.a) m)) ∧ Below w.heap.size w w' := by
  have hm4 : m ≤ 4 := by have := (setOk_all hs).2.1; omega
  obtain ⟨ck1, ck2, ck3⟩ := clock_ok hs
  have e0 : q0 = (clockM (ts.map ActT.a) m).getD 0 0 := by rw [ck3 0 (by omega), ← hq 0 (by omega)]; rfl
  have e1 : q1 = (clockM (ts.map ActT.a) m).getD 1 0 := by rw [ck3 1 (by omega), ← hq 1 (by omega)]; rfl
  have e2 : q2 = (clockM (ts.map ActT.a) m).getD 2 0 := by rw [ck3 2 (by omega), ← hq 2 (by omega)]; rfl
  have e3 : q3 = (clockM (ts.map ActT.a) m).getD 3 0 := by rw [ck3 3 (by omega), ← hq 3 (by omega)]; rfl
  have KA := Lib.hid (fun p (hp : p < m) W (hW : Below w.heap.size w W) => knownAt_any a K cap mb m p q0 q1 q2 q3 ts W hK (hts.below hW) hs hp hq (hown.kept (below_grown hW none) (by simp)))
  have KL := Lib.hid (fun p (hp : p < m) => (known_parts hs hp).2.1)
  have HR0 := settled_prog hs
  rw [List.range_eq_range'] at HR0
  obtain ⟨X0, hX0⟩ : ∃ X, X = clockM (ts.map ActT.a) m := ⟨_, rfl⟩
  obtain ⟨kn, hkn⟩ : ∃ f, f = fun p => knownM (ts.map ActT.a) m p := ⟨_, rfl⟩
  have hkn2 : ∀ p, knownM (ts.map ActT.a) m p = kn p := fun p => by rw [hkn]
  rw [← hX0] at ck2 e0 e1 e2 e3 HR0
  simp only [hkn2] at KA KL HR0
  obtain ⟨RES, hRES⟩ : ∃ R, R = settledM (ts.map ActT.a) m := ⟨_, rfl⟩
  rw [← hRES] at HR0 ⊢
  have HR := Lib.hid HR0
  obtain ⟨V, hV⟩ : ∃ V, V = kcV m RES := ⟨_, rfl⟩
  rw [← hV]
  have HVV := Lib.hid hV
  clear hV
  have HX := Lib.hid ck2
  have Q0 := Lib.hid e0
  have Q1 := Lib.hid e1
  have Q2 := Lib.hid e2
  have Q3 := Lib.hid e3
  clear hRES HR0 ck1 ck2 ck3 e0 e1 e2 e3 hX0 hkn hkn2 hK hts hs hq hown
  have BW := Lib.hid (Below.refl w.heap.size w)
  go_enter Try.func136, Try.ntmps136
  have kS := (Blk.new w #[.slice a K cap, .map (some mb), .int .i64 m, .int .i64 q0, .int .i64 q1, .int .i64 q2, .int .i64 q3] 99).alloc (.cells #[.int .i64 0, .int .i64 0, .int .i64 0, .int .i64 0, .int .i64 0] 97)
  have kR := Blk.new (w.alloc (.cells #[.slice a K cap, .map (some mb), .int .i64 m, .int .i64 q0, .int .i64 q1, .int .i64 q2, .int .i64 q3] 99)) #[.int .i64 0, .int .i64 0, .int .i64 0, .int .i64 0, .int .i64 0] 97
  simp only [World.size_alloc] at kR
  have ba := ((Below.refl w.heap.size w).alloc (Nat.le_refl _) (.cells #[.slice a K cap, .map (some mb), .int .i64 m, .int .i64 q0, .int .i64 q1, .int .i64 q2, .int .i64 q3] 99)).alloc (by simp [World.size_alloc]; try omega) (.cells #[.int .i64 0, .int .i64 0, .int .i64 0, .int .i64 0, .int .i64 0] 97)
  obtain ⟨pS, hpS⟩ : ∃ p, p = w.heap.size := ⟨_, rfl⟩
  obtain ⟨pR, hpR⟩ : ∃ p, p = w.heap.size + 1 := ⟨_, rfl⟩
  go_upto_region 1 with (fail)
  rw [← hpR] at kR
  try rw [← hpR]
  rw [← hpS] at kS
  try rw [← hpS]
  obtain ⟨w1, hW⟩ : ∃ W, W = (w.alloc (.cells #[.slice a K cap, .map (some mb), .int .i64 m, .int .i64 q0, .int .i64 q1, .int .i64 q2, .int .i64 q3] 99)).alloc (.cells #[.int .i64 0, .int .i64 0, .int .i64 0, .int .i64 0, .int .i64 0] 97) := ⟨_, rfl⟩
  rw [← hW] at ba kS kR ⊢
  have KS := Lib.hid kS
  have GS := Lib.hid (show w.heap.size ≤ pS by omega)
  have KR := Lib.hid kR
  have GR := Lib.hid (show w.heap.size ≤ pR by omega)
  have NES_R := Lib.hid (show pS ≠ pR by omega)
  replace BW := Lib.hid (BW.out.trans ((ba).mono BW.out.size))
  clear ba hW kS hpS kR hpR
  have s0 := KS.out.cell 0
  have s1 := KS.out.cell 1
  have s2 := KS.out.cell 2
  have s3 := KS.out.cell 3
  have s4 := KS.out.cell 4
  have s5 := KS.out.cell 5
  have s6 := KS.out.cell 6
  simp only [List.getElem?_cons_zero, List.getElem?_cons_succ] at s0 s1 s2 s3 s4 s5 s6
  go_upto_region 2 with (fail)
  clear s0 s1 s2 s3 s4 s5 s6
  have BSZ := Lib.hid BW.out.size
  have kC := Blk.new w1 #[.int .i64 m, .int .i64 q0, .int .i64 q1, .int .i64 q2, .int .i64 q3] 97
  have ba := (Below.refl w1.heap.size w1).alloc (Nat.le_refl _) (.cells #[.int .i64 m, .int .i64 q0, .int .i64 q1, .int .i64 q2, .int .i64 q3] 97)
  obtain ⟨pC, hpC⟩ : ∃ p, p = w1.heap.size := ⟨_, rfl⟩
  rw [← hpC] at kC
  try rw [← hpC]
  obtain ⟨w2, hW⟩ : ∃ W, W = w1.alloc (.cells #[.int .i64 m, .int .i64 q0, .int .i64 q1, .int .i64 q2, .int .i64 q3] 97) := ⟨_, rfl⟩
  rw [← hW] at ba kC ⊢
  have KC := Lib.hid kC
  have GC := Lib.hid (show w1.heap.size ≤ pC by omega)
  have NES_C := Lib.hid (show pS ≠ pC by have := KS.out.lt; omega)
  have NER_C := Lib.hid (show pR ≠ pC by have := KR.out.lt; omega)
  replace BW := Lib.hid (BW.out.trans ((ba).mono BW.out.size))
  replace KS := Lib.hid (KS.out.below (ba) KS.out.lt)
  replace KR := Lib.hid (KR.out.below (ba) KR.out.lt)
  clear ba hW kC hpC
  replace GC := Lib.hid (Nat.le_trans BSZ.out GC.out)
  have s0 := KS.out.cell 0
  have s1 := KS.out.cell 1
  have s2 := KS.out.cell 2
  have s3 := KS.out.cell 3
  have s4 := KS.out.cell 4
  have s5 := KS.out.cell 5
  have s6 := KS.out.cell 6
  simp only [List.getElem?_cons_zero, List.getElem?_cons_succ] at s0 s1 s2 s3 s4 s5 s6
  go_wp2_with fail
  clear s0 s1 s2 s3 s4 s5 s6
  go_loopw [10] (fun i wr => ∃ (j : Nat) (X : List Int), j ≤ m ∧ i = .int .i64 j ∧ Hid (X.length = m) ∧ Hid (RES = (List.range' j (m - j)).foldl (fun c p => List.zipWith mn c (kn p)) X) ∧ Hid (Blk wr pC [.int .i64 m, .int .i64 (X.getD 0 0), .int .i64 (X.getD 1 0), .int .i64 (X.getD 2 0), .int .i64 (X.getD 3 0)]) ∧ Hid (Blk wr pS [.slice a K cap, .map (some mb), .int .i64 m, .int .i64 q0, .int .i64 q1, .int .i64 q2, .int .i64 q3]) ∧ Hid (Blk wr pR [.int .i64 0, .int .i64 0, .int .i64 0, .int .i64 0, .int .i64 0]) ∧ Hid (Below w.heap.size w wr)) (fun i _ => m - (intOf i).toNat)
  case atStart => exact ⟨0, X0, Nat.zero_le _, rfl, HX.out, HR.out.symm, by rw [← Q0.out, ← Q1.out, ← Q2.out, ← Q3.out]; exact KC.out, KS.out, KR.out, BW.out⟩
  case round =>
    obtain ⟨j, X, hj, rfl, hx, hg, hkc, hks, hkr, hbel⟩ := hrel
    clear BW KS KC KR HR HX Q0 Q1 Q2 Q3
    have BW := hbel
    have KS := hks
    have KC := hkc
    have KR := hkr
    clear hbel hks hkc hkr
    by_cases hlt : j < m
    · have hst := hg.out
      rw [show m - j = (m - (j + 1)) + 1 from by omega, List.range'_succ, List.foldl_cons] at hst
      have HST := Lib.hid hst
      have hyl := KL.out j hlt
      have LS := Lib.hid (fun W => lesser_any m (X.getD 0 0) (X.getD 1 0) (X.getD 2 0) (X.getD 3 0) ((kn j).getD 0 0) ((kn j).getD 1 0) ((kn j).getD 2 0) ((kn j).getD 3 0) m (kcV m (List.zipWith mn X (kn j))) (by rw [mnk_zip hx.out hyl]; simp) W (by omega) (by omega))
      have HZL := Lib.hid (min_ok2 hx.out hyl)
      have KJ := Lib.hid (KA.out j hlt)
      obtain ⟨Z, hZ⟩ : ∃ Z, Z = List.zipWith mn X (kn j) := ⟨_, rfl⟩
      rw [← hZ] at LS HZL HST
      unfold kcV at KJ LS
      clear hst hg hyl hZ
      generalize (kn j).getD 0 0 = y0 at *
      generalize (kn j).getD 1 0 = y1 at *
      generalize (kn j).getD 2 0 = y2 at *
      generalize (kn j).getD 3 0 = y3 at *
      generalize hz0 : Z.getD 0 0 = z0 at *
      generalize hz1 : Z.getD 1 0 = z1 at *
      generalize hz2 : Z.getD 2 0 = z2 at *
      generalize hz3 : Z.getD 3 0 = z3 at *
      generalize X.getD 0 0 = x0 at *
      generalize X.getD 1 0 = x1 at *
      generalize X.getD 2 0 = x2 at *
      generalize X.getD 3 0 = x3 at *
      have HZ0 := Lib.hid hz0
      clear hz0
      have HZ1 := Lib.hid hz1
      clear hz1
      have HZ2 := Lib.hid hz2
      clear hz2
      have HZ3 := Lib.hid hz3
      clear hz3
      go_upto_region 5 with (fail)
      refine wp_region_held_drew (S := fun w' => Below w.heap.size w w' ∧ Blk w' pS [.slice a K cap, .map (some mb), .int .i64 m, .int .i64 q0, .int .i64 q1, .int .i64 q2, .int .i64 q3] ∧ Blk w' pR [.int .i64 0, .int .i64 0, .int .i64 0, .int .i64 0, .int .i64 0]) (by kernel_rfl) ⟨BW.out.drew, KS.out.below ((Below.refl _ _).drew) KS.out.lt, KR.out.below ((Below.refl _ _).drew) KR.out.lt⟩ (fun hHeld => ?_)
      refine held_take (i := 1) (d := some 14) (v := ?_) rfl (by kernel_rfl) (by kernel_rfl) (by kernel_rfl) (by kernel_rfl) (fun _ _ _ h => h) (by kernel_rfl) ?_ hHeld ?_
      rotate_left
      · intro w' hSw
        have gS := hSw.2.1
        have s0 := gS.cell 0
        have s1 := gS.cell 1
        have s2 := gS.cell 2
        have s3 := gS.cell 3
        have s4 := gS.cell 4
        have s5 := gS.cell 5
        have s6 := gS.cell 6
        simp only [List.getElem?_cons_zero, List.getElem?_cons_succ] at s0 s1 s2 s3 s4 s5 s6
        go_simp
        first | done | with_reducible rfl
      simp only [Act.put, List.setIfInBounds_toArray, List.set_cons_zero, List.set_cons_succ]
      refine held_take (i := 2) (d := some 15) (v := ?_) rfl (by kernel_rfl) (by kernel_rfl) (by kernel_rfl) (by kernel_rfl) (fun _ _ _ h => h) (by kernel_rfl) ?_ hHeld ?_
      rotate_left
      · intro w' hSw
        go_simp
        first | done | with_reducible rfl
      simp only [Act.put, List.setIfInBounds_toArray, List.set_cons_zero, List.set_cons_succ]
      have NEC := Lib.hid (show pC ≠ pS ∧ pC ≠ pR from ⟨fun e => NES_C.out e.symm, fun e => NER_C.out e.symm⟩)
      refine wpAnyH_ready (rs := [0, 3]) (by kernel_rfl) (by simp) ?_
      refine AllReadyH.cons rfl (fun KQ hK => ?_) (AllReadyH.cons rfl (fun KQ hK => ?_) AllReadyH.nil)
      · have kc := KC.out.below ((Below.refl wr.heap.size wr).drew) KC.out.lt
        have c0 := kc.cell 0
        have c1 := kc.cell 1
        have c2 := kc.cell 2
        have c3 := kc.cell 3
        have c4 := kc.cell 4
        simp only [List.getElem?_cons_zero, List.getElem?_cons_succ] at c0 c1 c2 c3 c4
        go_simp
        refine hK.out _ _ hHeld (fun hHeld => ?_)
        clear hK KQ c0 c1 c2 c3 c4 kc
        try simp only [Act.put, List.setIfInBounds_toArray, List.set_cons_zero, List.set_cons_succ]
        have BD := Lib.hid ((Below.refl wr.heap.size wr).drew)
        refine wpAnyH_ready (rs := [3]) (by kernel_rfl) (by simp) ?_
        refine AllReadyH.cons rfl (fun KQ hK => ?_) AllReadyH.nil
        go_simp
        refine (KJ.out _ hHeld.1).mono ?_
        rintro e w4 ⟨rfl, bw4⟩
        have hS2 : Below w.heap.size w w4 ∧ Blk w4 pS [.slice a K cap, .map (some mb), .int .i64 m, .int .i64 q0, .int .i64 q1, .int .i64 q2, .int .i64 q3] ∧ Blk w4 pR [.int .i64 0, .int .i64 0, .int .i64 0, .int .i64 0, .int .i64 0] := ⟨hHeld.1.trans (bw4.mono hHeld.1.size), hHeld.2.1.below bw4 hHeld.2.1.lt, hHeld.2.2.below bw4 hHeld.2.2.lt⟩
        have Bw4 := Lib.hid bw4
        clear bw4
        refine hK.out _ _ hS2 (fun hHeld => ?_)
        clear hK KQ hS2
        try simp only [Act.put, List.setIfInBounds_toArray, List.set_cons_zero, List.set_cons_succ]
        refine wpAnyH_ready (rs := [4]) (by kernel_rfl) (by simp) ?_
        refine AllReadyH.cons rfl (fun KQ hK => ?_) AllReadyH.nil
        go_simp
        refine (LS.out _).mono ?_
        rintro e w5 ⟨rfl, b5⟩
        have hS2 : Below w.heap.size w w5 ∧ Blk w5 pS [.slice a K cap, .map (some mb), .int .i64 m, .int .i64 q0, .int .i64 q1, .int .i64 q2, .int .i64 q3] ∧ Blk w5 pR [.int .i64 0, .int .i64 0, .int .i64 0, .int .i64 0, .int .i64 0] := ⟨hHeld.1.trans (b5.mono hHeld.1.size), hHeld.2.1.below b5 hHeld.2.1.lt, hHeld.2.2.below b5 hHeld.2.2.lt⟩
        have K5 := Lib.hid (((KC.out.below BD.out KC.out.lt).below Bw4.out (KC.out.below BD.out KC.out.lt).lt).below b5 ((KC.out.below BD.out KC.out.lt).below Bw4.out (KC.out.below BD.out KC.out.lt).lt).lt)
        clear b5
        refine hK.out _ _ hS2 (fun hHeld => ?_)
        clear hK KQ hS2
        try simp only [Act.put, List.setIfInBounds_toArray, List.set_cons_zero, List.set_cons_succ]
        refine wpAnyH_ready (rs := [5]) (by kernel_rfl) (by simp) ?_
        refine AllReadyH.cons rfl (fun KQ hK => ?_) AllReadyH.nil
        have fc := K5.out.free
        have c0 := K5.out.cell 0
        have c1 := K5.out.cell 1
        have c2 := K5.out.cell 2
        have c3 := K5.out.cell 3
        have c4 := K5.out.cell 4
        simp only [List.getElem?_cons_zero, List.getElem?_cons_succ] at c0 c1 c2 c3 c4
        have hks5 := Lib.hid hHeld.2.1
        have hkr5 := Lib.hid hHeld.2.2
        have hb5 := Lib.hid hHeld.1
        clear hHeld
        go_simp
        clear c0 c1 c2 c3 c4 fc
        replace BW := hb5
        replace KS := hks5
        replace KR := hkr5
        replace KC := K5
        clear hb5 hks5 hkr5 K5
        obtain ⟨w6, hW⟩ : ∃ W, W = ((((w5.setCell ⟨pC, 0, none⟩ (.int .i64 m)).setCell ⟨pC, 1, none⟩ (.int .i64 z0)).setCell ⟨pC, 2, none⟩ (.int .i64 z1)).setCell ⟨pC, 3, none⟩ (.int .i64 z2)).setCell ⟨pC, 4, none⟩ (.int .i64 z3) := ⟨_, rfl⟩
        rw [← hW]
        have ks := (((((KC.out.set (j := 0) (by simp) (.int .i64 m)).set (j := 1) (by simp) (.int .i64 z0)).set (j := 2) (by simp) (.int .i64 z1)).set (j := 3) (by simp) (.int .i64 z2)).set (j := 4) (by simp) (.int .i64 z3))
        simp only [List.set_cons_zero, List.set_cons_succ] at ks
        rw [← hW] at ks
        have bs' := (((((BW.out.setCell (p := ⟨pC, 0, none⟩) GC.out (.int .i64 m)).setCell (p := ⟨pC, 1, none⟩) GC.out (.int .i64 z0)).setCell (p := ⟨pC, 2, none⟩) GC.out (.int .i64 z1)).setCell (p := ⟨pC, 3, none⟩) GC.out (.int .i64 z2)).setCell (p := ⟨pC, 4, none⟩) GC.out (.int .i64 z3))
        rw [← hW] at bs'
        have ko := (((((KS.out.other (p := ⟨pC, 0, none⟩) (by first | exact NEC_S.out | exact (fun e => NES_C.out e.symm)) (.int .i64 m)).other (p := ⟨pC, 1, none⟩) (by first | exact NEC_S.out | exact (fun e => NES_C.out e.symm)) (.int .i64 z0)).other (p := ⟨pC, 2, none⟩) (by first | exact NEC_S.out | exact (fun e => NES_C.out e.symm)) (.int .i64 z1)).other (p := ⟨pC, 3, none⟩) (by first | exact NEC_S.out | exact (fun e => NES_C.out e.symm)) (.int .i64 z2)).other (p := ⟨pC, 4, none⟩) (by first | exact NEC_S.out | exact (fun e => NES_C.out e.symm)) (.int .i64 z3))
        rw [← hW] at ko
        replace KS := Lib.hid ko
        clear ko
        have ko := (((((KR.out.other (p := ⟨pC, 0, none⟩) (by first | exact NEC_R.out | exact (fun e => NER_C.out e.symm)) (.int .i64 m)).other (p := ⟨pC, 1, none⟩) (by first | exact NEC_R.out | exact (fun e => NER_C.out e.symm)) (.int .i64 z0)).other (p := ⟨pC, 2, none⟩) (by first | exact NEC_R.out | exact (fun e => NER_C.out e.symm)) (.int .i64 z1)).other (p := ⟨pC, 3, none⟩) (by first | exact NEC_R.out | exact (fun e => NER_C.out e.symm)) (.int .i64 z2)).other (p := ⟨pC, 4, none⟩) (by first | exact NEC_R.out | exact (fun e => NER_C.out e.symm)) (.int .i64 z3))
        rw [← hW] at ko
        replace KR := Lib.hid ko
        clear ko
        replace KC := Lib.hid ks
        replace BW := Lib.hid bs'
        clear ks bs' hW
        refine hK.out _ _ ⟨BW.out, KS.out, KR.out⟩ (fun hHeld => ?_)
        clear hK KQ
        refine wpAnyH_done (by kernel_rfl) ?_ _
        clear hHeld
        go_wp2_with fail
        go_roundw
        case rel => exact ⟨j + 1, Z, by omega, by go_num, HZL.out, HST.out, by rw [HZ0.out, HZ1.out, HZ2.out, HZ3.out]; exact KC.out, KS.out, KR.out, BW.out⟩
        case measure => simp [intOf]; omega
      · go_simp
        refine (KJ.out _ hHeld.1).mono ?_
        rintro e w4 ⟨rfl, bw4⟩
        have hS2 : Below w.heap.size w w4 ∧ Blk w4 pS [.slice a K cap, .map (some mb), .int .i64 m, .int .i64 q0, .int .i64 q1, .int .i64 q2, .int .i64 q3] ∧ Blk w4 pR [.int .i64 0, .int .i64 0, .int .i64 0, .int .i64 0, .int .i64 0] := ⟨hHeld.1.trans (bw4.mono hHeld.1.size), hHeld.2.1.below bw4 hHeld.2.1.lt, hHeld.2.2.below bw4 hHeld.2.2.lt⟩
        have Bw4 := Lib.hid bw4
        clear bw4
        refine hK.out _ _ hS2 (fun hHeld => ?_)
        clear hK KQ hS2
        try simp only [Act.put, List.setIfInBounds_toArray, List.set_cons_zero, List.set_cons_succ]
        have BD := Lib.hid ((Below.refl wr.heap.size wr).drew)
        refine wpAnyH_ready (rs := [0]) (by kernel_rfl) (by simp) ?_
        refine AllReadyH.cons rfl (fun KQ hK => ?_) AllReadyH.nil
        have kc := (KC.out.below BD.out KC.out.lt).below Bw4.out (KC.out.below BD.out KC.out.lt).lt
        have c0 := kc.cell 0
        have c1 := kc.cell 1
        have c2 := kc.cell 2
        have c3 := kc.cell 3
        have c4 := kc.cell 4
        simp only [List.getElem?_cons_zero, List.getElem?_cons_succ] at c0 c1 c2 c3 c4
        go_simp
        refine hK.out _ _ hHeld (fun hHeld => ?_)
        clear hK KQ c0 c1 c2 c3 c4 kc
        try simp only [Act.put, List.setIfInBounds_toArray, List.set_cons_zero, List.set_cons_succ]
        refine wpAnyH_ready (rs := [4]) (by kernel_rfl) (by simp) ?_
        refine AllReadyH.cons rfl (fun KQ hK => ?_) AllReadyH.nil
        go_simp
        refine (LS.out _).mono ?_
        rintro e w5 ⟨rfl, b5⟩
        have hS2 : Below w.heap.size w w5 ∧ Blk w5 pS [.slice a K cap, .map (some mb), .int .i64 m, .int .i64 q0, .int .i64 q1, .int .i64 q2, .int .i64 q3] ∧ Blk w5 pR [.int .i64 0, .int .i64 0, .int .i64 0, .int .i64 0, .int .i64 0] := ⟨hHeld.1.trans (b5.mono hHeld.1.size), hHeld.2.1.below b5 hHeld.2.1.lt, hHeld.2.2.below b5 hHeld.2.2.lt⟩
        have K5 := Lib.hid (((KC.out.below BD.out KC.out.lt).below Bw4.out (KC.out.below BD.out KC.out.lt).lt).below b5 ((KC.out.below BD.out KC.out.lt).below Bw4.out (KC.out.below BD.out KC.out.lt).lt).lt)
        clear b5
        refine hK.out _ _ hS2 (fun hHeld => ?_)
        clear hK KQ hS2
        try simp only [Act.put, List.setIfInBounds_toArray, List.set_cons_zero, List.set_cons_succ]
        refine wpAnyH_ready (rs := [5]) (by kernel_rfl) (by simp) ?_
        refine AllReadyH.cons rfl (fun KQ hK => ?_) AllReadyH.nil
        have fc := K5.out.free
        have c0 := K5.out.cell 0
        have c1 := K5.out.cell 1
        have c2 := K5.out.cell 2
        have c3 := K5.out.cell 3
        have c4 := K5.out.cell 4
        simp only [List.getElem?_cons_zero, List.getElem?_cons_succ] at c0 c1 c2 c3 c4
        have hks5 := Lib.hid hHeld.2.1
        have hkr5 := Lib.hid hHeld.2.2
        have hb5 := Lib.hid hHeld.1
        clear hHeld
        go_simp
        clear c0 c1 c2 c3 c4 fc
        replace BW := hb5
        replace KS := hks5
        replace KR := hkr5
        replace KC := K5
        clear hb5 hks5 hkr5 K5
        obtain ⟨w6, hW⟩ : ∃ W, W = ((((w5.setCell ⟨pC, 0, none⟩ (.int .i64 m)).setCell ⟨pC, 1, none⟩ (.int .i64 z0)).setCell ⟨pC, 2, none⟩ (.int .i64 z1)).setCell ⟨pC, 3, none⟩ (.int .i64 z2)).setCell ⟨pC, 4, none⟩ (.int .i64 z3) := ⟨_, rfl⟩
        rw [← hW]
        have ks := (((((KC.out.set (j := 0) (by simp) (.int .i64 m)).set (j := 1) (by simp) (.int .i64 z0)).set (j := 2) (by simp) (.int .i64 z1)).set (j := 3) (by simp) (.int .i64 z2)).set (j := 4) (by simp) (.int .i64 z3))
        simp only [List.set_cons_zero, List.set_cons_succ] at ks
        rw [← hW] at ks
        have bs' := (((((BW.out.setCell (p := ⟨pC, 0, none⟩) GC.out (.int .i64 m)).setCell (p := ⟨pC, 1, none⟩) GC.out (.int .i64 z0)).setCell (p := ⟨pC, 2, none⟩) GC.out (.int .i64 z1)).setCell (p := ⟨pC, 3, none⟩) GC.out (.int .i64 z2)).setCell (p := ⟨pC, 4, none⟩) GC.out (.int .i64 z3))
        rw [← hW] at bs'
        have ko := (((((KS.out.other (p := ⟨pC, 0, none⟩) (by first | exact NEC_S.out | exact (fun e => NES_C.out e.symm)) (.int .i64 m)).other (p := ⟨pC, 1, none⟩) (by first | exact NEC_S.out | exact (fun e => NES_C.out e.symm)) (.int .i64 z0)).other (p := ⟨pC, 2, none⟩) (by first | exact NEC_S.out | exact (fun e => NES_C.out e.symm)) (.int .i64 z1)).other (p := ⟨pC, 3, none⟩) (by first | exact NEC_S.out | exact (fun e => NES_C.out e.symm)) (.int .i64 z2)).other (p := ⟨pC, 4, none⟩) (by first | exact NEC_S.out | exact (fun e => NES_C.out e.symm)) (.int .i64 z3))
        rw [← hW] at ko
        replace KS := Lib.hid ko
        clear ko
        have ko := (((((KR.out.other (p := ⟨pC, 0, none⟩) (by first | exact NEC_R.out | exact (fun e => NER_C.out e.symm)) (.int .i64 m)).other (p := ⟨pC, 1, none⟩) (by first | exact NEC_R.out | exact (fun e => NER_C.out e.symm)) (.int .i64 z0)).other (p := ⟨pC, 2, none⟩) (by first | exact NEC_R.out | exact (fun e => NER_C.out e.symm)) (.int .i64 z1)).other (p := ⟨pC, 3, none⟩) (by first | exact NEC_R.out | exact (fun e => NER_C.out e.symm)) (.int .i64 z2)).other (p := ⟨pC, 4, none⟩) (by first | exact NEC_R.out | exact (fun e => NER_C.out e.symm)) (.int .i64 z3))
        rw [← hW] at ko
        replace KR := Lib.hid ko
        clear ko
        replace KC := Lib.hid ks
        replace BW := Lib.hid bs'
        clear ks bs' hW
        refine hK.out _ _ ⟨BW.out, KS.out, KR.out⟩ (fun hHeld => ?_)
        clear hK KQ
        refine wpAnyH_done (by kernel_rfl) ?_ _
        clear hHeld
        go_wp2_with fail
        go_roundw
        case rel => exact ⟨j + 1, Z, by omega, by go_num, HZL.out, HST.out, by rw [HZ0.out, HZ1.out, HZ2.out, HZ3.out]; exact KC.out, KS.out, KR.out, BW.out⟩
        case measure => simp [intOf]; omega
    · have hjm : j = m := by omega
      subst hjm
      have HRX := Lib.hid (show RES = X by rw [hg.out, Nat.sub_self]; rfl)
      have HV : Hid (V = kcV j X) := by
        show _ = _
        rw [HVV.out, HRX.out]
      unfold kcV at HV
      clear hg HRX hx HVV
      generalize X.getD 0 0 = x0 at *
      generalize X.getD 1 0 = x1 at *
      generalize X.getD 2 0 = x2 at *
      generalize X.getD 3 0 = x3 at *
      have k0 := KC.out.cell 0
      have k1 := KC.out.cell 1
      have k2 := KC.out.cell 2
      have k3 := KC.out.cell 3
      have k4 := KC.out.cell 4
      simp only [List.getElem?_cons_zero, List.getElem?_cons_succ] at k0 k1 k2 k3 k4
      have r0 := KR.out.cell 0
      have r1 := KR.out.cell 1
      have r2 := KR.out.cell 2
      have r3 := KR.out.cell 3
      have r4 := KR.out.cell 4
      simp only [List.getElem?_cons_zero, List.getElem?_cons_succ] at r0 r1 r2 r3 r4
      have fr := KR.out.free
      go_wp2
      refine bodyPost_ret (v := .agg #[.int .i64 j, .int .i64 x0, .int .i64 x1, .int .i64 x2, .int .i64 x3]) (by simp [results, Try.results136, go_sem, r0, r1, r2, r3, r4]) rfl ⟨by rw [HV.out], ?_⟩
      repeat (first | with_reducible refine Below.setCell ?_ ?_ _ | with_reducible refine Below.drew ?_)
      all_goals (first | exact BW.out | exact GR.out | (simp; done) | (simp; omega) | (have := GR.out; simp; omega))

theorem settledM_len {l : List ActM} {m : Nat} (hs : setOkM l m = true) : (settledM l m).length = m := by
  have key : ∀ (ps : List Nat) (X : List Int), X.length = m → (∀ p ∈ ps, p < m) → (ps.foldl (fun c p => List.zipWith mn c (knownM l m p)) X).length = m := by
    intro ps
    induction ps with
    | nil => intro X h _; exact h
    | cons p r ih =>
      intro X h hp
      exact ih _ (min_ok2 h (known_parts hs (hp p (by simp))).2.1) (fun q hq => hp q (List.mem_cons_of_mem _ hq))
  rw [← settled_prog hs]
  exact key _ _ (clock_ok hs).2.1 (fun p hp => List.mem_range.1 hp)
set_option maxRecDepth 100000 in
set_option maxHeartbeats 1600000 in
theorem implSettled_any (v : Value) (l : List ActM) (n : Int) (w : World) (h : Acts w v l) (hn : I64 n) :
    Calls Try.prog 80 #[v, .int .i64 n] w (MadeI w (settledM l n)) := by
  obtain ⟨ts, rfl, ht⟩ := h
  obtain ⟨a, cap, rfl⟩ := actsT_len ht
  have RS := Lib.hid (readSet_any _ ts n w ht hn)
  unfold SetRead at RS
  by_cases hs : setOkM (ts.map ActT.a) n = true
  · obtain ⟨m, rfl, h1, h4, h60, hr⟩ := setOk_bounds hs
    have hlen := settledM_len hs
    have HT4 := Lib.hid (four_take hlen h4)
    have SP := Lib.hid (fun mb W (hW : Below w.heap.size w W) (hown : W.ownsMap Try.prog 117 (plainElem Try.prog 3) mb ts.length (atD (ts.map ActT.a) 0 (.map []))) => settledP_any a ts.length cap mb m (cntM (ts.map ActT.a) 0) (cntM (ts.map ActT.a) 1) (cntM (ts.map ActT.a) 2) (cntM (ts.map ActT.a) 3) ts W rfl (ht.below hW) hs (fun i hi => four_cnt _ i hi) hown)
    have LS := Lib.hid (fun c0 c1 c2 c3 W => list_any m c0 c1 c2 c3 W h4)
    have HS := Lib.hid hs
    have HLN := Lib.hid hlen
    obtain ⟨RES, hRES⟩ : ∃ R, R = settledM (ts.map ActT.a) m := ⟨_, rfl⟩
    rw [← hRES] at SP HT4 HLN ⊢
    clear hRES hlen
    unfold kcV at SP
    simp only [setVal, List.length_map] at RS
    generalize (cntM (ts.map ActT.a) 0 : Int) = c0 at *
    generalize (cntM (ts.map ActT.a) 1 : Int) = c1 at *
    generalize (cntM (ts.map ActT.a) 2 : Int) = c2 at *
    generalize (cntM (ts.map ActT.a) 3 : Int) = c3 at *
    clear hs hr ht h60
    generalize ts.length = K at *
    generalize RES.getD 0 0 = z0 at *
    generalize RES.getD 1 0 = z1 at *
    generalize RES.getD 2 0 = z2 at *
    generalize RES.getD 3 0 = z3 at *
    go_enter Try.func80, Try.ntmps80
    go_wp2_with fail
    refine RS.out.mono ?_
    rintro e w1 ⟨b1, (⟨_, mb, _, rfl, own1⟩ | ⟨hx, _⟩)⟩
    · have B1 := Lib.hid (b1.alloc b1.size (.cells #[.slice a K cap, .map (some mb), .int .i64 m, .int .i64 c0, .int .i64 c1, .int .i64 c2, .int .i64 c3] 99))
      have O1 := Lib.hid (own1.alloc (.cells #[.slice a K cap, .map (some mb), .int .i64 m, .int .i64 c0, .int .i64 c1, .int .i64 c2, .int .i64 c3] 99))
      clear b1 own1
      go_wp2_with fail
      refine (SP.out _ _ B1.out O1.out).mono ?_
      rintro e w2 ⟨rfl, b2⟩
      have B2 := Lib.hid (B1.out.trans (b2.mono B1.out.size))
      clear b2 B1 O1
      go_wp2_with fail
      refine (LS.out _ _ _ _ _).mono ?_
      rintro e w3 ⟨rfl, o3, b3⟩
      rw [HT4.out] at o3
      have O3 := Lib.hid (blk_own HLN.out h1 h4 o3)
      have B3 := Lib.hid (B2.out.trans (b3.mono B2.out.size))
      clear o3 b3
      go_wp2_with fail
      go_ret
      exact ⟨_, _, rfl, by have := B2.out.size; omega, O3.out, B3.out⟩
    · rw [HS.out] at hx; cases hx
  · rw [show settledM (ts.map ActT.a) n = [] from if_neg hs]
    have HS := Lib.hid hs
    clear hs ht
    go_enter Try.func80, Try.ntmps80
    go_wp2_with fail
    refine RS.out.mono ?_
    rintro e w1 ⟨b1, (⟨hx, mb, _, rfl, _⟩ | ⟨_, rfl⟩)⟩
    · exact absurd hx HS.out
    · have B1 := Lib.hid b1
      clear b1
      simp only [noSet]
      go_wp2_with fail
      go_ret
      exact ⟨w.heap.size, _, rfl, Nat.le_refl _, .inl ⟨_, _, rfl, rfl⟩, B1.out.alloc B1.out.size _⟩
theorem settledM_four (l : List ActM) (n : Int) : (settledM l n).length ≤ 4 := by
  by_cases hs : setOkM l n = true
  · obtain ⟨m, rfl, h1, h4, _, _⟩ := setOk_bounds hs
    rw [settledM_len hs]; exact h4
  · rw [show settledM l n = [] from if_neg hs]; simp
end Go.Proofs.Ytjjgigoehgabkaa
