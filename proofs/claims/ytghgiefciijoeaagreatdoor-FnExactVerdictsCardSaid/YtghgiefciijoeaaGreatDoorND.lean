/- The program's readSet. -/
import Derived.Test.YtghgiefciijoeaaGreatDoorNC

namespace Go.Proofs.YtghgiefciijoeaaGreatDoor
open Go.RowKit
set_option linter.unusedVariables false
set_option maxRecDepth 100000 in
set_option maxHeartbeats 6400000 in
theorem readSet_any (v : Value) (ts : List ActT) (n : Int) (w : World) (h : ActsT w v ts) (hn : I64 n) : Calls Tryz.prog 41 #[v, .int .i64 n] w (SetRead w v (ts.map ActT.a) n) := by
 obtain ⟨a, cap, rfl⟩ := actsT_len h
 have hmax := actsT_max h
 have HA := Lib.hid h
 have HN := Lib.hid hn
 obtain ⟨L, hL⟩ : ∃ L, L = ts.length := ⟨_, rfl⟩
 rw [← hL] at HA hmax ⊢
 have HL := Lib.hid hL
 clear h hL hn
 have b0 := (Below.refl w.heap.size w).alloc (Nat.le_refl _) (.cells #[.slice none 0 0, .map none, .int .i64 0, .int .i64 0, .int .i64 0, .int .i64 0, .int .i64 0] 73)
 obtain ⟨RB, hRB⟩ : ∃ RB, RB = w.heap.size := ⟨_, rfl⟩
 have kR := Blk.new w #[.slice none 0 0, .map none, .int .i64 0, .int .i64 0, .int .i64 0, .int .i64 0, .int .i64 0] 73
 rw [← hRB] at kR
 go_enter Tryz.func41, Tryz.ntmps41
 go_upto_region 1 with (fail)
 have A0 := HA.out.below b0
 rw [← hRB] at b0 ⊢
 have HRB := Lib.hid hRB
 clear hRB
 generalize w.alloc (.cells #[.slice none 0 0, .map none, .int .i64 0, .int .i64 0, .int .i64 0, .int .i64 0, .int .i64 0] 73) = W0 at kR b0 A0 ⊢
 have kR0 := Lib.hid kR
 have HB0 := Lib.hid b0
 have HA0 := Lib.hid A0
 have r0 := kR0.out.cell 0
 have r1 := kR0.out.cell 1
 have r2 := kR0.out.cell 2
 have r3 := kR0.out.cell 3
 have r4 := kR0.out.cell 4
 have r5 := kR0.out.cell 5
 have r6 := kR0.out.cell 6
 have f0 := kR0.out.free
 simp only [List.getElem?_cons_zero, List.getElem?_cons_succ] at r0 r1 r2 r3 r4 r5 r6
 clear kR b0 A0
 have hbad : ∀ (wx : World), Below RB w wx → Below w.heap.size w ((((((((wx).setCell ⟨RB, 0, none⟩ (.slice none 0 0)).setCell ⟨RB, 1, none⟩ (.map none)).setCell ⟨RB, 2, none⟩ (.int .i64 0)).setCell ⟨RB, 3, none⟩ (.int .i64 0)).setCell ⟨RB, 4, none⟩ (.int .i64 0)).setCell ⟨RB, 5, none⟩ (.int .i64 0)).setCell ⟨RB, 6, none⟩ (.int .i64 0)) := fun wx h => by
  rw [← HRB.out]
  exact ((((((h.setCell (by simp) _).setCell (by simp) _).setCell (by simp) _).setCell (by simp) _).setCell (by simp) _).setCell (by simp) _).setCell (by simp) _
 have HBAD := Lib.hid hbad
 clear hbad
 go_wp2_with fail
 refine (isIn_any _ _ _ _).mono ?_
 rintro e w1 ⟨rfl, rfl⟩
 by_cases hr : 1 ≤ n ∧ n ≤ 4
 ·have e1 : inB n 1 4 = true := inB_yes hr.1 hr.2
  rw [e1]
  by_cases hL60 : L ≤ 60
  ·obtain ⟨m, rfl⟩ := Int.eq_ofNat_of_zero_le (show 0 ≤ n by omega)
   have hm4 : m ≤ 4 := by omega
   have hm1 : 1 ≤ m := by omega
   have hL60i : ¬ (60 : Int) < (L : Int) := by omega
   have hsp : (setOkM (ts.map ActT.a) m = (orderM m none (ts.map ActT.a) && countsUpM (ts.map ActT.a) m && closedM (ts.map ActT.a) m)) := by
    have := setOk_prog (ts.map ActT.a) m
    rw [this, decide_eq_true hr.1, decide_eq_true hr.2, decide_eq_true (show (ts.map ActT.a).length ≤ 60 by rw [List.length_map, ← HL.out]; exact hL60)]
    simp
   have HSP := Lib.hid hsp
   obtain ⟨X, hX⟩ : ∃ X, X = orderM m none (ts.map ActT.a) := ⟨_, rfl⟩
   have IO := fun W (h : ActsT W (.slice a L cap) ts) => inOrder_any (.slice a L cap) (ts.map ActT.a) m W ⟨ts, rfl, h⟩ HN.out
   rw [← hX] at IO
   have HX := Lib.hid hX
   have HIO := Lib.hid IO
   clear hX IO hsp
   go_wp2_with fail
   refine (HIO.out w1 HA0.out).mono ?_
   rintro e w2 ⟨rfl, b2⟩
   have A1 := Lib.hid (HA0.out.below b2)
   have B1 := Lib.hid (HB0.out.trans (b2.mono (Nat.le_of_lt kR0.out.lt)))
   have kR1 := Lib.hid (kR0.out.below b2 kR0.out.lt)
   clear kR0 HB0 HA0 b2 HIO r0 r1 r2 r3 r4 r5 r6 f0
   cases X
   ·have HSF : Hid (setOkM (ts.map ActT.a) m = false) := Lib.hid (by rw [HSP.out, ← HX.out]; rfl)
    have r0 := kR1.out.cell 0
    have r1 := kR1.out.cell 1
    have r2 := kR1.out.cell 2
    have r3 := kR1.out.cell 3
    have r4 := kR1.out.cell 4
    have r5 := kR1.out.cell 5
    have r6 := kR1.out.cell 6
    have f0 := kR1.out.free
    simp only [List.getElem?_cons_zero, List.getElem?_cons_succ] at r0 r1 r2 r3 r4 r5 r6
    go_wp2_with fail
    exact bodyPost_ret (v := .tuple #[noSet, .bool false]) (by simp [results, Tryz.results41, go_sem, noSet, r0, r1, r2, r3, r4, r5, r6]) rfl ⟨HBAD.out _ B1.out, .inr ⟨HSF.out, rfl⟩⟩
   ·have hokT : ∀ t ∈ ts, actOkM t.a m = true := fun t ht => order_all _ none HX.out.symm _ (List.mem_map_of_mem ht)
    have SO := Lib.hid (setOf_any (.slice a L cap) ts (m : Int) m w2 A1.out (by rw [← HL.out]; exact hL60) hm4 hokT)
    clear hokT
    go_wp2_with fail
    refine SO.out.mono ?_
    rintro e w3 ⟨b3, M, hM, rfl, own3⟩
    have A3 := Lib.hid (A1.out.below b3)
    have B3 := Lib.hid (B1.out.trans (b3.mono (Nat.le_of_lt kR1.out.lt)))
    have kR3 := Lib.hid (kR1.out.below b3 kR1.out.lt)
    have hRM : RB < M := Nat.lt_of_lt_of_le kR1.out.lt hM
    clear SO A1 B1 kR1 b3 hM
    have hll : (ts.map ActT.a).length ≤ 60 := by rw [List.length_map, ← HL.out]; exact hL60
    have hlL : (ts.map ActT.a).length = L := by rw [List.length_map, ← HL.out]
    rw [hlL] at own3
    simp only [setVal]
    go_upto_region 4 with (fail)
    have kS := Blk.new w3 #[.slice a L cap, .map (some M), .int .i64 m, .int .i64 (cntM (ts.map ActT.a) 0), .int .i64 (cntM (ts.map ActT.a) 1), .int .i64 (cntM (ts.map ActT.a) 2), .int .i64 (cntM (ts.map ActT.a) 3)] 73
    have own := own3.alloc (.cells #[.slice a L cap, .map (some M), .int .i64 m, .int .i64 (cntM (ts.map ActT.a) 0), .int .i64 (cntM (ts.map ActT.a) 1), .int .i64 (cntM (ts.map ActT.a) 2), .int .i64 (cntM (ts.map ActT.a) 3)] 73)
    have b4 := (Below.refl w3.heap.size w3).alloc (Nat.le_refl _) (.cells #[.slice a L cap, .map (some M), .int .i64 m, .int .i64 (cntM (ts.map ActT.a) 0), .int .i64 (cntM (ts.map ActT.a) 1), .int .i64 (cntM (ts.map ActT.a) 2), .int .i64 (cntM (ts.map ActT.a) 3)] 73)
    obtain ⟨S, hS⟩ : ∃ S, S = w3.heap.size := ⟨_, rfl⟩
    rw [← hS] at kS ⊢
    generalize w3.alloc (.cells #[.slice a L cap, .map (some M), .int .i64 m, .int .i64 (cntM (ts.map ActT.a) 0), .int .i64 (cntM (ts.map ActT.a) 1), .int .i64 (cntM (ts.map ActT.a) 2), .int .i64 (cntM (ts.map ActT.a) 3)] 73) = w4 at kS own b4 ⊢
    have hown := Lib.hid own
    have hks := Lib.hid kS
    have hkr := Lib.hid (kR3.out.below b4 kR3.out.lt)
    have hbel := Lib.hid (B3.out.trans (b4.mono (Nat.le_of_lt kR3.out.lt)))
    have hA := Lib.hid (A3.out.below b4)
    clear kS own b4 kR3 B3 A3 own3 hS hlL
    have hokT : ∀ t ∈ ts, actOkM t.a m = true := fun t ht => order_all _ none HX.out.symm _ (List.mem_map_of_mem ht)
    have hokA : ∀ a ∈ ts.map ActT.a, actOkM a m = true := order_all _ none HX.out.symm
    have hcl : clockM (ts.map ActT.a) m = clockM (ts.map ActT.a) m := rfl
    obtain ⟨hys, hx0, hx1, hx2, hx3⟩ := clock_counts (ts.map ActT.a) m hm1 hm4 hll hokA
    have hcu := cu_model (n := m) (ts.map ActT.a) [(cntM (ts.map ActT.a) 0 : Int), cntM (ts.map ActT.a) 1, cntM (ts.map ActT.a) 2, cntM (ts.map ActT.a) 3] (fun a ha => name_bounds (hokA a ha)) hm4 hll (fun p hp => four_cnt (ts.map ActT.a) p (by omega))
    obtain ⟨Y, hY⟩ : ∃ Y, Y = countsUpM (ts.map ActT.a) m := ⟨_, rfl⟩
    rw [← hY] at hcu
    have CU := fun W (h : W.ownsMap Tryz.prog 85 (plainElem Tryz.prog 3) M L (atD (ts.map ActT.a) 0 (.map []))) => countsUp_any a L cap M L m (cntM (ts.map ActT.a) 0) (cntM (ts.map ActT.a) 1) (cntM (ts.map ActT.a) 2) (cntM (ts.map ActT.a) 3) (atD (ts.map ActT.a) 0 (.map [])) W h hm4 (cnt_range _ _ hll) (cnt_range _ _ hll) (cnt_range _ _ hll) (cnt_range _ _ hll)
    rw [hcu] at CU
    obtain ⟨Z, hZ⟩ : ∃ Z, Z = closedM (ts.map ActT.a) m := ⟨_, rfl⟩
    have IC := fun W (h : ActsT W (.slice a L cap) ts) => isClosed_any (.slice a L cap) ts M m W h (by simpa using hll) hm1 hm4 hokT hys (cntM (ts.map ActT.a) 0) (cntM (ts.map ActT.a) 1) (cntM (ts.map ActT.a) 2) (cntM (ts.map ActT.a) 3) hx0 hx1 hx2 hx3
    rw [← hZ] at IC
    have hsp : setOkM (ts.map ActT.a) m = (Y && Z) := by rw [HSP.out, hY, hZ, ← HX.out]; simp
    have HSP2 := Lib.hid hsp
    have HCU := Lib.hid CU
    have HIC := Lib.hid IC
    have HLL := Lib.hid hll
    have HSV : Hid (setVal (.slice a L cap) M m (ts.map ActT.a) = .agg #[.slice a L cap, .map (some M), .int .i64 m, .int .i64 (cntM (ts.map ActT.a) 0), .int .i64 (cntM (ts.map ActT.a) 1), .int .i64 (cntM (ts.map ActT.a) 2), .int .i64 (cntM (ts.map ActT.a) 3)]) := rfl
    clear CU IC hsp hys hx0 hx1 hx2 hx3 hcu hokT hokA hcl hY hZ hll HSP HX
    generalize hc0 : (cntM (ts.map ActT.a) 0 : Int) = x0 at *
    generalize hc1 : (cntM (ts.map ActT.a) 1 : Int) = x1 at *
    generalize hc2 : (cntM (ts.map ActT.a) 2 : Int) = x2 at *
    generalize hc3 : (cntM (ts.map ActT.a) 3 : Int) = x3 at *
    clear hc0 hc1 hc2 hc3
    have s0 := hks.out.cell 0
    have s1 := hks.out.cell 1
    have s2 := hks.out.cell 2
    have s3 := hks.out.cell 3
    have s4 := hks.out.cell 4
    have s5 := hks.out.cell 5
    have s6 := hks.out.cell 6
    simp only [List.getElem?_cons_zero, List.getElem?_cons_succ] at s0 s1 s2 s3 s4 s5 s6
    go_wp2_with fail
    refine (HCU.out _ hown.out).mono ?_
    rintro e w5 ⟨rfl, b5⟩
    have own5 := Lib.hid (hown.out.kept (below_grown b5 none) (by simp))
    have ks5 := Lib.hid (hks.out.below b5 hks.out.lt)
    have kr5 := Lib.hid (hkr.out.below b5 hkr.out.lt)
    have bel5 := Lib.hid (hbel.out.trans (b5.mono (Nat.le_of_lt hkr.out.lt)))
    have A5 := Lib.hid (HA.out.below (by rw [← HRB.out]; exact bel5.out))
    clear b5 s0 s1 s2 s3 s4 s5 s6 hown hks hkr hbel hA HCU
    have hown := own5
    have hks := ks5
    have hkr := kr5
    have hbel := bel5
    clear own5 ks5 kr5 bel5
    have s0 := hks.out.cell 0
    have s1 := hks.out.cell 1
    have s2 := hks.out.cell 2
    have s3 := hks.out.cell 3
    have s4 := hks.out.cell 4
    have s5 := hks.out.cell 5
    have s6 := hks.out.cell 6
    have r0 := hkr.out.cell 0
    have r1 := hkr.out.cell 1
    have r2 := hkr.out.cell 2
    have r3 := hkr.out.cell 3
    have r4 := hkr.out.cell 4
    have r5 := hkr.out.cell 5
    have r6 := hkr.out.cell 6
    simp only [List.getElem?_cons_zero, List.getElem?_cons_succ] at s0 s1 s2 s3 s4 s5 s6 r0 r1 r2 r3 r4 r5 r6
    have f0 := hkr.out.free
    cases Y
    ·have HSF : Hid (setOkM (ts.map ActT.a) m = false) := Lib.hid (by rw [HSP2.out]; rfl)
     go_wp2_with fail
     refine bodyPost_ret (v := .tuple #[noSet, .bool false]) (by simp [results, Tryz.results41, go_sem, noSet, r0, r1, r2, r3, r4, r5, r6]) rfl ⟨?_, .inr ⟨HSF.out, rfl⟩⟩
     rw [← HRB.out]
     exact ((((((hbel.out.setCell (by simp) _).setCell (by simp) _).setCell (by simp) _).setCell (by simp) _).setCell (by simp) _).setCell (by simp) _).setCell (by simp) _
    ·clear s0 s1 s2 s3 s4 s5 s6 r0 r1 r2 r3 r4 r5 r6
     have s0 := hks.out.cell 0
     have s1 := hks.out.cell 1
     have s2 := hks.out.cell 2
     have s3 := hks.out.cell 3
     have s4 := hks.out.cell 4
     have s5 := hks.out.cell 5
     have s6 := hks.out.cell 6
     simp only [List.getElem?_cons_zero, List.getElem?_cons_succ] at s0 s1 s2 s3 s4 s5 s6
     go_wp2_with fail
     refine (HIC.out _ A5.out).mono ?_
     rintro e w6 ⟨rfl, b6⟩
     have own6 := Lib.hid (hown.out.kept (below_grown b6 none) (by simp))
     have ks6 := Lib.hid (hks.out.below b6 hks.out.lt)
     have kr6 := Lib.hid (hkr.out.below b6 hkr.out.lt)
     have bel6 := Lib.hid (hbel.out.trans (b6.mono (Nat.le_of_lt hkr.out.lt)))
     clear b6 s0 s1 s2 s3 s4 s5 s6 f0 hown hks hkr hbel A5 HIC
     have hown := own6
     have hks := ks6
     have hkr := kr6
     have hbel := bel6
     clear own6 ks6 kr6 bel6
     have s0 := hks.out.cell 0
     have s1 := hks.out.cell 1
     have s2 := hks.out.cell 2
     have s3 := hks.out.cell 3
     have s4 := hks.out.cell 4
     have s5 := hks.out.cell 5
     have s6 := hks.out.cell 6
     have r0 := hkr.out.cell 0
     have r1 := hkr.out.cell 1
     have r2 := hkr.out.cell 2
     have r3 := hkr.out.cell 3
     have r4 := hkr.out.cell 4
     have r5 := hkr.out.cell 5
     have r6 := hkr.out.cell 6
     simp only [List.getElem?_cons_zero, List.getElem?_cons_succ] at s0 s1 s2 s3 s4 s5 s6 r0 r1 r2 r3 r4 r5 r6
     have f0 := hkr.out.free
     have lSM := hks.out.lt
     cases Z
     ·have HSF : Hid (setOkM (ts.map ActT.a) m = false) := Lib.hid (by rw [HSP2.out]; rfl)
      go_wp2_with fail
      refine bodyPost_ret (v := .tuple #[noSet, .bool false]) (by simp [results, Tryz.results41, go_sem, noSet, r0, r1, r2, r3, r4, r5, r6]) rfl ⟨?_, .inr ⟨HSF.out, rfl⟩⟩
      rw [← HRB.out]
      exact ((((((hbel.out.setCell (by simp) _).setCell (by simp) _).setCell (by simp) _).setCell (by simp) _).setCell (by simp) _).setCell (by simp) _).setCell (by simp) _
     ·have HST : Hid (setOkM (ts.map ActT.a) m = true) := Lib.hid (by rw [HSP2.out]; rfl)
      go_wp2_with fail
      have hMR : (some M : Option Nat) ≠ some RB := by simp; omega
      refine bodyPost_ret (v := .tuple #[setVal (.slice a L cap) M m (ts.map ActT.a), .bool true]) (by rw [HSV.out]; simp [results, Tryz.results41, go_sem, r0, r1, r2, r3, r4, r5, r6]) rfl ⟨?_, .inl ⟨HST.out, M, by rw [← HRB.out]; omega, rfl, ?_⟩⟩
      ·rw [← HRB.out]
       exact ((((((hbel.out.setCell (by simp) _).setCell (by simp) _).setCell (by simp) _).setCell (by simp) _).setCell (by simp) _).setCell (by simp) _).setCell (by simp) _
      ·rw [List.length_map, ← HL.out]
       exact (((((((hown.out.kept (grown_set RB 0 _) hMR).kept (grown_set RB 1 _) hMR).kept (grown_set RB 2 _) hMR).kept (grown_set RB 3 _) hMR).kept (grown_set RB 4 _) hMR).kept (grown_set RB 5 _) hMR).kept (grown_set RB 6 _) hMR)
  ·have hL60i : (60 : Int) < (L : Int) := by omega
   have HSF : Hid (setOkM (ts.map ActT.a) n = false) := setOk_range _ _ (.inr (.inr (by rw [List.length_map, ← HL.out]; omega)))
   go_wp2_with fail
   exact bodyPost_ret (v := .tuple #[noSet, .bool false]) (by simp [results, Tryz.results41, go_sem, noSet, r0, r1, r2, r3, r4, r5, r6]) rfl ⟨HBAD.out _ HB0.out, .inr ⟨HSF.out, rfl⟩⟩
 ·have e1 : inB n 1 4 = false := inB_no (by omega)
  rw [e1]
  have HSF : Hid (setOkM (ts.map ActT.a) n = false) := setOk_range _ _ (by omega)
  go_wp2_with fail
  exact bodyPost_ret (v := .tuple #[noSet, .bool false]) (by simp [results, Tryz.results41, go_sem, noSet, r0, r1, r2, r3, r4, r5, r6]) rfl ⟨HBAD.out _ HB0.out, .inr ⟨HSF.out, rfl⟩⟩
end Go.Proofs.YtghgiefciijoeaaGreatDoor
