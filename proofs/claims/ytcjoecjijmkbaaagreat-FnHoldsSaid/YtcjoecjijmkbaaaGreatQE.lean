/- The program's readView, ceilingOf, Ceiling. -/
import Derived.Test.YtcjoecjijmkbaaaGreatQD
import Derived.Test.YtcjoecjijmkbaaaGreatKG
import Derived.Deep.DeepCutAuto

namespace Go.Proofs.YtcjoecjijmkbaaaGreat
open Go.RowKit
set_option linter.unusedVariables false
set_option linter.unusedSimpArgs false
def ViewRead (w : World) (v : Value) (l : List ActM) (n er en : Int) (xs : List Int) (e : Ending) (w' : World) : Prop := Below w.heap.size w w' ∧
 ((goodM l n er xs = true ∧ ∃ mb, e = .returned (.tuple #[.agg #[v, .map (some mb), .int .i64 n, .int .i64 (cntM l 0), .int .i64 (cntM l 1), .int .i64 (cntM l 2), .int .i64 (cntM l 3), .int .i64 er, .int .i64 en, .int .i64 (cn xs), .int .i64 (cx xs 0), .int .i64 (cx xs 1), .int .i64 (cx xs 2), .int .i64 (cx xs 3)], .bool true])) ∨
   (goodM l n er xs = false ∧ e = .returned (.tuple #[.agg #[.slice none 0 0, .map none, .int .i64 0, .int .i64 0, .int .i64 0, .int .i64 0, .int .i64 0, .int .i64 0, .int .i64 0, .int .i64 0, .int .i64 0, .int .i64 0, .int .i64 0, .int .i64 0], .bool false])))
set_option maxRecDepth 100000 in
set_option maxHeartbeats 6400000 in
theorem readView_any (v vv : Value) (ts : List ActT) (xs : List Int) (n er en : Int) (w : World) (h : ActsT w v ts) (hv : Ints w vv xs) (hn : I64 n) :
  Calls Tryz.prog 28 #[v, .int .i64 n, .agg #[.int .i64 er, .int .i64 en, vv]] w (ViewRead w v (ts.map ActT.a) n er en xs) := by
 obtain ⟨a, cap, rfl⟩ := actsT_len h
 obtain ⟨va, vc, rfl⟩ := ints_len hv
 have RC := Lib.hid (fun W (hW : Below w.heap.size w W) => readCut_any _ (.slice va xs.length vc) ts xs n W (h.below hW) (hv.below (B := 0) hW) hn)
 have HG : Hid (goodM (ts.map ActT.a) n er xs = (cutB (ts.map ActT.a) n xs && inB er (-1) (n - 1) && leqB xs (clockM (ts.map ActT.a) n.toNat))) := rfl
 have HN := Lib.hid (fun hc : cutB (ts.map ActT.a) n xs = true => (show 1 ≤ n ∧ n ≤ 4 by obtain ⟨_, _, _, m, rfl, h1, h4, _⟩ := cutB_set hc; omega))
 have LQ := Lib.hid (fun (hc : cutB (ts.map ActT.a) n xs = true) W => (show Calls Tryz.prog 56 #[.agg #[.int .i64 (cn xs), .int .i64 (cx xs 0), .int .i64 (cx xs 1), .int .i64 (cx xs 2), .int .i64 (cx xs 3)], .agg #[.int .i64 n, .int .i64 (cntM (ts.map ActT.a) 0), .int .i64 (cntM (ts.map ActT.a) 1), .int .i64 (cntM (ts.map ActT.a) 2), .int .i64 (cntM (ts.map ActT.a) 3)]] W fun e w' =>
   e = .returned (.bool (leqB xs (clockM (ts.map ActT.a) n.toNat))) ∧ Below W.heap.size W w' by
  obtain ⟨h1, h2, h3, m, rfl, _, _, h5⟩ := cutB_set hc
  have := leq_any (cn xs) (cx xs 0) (cx xs 1) (cx xs 2) (cx xs 3) (cntM (ts.map ActT.a) 0) (cntM (ts.map ActT.a) 1) (cntM (ts.map ActT.a) 2) (cntM (ts.map ActT.a) 3) m W (cn_range xs).1 (cn_range xs).2
  rw [leq_clock h1 h2 h5] at this
  exact this))
 unfold ViewRead
 unfold CutRead at RC
 simp only [setVal, noSet] at RC
 clear h hv
 generalize (cntM (ts.map ActT.a) 0 : Int) = c0 at *
 generalize (cntM (ts.map ActT.a) 1 : Int) = c1 at *
 generalize (cntM (ts.map ActT.a) 2 : Int) = c2 at *
 generalize (cntM (ts.map ActT.a) 3 : Int) = c3 at *
 generalize cn xs = y at *
 generalize cx xs 0 = y0 at *
 generalize cx xs 1 = y1 at *
 generalize cx xs 2 = y2 at *
 generalize cx xs 3 = y3 at *
 generalize leqB xs (clockM (ts.map ActT.a) n.toNat) = LE at *
 generalize cutB (ts.map ActT.a) n xs = CUT at *
 generalize goodM (ts.map ActT.a) n er xs = GOOD at *
 generalize ts.length = K at *
 generalize xs.length = L at *
 have BW := Lib.hid (Below.refl w.heap.size w)
 go_enter Tryz.func28, Tryz.ntmps28
 have kE := (Blk.new w #[.int .i64 er, .int .i64 en, .slice va L vc] 26).alloc (.cells #[.slice none 0 0, .map none, .int .i64 0, .int .i64 0, .int .i64 0, .int .i64 0, .int .i64 0, .int .i64 0, .int .i64 0, .int .i64 0, .int .i64 0, .int .i64 0, .int .i64 0, .int .i64 0] 60)
 have kR := Blk.new (w.alloc (.cells #[.int .i64 er, .int .i64 en, .slice va L vc] 26)) #[.slice none 0 0, .map none, .int .i64 0, .int .i64 0, .int .i64 0, .int .i64 0, .int .i64 0, .int .i64 0, .int .i64 0, .int .i64 0, .int .i64 0, .int .i64 0, .int .i64 0, .int .i64 0] 60
 simp only [World.size_alloc] at kR
 have ba := ((Below.refl w.heap.size w).alloc (Nat.le_refl _) (.cells #[.int .i64 er, .int .i64 en, .slice va L vc] 26)).alloc (by simp [World.size_alloc]; try omega) (.cells #[.slice none 0 0, .map none, .int .i64 0, .int .i64 0, .int .i64 0, .int .i64 0, .int .i64 0, .int .i64 0, .int .i64 0, .int .i64 0, .int .i64 0, .int .i64 0, .int .i64 0, .int .i64 0] 60)
 obtain ⟨pE, hpE⟩ : ∃ p, p = w.heap.size := ⟨_, rfl⟩
 obtain ⟨pR, hpR⟩ : ∃ p, p = w.heap.size + 1 := ⟨_, rfl⟩
 go_upto_region 1 with (fail)
 rw [← hpR] at kR
 try rw [← hpR]
 rw [← hpE] at kE
 try rw [← hpE]
 obtain ⟨w1, hW⟩ : ∃ W, W = (w.alloc (.cells #[.int .i64 er, .int .i64 en, .slice va L vc] 26)).alloc (.cells #[.slice none 0 0, .map none, .int .i64 0, .int .i64 0, .int .i64 0, .int .i64 0, .int .i64 0, .int .i64 0, .int .i64 0, .int .i64 0, .int .i64 0, .int .i64 0, .int .i64 0, .int .i64 0] 60) := ⟨_, rfl⟩
 rw [← hW] at ba kE kR ⊢
 have KE := Lib.hid kE
 have GE := Lib.hid (show w.heap.size ≤ pE by omega)
 have KR := Lib.hid kR
 have GR := Lib.hid (show w.heap.size ≤ pR by omega)
 have NEE_R := Lib.hid (show pE ≠ pR by omega)
 replace BW := Lib.hid (BW.out.trans ((ba).mono BW.out.size))
 clear ba hW kE hpE kR hpR
 have e0 := KE.out.cell 0
 have e1 := KE.out.cell 1
 have e2 := KE.out.cell 2
 simp only [List.getElem?_cons_zero, List.getElem?_cons_succ] at e0 e1 e2
 go_wp2_with fail
 refine (RC.out _ BW.out).mono ?_
 rintro e w2 ⟨b2, (⟨hc, mb, rfl⟩ | ⟨hc, rfl⟩)⟩
 clear e0 e1 e2
 ·have HC := Lib.hid hc
  replace BW := Lib.hid (BW.out.trans ((b2).mono BW.out.size))
  replace KE := Lib.hid (KE.out.below (b2) KE.out.lt)
  replace KR := Lib.hid (KR.out.below (b2) KR.out.lt)
  clear b2 hc RC
  have kS := (Blk.new w2 #[.slice a K cap, .map (some mb), .int .i64 n, .int .i64 c0, .int .i64 c1, .int .i64 c2, .int .i64 c3] 58).alloc (.cells #[.int .i64 y, .int .i64 y0, .int .i64 y1, .int .i64 y2, .int .i64 y3] 56)
  have kC := Blk.new (w2.alloc (.cells #[.slice a K cap, .map (some mb), .int .i64 n, .int .i64 c0, .int .i64 c1, .int .i64 c2, .int .i64 c3] 58)) #[.int .i64 y, .int .i64 y0, .int .i64 y1, .int .i64 y2, .int .i64 y3] 56
  simp only [World.size_alloc] at kC
  have ba := ((Below.refl w2.heap.size w2).alloc (Nat.le_refl _) (.cells #[.slice a K cap, .map (some mb), .int .i64 n, .int .i64 c0, .int .i64 c1, .int .i64 c2, .int .i64 c3] 58)).alloc (by simp [World.size_alloc]; try omega) (.cells #[.int .i64 y, .int .i64 y0, .int .i64 y1, .int .i64 y2, .int .i64 y3] 56)
  obtain ⟨pS, hpS⟩ : ∃ p, p = w2.heap.size := ⟨_, rfl⟩
  obtain ⟨pC, hpC⟩ : ∃ p, p = w2.heap.size + 1 := ⟨_, rfl⟩
  go_upto_region 2 with (fail)
  rw [← hpC] at kC
  try rw [← hpC]
  rw [← hpS] at kS
  try rw [← hpS]
  obtain ⟨w3, hW⟩ : ∃ W, W = (w2.alloc (.cells #[.slice a K cap, .map (some mb), .int .i64 n, .int .i64 c0, .int .i64 c1, .int .i64 c2, .int .i64 c3] 58)).alloc (.cells #[.int .i64 y, .int .i64 y0, .int .i64 y1, .int .i64 y2, .int .i64 y3] 56) := ⟨_, rfl⟩
  rw [← hW] at ba kS kC ⊢
  have KS := Lib.hid kS
  have GS := Lib.hid (show w2.heap.size ≤ pS by omega)
  have KC := Lib.hid kC
  have GC := Lib.hid (show w2.heap.size ≤ pC by omega)
  have NES_C := Lib.hid (show pS ≠ pC by omega)
  have NEE_S := Lib.hid (show pE ≠ pS by have := KE.out.lt; omega)
  have NEE_C := Lib.hid (show pE ≠ pC by have := KE.out.lt; omega)
  have NER_S := Lib.hid (show pR ≠ pS by have := KR.out.lt; omega)
  have NER_C := Lib.hid (show pR ≠ pC by have := KR.out.lt; omega)
  replace BW := Lib.hid (BW.out.trans ((ba).mono BW.out.size))
  replace KE := Lib.hid (KE.out.below (ba) KE.out.lt)
  replace KR := Lib.hid (KR.out.below (ba) KR.out.lt)
  clear ba hW kS hpS kC hpC
  have hn1 := (HN.out HC.out).1
  have hn4 := (HN.out HC.out).2
  have e0 := KE.out.cell 0
  have e1 := KE.out.cell 1
  have e2 := KE.out.cell 2
  simp only [List.getElem?_cons_zero, List.getElem?_cons_succ] at e0 e1 e2
  go_wp2_with fail
  refine (isIn_any er (-1) (n - 1) _).mono ?_
  rintro e w4 ⟨rfl, rfl⟩
  clear e0 e1 e2
  obtain ⟨IN, hIN⟩ : ∃ x, x = inB er (-1) (n - 1) := ⟨_, rfl⟩
  rw [← hIN] at HG ⊢
  clear hIN
  cases IN
  ·have HNO := Lib.hid (show GOOD = false by rw [HG.out, HC.out]; rfl)
   have r0 := KR.out.cell 0
   have r1 := KR.out.cell 1
   have r2 := KR.out.cell 2
   have r3 := KR.out.cell 3
   have r4 := KR.out.cell 4
   have r5 := KR.out.cell 5
   have r6 := KR.out.cell 6
   have r7 := KR.out.cell 7
   have r8 := KR.out.cell 8
   have r9 := KR.out.cell 9
   have r10 := KR.out.cell 10
   have r11 := KR.out.cell 11
   have r12 := KR.out.cell 12
   have r13 := KR.out.cell 13
   simp only [List.getElem?_cons_zero, List.getElem?_cons_succ] at r0 r1 r2 r3 r4 r5 r6 r7 r8 r9 r10 r11 r12 r13
   have fr := KR.out.free
   go_wp2
   refine bodyPost_ret (v := .tuple #[.agg #[.slice none 0 0, .map none, .int .i64 0, .int .i64 0, .int .i64 0, .int .i64 0, .int .i64 0, .int .i64 0, .int .i64 0, .int .i64 0, .int .i64 0, .int .i64 0, .int .i64 0, .int .i64 0], .bool false]) (by simp [results, Tryz.results28, go_sem, r0, r1, r2, r3, r4, r5, r6, r7, r8, r9, r10, r11, r12, r13]) rfl ⟨?_, .inr ⟨HNO.out, rfl⟩⟩
   repeat (first | with_reducible refine Below.setCell ?_ ?_ _ | with_reducible refine Below.drew ?_)
   all_goals (first | exact BW.out | (simp; done) | (simp; omega) | (have := GR.out; simp; omega))
  ·skip
   have kc0 := KC.out.cell 0
   have kc1 := KC.out.cell 1
   have kc2 := KC.out.cell 2
   have kc3 := KC.out.cell 3
   have kc4 := KC.out.cell 4
   simp only [List.getElem?_cons_zero, List.getElem?_cons_succ] at kc0 kc1 kc2 kc3 kc4
   have ks0 := KS.out.cell 0
   have ks1 := KS.out.cell 1
   have ks2 := KS.out.cell 2
   have ks3 := KS.out.cell 3
   have ks4 := KS.out.cell 4
   have ks5 := KS.out.cell 5
   have ks6 := KS.out.cell 6
   simp only [List.getElem?_cons_zero, List.getElem?_cons_succ] at ks0 ks1 ks2 ks3 ks4 ks5 ks6
   go_wp2_with fail
   refine (LQ.out HC.out _).mono ?_
   rintro e w5 ⟨rfl, b⟩
   clear kc0 kc1 kc2 kc3 kc4 ks0 ks1 ks2 ks3 ks4 ks5 ks6
   replace BW := Lib.hid (BW.out.trans ((b).mono BW.out.size))
   replace KE := Lib.hid (KE.out.below (b) KE.out.lt)
   replace KR := Lib.hid (KR.out.below (b) KR.out.lt)
   replace KS := Lib.hid (KS.out.below (b) KS.out.lt)
   replace KC := Lib.hid (KC.out.below (b) KC.out.lt)
   clear b
   cases LE
   ·have HNO := Lib.hid (show GOOD = false by rw [HG.out, HC.out]; rfl)
    have r0 := KR.out.cell 0
    have r1 := KR.out.cell 1
    have r2 := KR.out.cell 2
    have r3 := KR.out.cell 3
    have r4 := KR.out.cell 4
    have r5 := KR.out.cell 5
    have r6 := KR.out.cell 6
    have r7 := KR.out.cell 7
    have r8 := KR.out.cell 8
    have r9 := KR.out.cell 9
    have r10 := KR.out.cell 10
    have r11 := KR.out.cell 11
    have r12 := KR.out.cell 12
    have r13 := KR.out.cell 13
    simp only [List.getElem?_cons_zero, List.getElem?_cons_succ] at r0 r1 r2 r3 r4 r5 r6 r7 r8 r9 r10 r11 r12 r13
    have fr := KR.out.free
    go_wp2
    refine bodyPost_ret (v := .tuple #[.agg #[.slice none 0 0, .map none, .int .i64 0, .int .i64 0, .int .i64 0, .int .i64 0, .int .i64 0, .int .i64 0, .int .i64 0, .int .i64 0, .int .i64 0, .int .i64 0, .int .i64 0, .int .i64 0], .bool false]) (by simp [results, Tryz.results28, go_sem, r0, r1, r2, r3, r4, r5, r6, r7, r8, r9, r10, r11, r12, r13]) rfl ⟨?_, .inr ⟨HNO.out, rfl⟩⟩
    repeat (first | with_reducible refine Below.setCell ?_ ?_ _ | with_reducible refine Below.drew ?_)
    all_goals (first | exact BW.out | (simp; done) | (simp; omega) | (have := GR.out; simp; omega))
   ·have HYES := Lib.hid (show GOOD = true by rw [HG.out, HC.out]; rfl)
    have r0 := KR.out.cell 0
    have r1 := KR.out.cell 1
    have r2 := KR.out.cell 2
    have r3 := KR.out.cell 3
    have r4 := KR.out.cell 4
    have r5 := KR.out.cell 5
    have r6 := KR.out.cell 6
    have r7 := KR.out.cell 7
    have r8 := KR.out.cell 8
    have r9 := KR.out.cell 9
    have r10 := KR.out.cell 10
    have r11 := KR.out.cell 11
    have r12 := KR.out.cell 12
    have r13 := KR.out.cell 13
    simp only [List.getElem?_cons_zero, List.getElem?_cons_succ] at r0 r1 r2 r3 r4 r5 r6 r7 r8 r9 r10 r11 r12 r13
    have fr := KR.out.free
    have kc0 := KC.out.cell 0
    have kc1 := KC.out.cell 1
    have kc2 := KC.out.cell 2
    have kc3 := KC.out.cell 3
    have kc4 := KC.out.cell 4
    simp only [List.getElem?_cons_zero, List.getElem?_cons_succ] at kc0 kc1 kc2 kc3 kc4
    have ks0 := KS.out.cell 0
    have ks1 := KS.out.cell 1
    have ks2 := KS.out.cell 2
    have ks3 := KS.out.cell 3
    have ks4 := KS.out.cell 4
    have ks5 := KS.out.cell 5
    have ks6 := KS.out.cell 6
    simp only [List.getElem?_cons_zero, List.getElem?_cons_succ] at ks0 ks1 ks2 ks3 ks4 ks5 ks6
    have e0 := KE.out.cell 0
    have e1 := KE.out.cell 1
    have e2 := KE.out.cell 2
    simp only [List.getElem?_cons_zero, List.getElem?_cons_succ] at e0 e1 e2
    go_wp2
    refine bodyPost_ret (v := .tuple #[.agg #[.slice a K cap, .map (some mb), .int .i64 n, .int .i64 c0, .int .i64 c1, .int .i64 c2, .int .i64 c3, .int .i64 er, .int .i64 en, .int .i64 y, .int .i64 y0, .int .i64 y1, .int .i64 y2, .int .i64 y3], .bool true]) (by simp [results, Tryz.results28, go_sem, r0, r1, r2, r3, r4, r5, r6, r7, r8, r9, r10, r11, r12, r13]) rfl ⟨?_, .inl ⟨HYES.out, mb, rfl⟩⟩
    repeat (first | with_reducible refine Below.setCell ?_ ?_ _ | with_reducible refine Below.drew ?_)
    all_goals (first | exact BW.out | (simp; done) | (simp; omega) | (have := GR.out; simp; omega))
 ·have HNO := Lib.hid (show GOOD = false by rw [HG.out, hc]; rfl)
  replace BW := Lib.hid (BW.out.trans ((b2).mono BW.out.size))
  replace KE := Lib.hid (KE.out.below (b2) KE.out.lt)
  replace KR := Lib.hid (KR.out.below (b2) KR.out.lt)
  clear b2 hc RC LQ HN
  have kS := (Blk.new w2 #[.slice none 0 0, .map none, .int .i64 0, .int .i64 0, .int .i64 0, .int .i64 0, .int .i64 0] 58).alloc (.cells #[.int .i64 0, .int .i64 0, .int .i64 0, .int .i64 0, .int .i64 0] 56)
  have kC := Blk.new (w2.alloc (.cells #[.slice none 0 0, .map none, .int .i64 0, .int .i64 0, .int .i64 0, .int .i64 0, .int .i64 0] 58)) #[.int .i64 0, .int .i64 0, .int .i64 0, .int .i64 0, .int .i64 0] 56
  simp only [World.size_alloc] at kC
  have ba := ((Below.refl w2.heap.size w2).alloc (Nat.le_refl _) (.cells #[.slice none 0 0, .map none, .int .i64 0, .int .i64 0, .int .i64 0, .int .i64 0, .int .i64 0] 58)).alloc (by simp [World.size_alloc]; try omega) (.cells #[.int .i64 0, .int .i64 0, .int .i64 0, .int .i64 0, .int .i64 0] 56)
  obtain ⟨pS, hpS⟩ : ∃ p, p = w2.heap.size := ⟨_, rfl⟩
  obtain ⟨pC, hpC⟩ : ∃ p, p = w2.heap.size + 1 := ⟨_, rfl⟩
  go_upto_region 2 with (fail)
  rw [← hpC] at kC
  try rw [← hpC]
  rw [← hpS] at kS
  try rw [← hpS]
  obtain ⟨w3, hW⟩ : ∃ W, W = (w2.alloc (.cells #[.slice none 0 0, .map none, .int .i64 0, .int .i64 0, .int .i64 0, .int .i64 0, .int .i64 0] 58)).alloc (.cells #[.int .i64 0, .int .i64 0, .int .i64 0, .int .i64 0, .int .i64 0] 56) := ⟨_, rfl⟩
  rw [← hW] at ba kS kC ⊢
  have KS := Lib.hid kS
  have GS := Lib.hid (show w2.heap.size ≤ pS by omega)
  have KC := Lib.hid kC
  have GC := Lib.hid (show w2.heap.size ≤ pC by omega)
  have NES_C := Lib.hid (show pS ≠ pC by omega)
  have NEE_S := Lib.hid (show pE ≠ pS by have := KE.out.lt; omega)
  have NEE_C := Lib.hid (show pE ≠ pC by have := KE.out.lt; omega)
  have NER_S := Lib.hid (show pR ≠ pS by have := KR.out.lt; omega)
  have NER_C := Lib.hid (show pR ≠ pC by have := KR.out.lt; omega)
  replace BW := Lib.hid (BW.out.trans ((ba).mono BW.out.size))
  replace KE := Lib.hid (KE.out.below (ba) KE.out.lt)
  replace KR := Lib.hid (KR.out.below (ba) KR.out.lt)
  clear ba hW kS hpS kC hpC
  have r0 := KR.out.cell 0
  have r1 := KR.out.cell 1
  have r2 := KR.out.cell 2
  have r3 := KR.out.cell 3
  have r4 := KR.out.cell 4
  have r5 := KR.out.cell 5
  have r6 := KR.out.cell 6
  have r7 := KR.out.cell 7
  have r8 := KR.out.cell 8
  have r9 := KR.out.cell 9
  have r10 := KR.out.cell 10
  have r11 := KR.out.cell 11
  have r12 := KR.out.cell 12
  have r13 := KR.out.cell 13
  simp only [List.getElem?_cons_zero, List.getElem?_cons_succ] at r0 r1 r2 r3 r4 r5 r6 r7 r8 r9 r10 r11 r12 r13
  have fr := KR.out.free
  go_wp2
  refine bodyPost_ret (v := .tuple #[.agg #[.slice none 0 0, .map none, .int .i64 0, .int .i64 0, .int .i64 0, .int .i64 0, .int .i64 0, .int .i64 0, .int .i64 0, .int .i64 0, .int .i64 0, .int .i64 0, .int .i64 0, .int .i64 0], .bool false]) (by simp [results, Tryz.results28, go_sem, r0, r1, r2, r3, r4, r5, r6, r7, r8, r9, r10, r11, r12, r13]) rfl ⟨?_, .inr ⟨HNO.out, rfl⟩⟩
  repeat (first | with_reducible refine Below.setCell ?_ ?_ _ | with_reducible refine Below.drew ?_)
  all_goals (first | exact BW.out | (simp; done) | (simp; omega) | (have := GR.out; simp; omega))
set_option maxRecDepth 100000 in
set_option maxHeartbeats 6400000 in
theorem ceilingOf_some (b off : Nat) (vl vc mb : Nat) (q x0 x1 x2 x3 er en m y0 y1 y2 y3 : Int) (bk : Int) (xs : List Int) (ts : List ActT) (w : World) (h1 : ts.length = vl) (hb : b < w.heap.size) (hc : ∀ i, i < vl → ActAt w b (off + i * 11) (ts.getD i t0)) (hts : ActsT w (.slice (some ⟨b, off, none⟩) vl vc) ts)
  (hy : ∀ t ∈ ts, 0 ≤ t.a.r ∧ t.a.r < 4 ∧ [y0, y1, y2, y3].getD t.a.r.toNat 0 = xs.getD t.a.r.toNat 0) (he : ∀ t ∈ ts, er < t.a.dep.length) :
  Calls Tryz.prog 39 #[.agg #[.slice (some ⟨b, off, none⟩) vl vc, .map (some mb), .int .i64 q, .int .i64 x0, .int .i64 x1, .int .i64 x2, .int .i64 x3, .int .i64 er, .int .i64 en, .int .i64 m, .int .i64 y0, .int .i64 y1, .int .i64 y2, .int .i64 y3], .int .i64 bk] w fun e w' => e = .returned (.int .i64 (ceilM (ts.map ActT.a) bk er en xs)) ∧ Below w.heap.size w w' := by
 have hl := actsT_max hts
 rw [h1] at hl
 obtain ⟨R, hR⟩ : ∃ R, R = ceilM (ts.map ActT.a) bk er en xs := ⟨_, rfl⟩
 rw [← hR]
 have HR : Hid (R = ((ts.map ActT.a).drop 0).foldl (ceilStep (ts.map ActT.a) bk er en xs) 15) := hR
 have N1 := Lib.hid h1
 have HC := Lib.hid hc
 have HRd := Lib.hid hts.1
 have LM := Lib.hid (fun t W (h : t.Reads W) => limits_any t bk W h)
 have LA := Lib.hid (fun t (ht : t ∈ ts) W (h : t.Reads W) => isLater_any (some ⟨b, off, none⟩) vl vc mb q x0 x1 x2 x3 er en m y0 y1 y2 y3 t W h (he t ht))
 have RP := Lib.hid (fun t W (hW : Below w.heap.size w W) (h : t.Reads W) => isReplaced_any (some ⟨b, off, none⟩) vl vc mb q x0 x1 x2 x3 er en m y0 y1 y2 y3 xs ts t W (hts.below hW) h hy)
 have b00 := Lib.hid hb
 clear hR h1 hc hts hy he hb
 have BW := Lib.hid (Below.refl w.heap.size w)
 go_enter Tryz.func39, Tryz.ntmps39
 have kV := Blk.new w #[.slice (some ⟨b, off, none⟩) vl vc, .map (some mb), .int .i64 q, .int .i64 x0, .int .i64 x1, .int .i64 x2, .int .i64 x3, .int .i64 er, .int .i64 en, .int .i64 m, .int .i64 y0, .int .i64 y1, .int .i64 y2, .int .i64 y3] 60
 have ba := (Below.refl w.heap.size w).alloc (Nat.le_refl _) (.cells #[.slice (some ⟨b, off, none⟩) vl vc, .map (some mb), .int .i64 q, .int .i64 x0, .int .i64 x1, .int .i64 x2, .int .i64 x3, .int .i64 er, .int .i64 en, .int .i64 m, .int .i64 y0, .int .i64 y1, .int .i64 y2, .int .i64 y3] 60)
 obtain ⟨pV, hpV⟩ : ∃ p, p = w.heap.size := ⟨_, rfl⟩
 go_upto_region 1 with (fail)
 rw [← hpV] at kV
 try rw [← hpV]
 obtain ⟨w1, hW⟩ : ∃ W, W = w.alloc (.cells #[.slice (some ⟨b, off, none⟩) vl vc, .map (some mb), .int .i64 q, .int .i64 x0, .int .i64 x1, .int .i64 x2, .int .i64 x3, .int .i64 er, .int .i64 en, .int .i64 m, .int .i64 y0, .int .i64 y1, .int .i64 y2, .int .i64 y3] 60) := ⟨_, rfl⟩
 rw [← hW] at ba kV ⊢
 have KV := Lib.hid kV
 have GV := Lib.hid (show w.heap.size ≤ pV by omega)
 replace BW := Lib.hid (BW.out.trans ((ba).mono BW.out.size))
 clear ba hW kV hpV
 have v0 := KV.out.cell 0
 have v1 := KV.out.cell 1
 have v2 := KV.out.cell 2
 have v3 := KV.out.cell 3
 have v4 := KV.out.cell 4
 have v5 := KV.out.cell 5
 have v6 := KV.out.cell 6
 have v7 := KV.out.cell 7
 have v8 := KV.out.cell 8
 have v9 := KV.out.cell 9
 have v10 := KV.out.cell 10
 have v11 := KV.out.cell 11
 have v12 := KV.out.cell 12
 have v13 := KV.out.cell 13
 simp only [List.getElem?_cons_zero, List.getElem?_cons_succ] at v0 v1 v2 v3 v4 v5 v6 v7 v8 v9 v10 v11 v12 v13
 go_wp2_with fail
 clear v0 v1 v2 v3 v4 v5 v6 v7 v8 v9 v10 v11 v12 v13
 go_loopw [5, 12] (fun m' i wr => ∃ (k : Nat) (mm : Int), k ≤ vl ∧ m' = .int .i64 mm ∧ i = .int .i64 k ∧ Hid (R = ((ts.map ActT.a).drop k).foldl (ceilStep (ts.map ActT.a) bk er en xs) mm) ∧ Hid (Blk wr pV [.slice (some ⟨b, off, none⟩) vl vc, .map (some mb), .int .i64 q, .int .i64 x0, .int .i64 x1, .int .i64 x2, .int .i64 x3, .int .i64 er, .int .i64 en, .int .i64 m, .int .i64 y0, .int .i64 y1, .int .i64 y2, .int .i64 y3]) ∧ Hid (Below w.heap.size w wr)) (fun _ i _ => vl - (intOf i).toNat)
 case atStart => exact ⟨0, 15, Nat.zero_le _, rfl, rfl, HR.out, KV.out, BW.out⟩
 case round =>
  obtain ⟨k, mm, hk, rfl, rfl, hg, hkv, hbel⟩ := hrel
  clear BW KV HR
  have BW := hbel
  have KV := hkv
  clear hbel hkv
  by_cases hlt : k < vl
  ·have hlt2 : k < ts.length := by rw [N1.out]; exact hlt
   have hm := getD_mem hlt2
   have AT := Lib.hid ((HC.out k hlt).below BW.out b00.out)
   have HT := Lib.hid ((HRd.out _ hm).below BW.out)
   have hst := hg.out
   rw [fold_step hlt2] at hst
   have LA1 := LA.out _ hm
   have LM1 := LM.out (ts.getD k t0)
   have RP1 := RP.out (ts.getD k t0)
   obtain ⟨t, htt⟩ : ∃ t, t = ts.getD k t0 := ⟨_, rfl⟩
   rw [← htt] at AT HT hst LA1 LM1 RP1
   obtain ⟨X, hX⟩ : ∃ X, X = ceilIs bk t.a := ⟨_, rfl⟩
   obtain ⟨Y, hY⟩ : ∃ Y, Y = laterM t.a er en := ⟨_, rfl⟩
   obtain ⟨Z, hZ⟩ : ∃ Z, Z = overM (ts.map ActT.a) t.a.bucket xs t.a := ⟨_, rfl⟩
   obtain ⟨M1, hM1⟩ : ∃ x, x = t.a.mask := ⟨_, rfl⟩
   have hstep : ceilStep (ts.map ActT.a) bk er en xs mm t.a = (if (X && !Y && !Z) = true then bits .and .i64 mm M1 else mm) := by
    unfold ceilStep
    rw [← hX, ← hY, ← hM1, hZ]
    cases X
    ·rfl
    ·have hbk : t.a.bucket = bk := by
      have := hX.symm
      simp only [ceilIs, Bool.and_eq_true, decide_eq_true_eq] at this
      exact this.2
     rw [hbk]
   rw [hstep] at hst
   rw [← hX] at LM1
   rw [← hY] at LA1
   rw [← hZ] at RP1
   have HST := Lib.hid hst
   have LMH := Lib.hid LM1
   have LAH := Lib.hid LA1
   have RPH := Lib.hid RP1
   clear hst hstep LM1 LA1 RP1 htt hm hX hY hZ hg
   obtain ⟨⟨r, nn, dep, actor, kind, dst, bucket, mask, gr, gn, ups⟩, vd, vs⟩ := t
   have hsd := ints_len HT.out.1
   have hsu := ups_len HT.out.2
   simp only at hsd hsu
   obtain ⟨da, dc, rfl⟩ := hsd
   obtain ⟨ua, uc, rfl⟩ := hsu
   try simp only [ActT.val] at LMH LAH RPH ⊢
   obtain ⟨dl, hdl⟩ : ∃ x, x = dep.length := ⟨_, rfl⟩
   obtain ⟨ul, hul⟩ : ∃ x, x = ups.length := ⟨_, rfl⟩
   try rw [← hdl] at HT
   try rw [← hul] at HT
   try rw [← hdl] at AT
   try rw [← hul] at AT
   try rw [← hdl] at LMH
   try rw [← hul] at LMH
   try rw [← hdl] at LAH
   try rw [← hul] at LAH
   try rw [← hdl] at RPH
   try rw [← hul] at RPH
   try rw [← hdl]
   try rw [← hul]
   have HDL := Lib.hid hdl
   clear hdl hul
   simp only at hM1
   replace hM1 := hM1.symm
   subst hM1
   have c0 := AT.out.c0
   have c1 := AT.out.c1
   have c2 := AT.out.c2
   have c3 := AT.out.c3
   have c4 := AT.out.c4
   have c5 := AT.out.c5
   have c6 := AT.out.c6
   have c7 := AT.out.c7
   have c8 := AT.out.c8
   have c9 := AT.out.c9
   have c10 := AT.out.c10
   simp only at c0 c1 c2 c3 c4 c5 c6 c7 c8 c9 c10
   have i0 : (0 : Int) ≤ (k : Int) := by omega
   have i1 : (k : Int) < (vl : Int) := by omega
   go_upto_region 5 with (fail)
   clear c0 c1 c2 c3 c4 c5 c6 c7 c8 c9 c10
   clear AT i0 i1
   have kC := Blk.new wr #[.int .i64 r, .int .i64 nn, .slice da dl dc, .int .i64 actor, .int .i64 kind, .int .i64 dst, .int .i64 bucket, .int .i64 mask, .int .i64 gr, .int .i64 gn, .slice ua ul uc] 33
   have ba := (Below.refl wr.heap.size wr).alloc (Nat.le_refl _) (.cells #[.int .i64 r, .int .i64 nn, .slice da dl dc, .int .i64 actor, .int .i64 kind, .int .i64 dst, .int .i64 bucket, .int .i64 mask, .int .i64 gr, .int .i64 gn, .slice ua ul uc] 33)
   obtain ⟨pC, hpC⟩ : ∃ p, p = wr.heap.size := ⟨_, rfl⟩
   rw [← hpC] at kC
   try rw [← hpC]
   obtain ⟨w2, hW⟩ : ∃ W, W = wr.alloc (.cells #[.int .i64 r, .int .i64 nn, .slice da dl dc, .int .i64 actor, .int .i64 kind, .int .i64 dst, .int .i64 bucket, .int .i64 mask, .int .i64 gr, .int .i64 gn, .slice ua ul uc] 33) := ⟨_, rfl⟩
   rw [← hW] at ba kC ⊢
   have KC := Lib.hid kC
   have GC := Lib.hid (show wr.heap.size ≤ pC by omega)
   have NEV_C := Lib.hid (show pV ≠ pC by have := KV.out.lt; omega)
   replace BW := Lib.hid (BW.out.trans ((ba).mono BW.out.size))
   replace HT := Lib.hid (HT.out.below (ba))
   replace KV := Lib.hid (KV.out.below (ba) KV.out.lt)
   clear ba hW kC hpC
   have kc0 := KC.out.cell 0
   have kc1 := KC.out.cell 1
   have kc2 := KC.out.cell 2
   have kc3 := KC.out.cell 3
   have kc4 := KC.out.cell 4
   have kc5 := KC.out.cell 5
   have kc6 := KC.out.cell 6
   have kc7 := KC.out.cell 7
   have kc8 := KC.out.cell 8
   have kc9 := KC.out.cell 9
   have kc10 := KC.out.cell 10
   simp only [List.getElem?_cons_zero, List.getElem?_cons_succ] at kc0 kc1 kc2 kc3 kc4 kc5 kc6 kc7 kc8 kc9 kc10
   go_wp2_with fail
   refine (LMH.out _ HT.out).mono ?_
   rintro e w3 ⟨rfl, b⟩
   clear kc0 kc1 kc2 kc3 kc4 kc5 kc6 kc7 kc8 kc9 kc10
   replace BW := Lib.hid (BW.out.trans ((b).mono BW.out.size))
   replace HT := Lib.hid (HT.out.below (b))
   replace KV := Lib.hid (KV.out.below (b) KV.out.lt)
   replace KC := Lib.hid (KC.out.below (b) KC.out.lt)
   clear b
   cases X
   ·have HSS := Lib.hid (show R = ((ts.map ActT.a).drop (k + 1)).foldl (ceilStep (ts.map ActT.a) bk er en xs) mm by rw [HST.out]; rfl)
    go_wp2_with fail
    go_roundw
    case rel => exact ⟨k + 1, mm, by omega, rfl, by go_num, HSS.out, KV.out, BW.out⟩
    case measure => simp [intOf]; omega
   have kc0 := KC.out.cell 0
   have kc1 := KC.out.cell 1
   have kc2 := KC.out.cell 2
   have kc3 := KC.out.cell 3
   have kc4 := KC.out.cell 4
   have kc5 := KC.out.cell 5
   have kc6 := KC.out.cell 6
   have kc7 := KC.out.cell 7
   have kc8 := KC.out.cell 8
   have kc9 := KC.out.cell 9
   have kc10 := KC.out.cell 10
   simp only [List.getElem?_cons_zero, List.getElem?_cons_succ] at kc0 kc1 kc2 kc3 kc4 kc5 kc6 kc7 kc8 kc9 kc10
   have v0 := KV.out.cell 0
   have v1 := KV.out.cell 1
   have v2 := KV.out.cell 2
   have v3 := KV.out.cell 3
   have v4 := KV.out.cell 4
   have v5 := KV.out.cell 5
   have v6 := KV.out.cell 6
   have v7 := KV.out.cell 7
   have v8 := KV.out.cell 8
   have v9 := KV.out.cell 9
   have v10 := KV.out.cell 10
   have v11 := KV.out.cell 11
   have v12 := KV.out.cell 12
   have v13 := KV.out.cell 13
   simp only [List.getElem?_cons_zero, List.getElem?_cons_succ] at v0 v1 v2 v3 v4 v5 v6 v7 v8 v9 v10 v11 v12 v13
   go_wp2_with fail
   refine (LAH.out _ HT.out).mono ?_
   rintro e w4 ⟨rfl, b⟩
   clear kc0 kc1 kc2 kc3 kc4 kc5 kc6 kc7 kc8 kc9 kc10 v0 v1 v2 v3 v4 v5 v6 v7 v8 v9 v10 v11 v12 v13
   replace BW := Lib.hid (BW.out.trans ((b).mono BW.out.size))
   replace HT := Lib.hid (HT.out.below (b))
   replace KV := Lib.hid (KV.out.below (b) KV.out.lt)
   replace KC := Lib.hid (KC.out.below (b) KC.out.lt)
   clear b
   cases Y
   rotate_left
   ·have HSS := Lib.hid (show R = ((ts.map ActT.a).drop (k + 1)).foldl (ceilStep (ts.map ActT.a) bk er en xs) mm by rw [HST.out]; rfl)
    go_wp2_with fail
    go_roundw
    case rel => exact ⟨k + 1, mm, by omega, rfl, by go_num, HSS.out, KV.out, BW.out⟩
    case measure => simp [intOf]; omega
   have kc0 := KC.out.cell 0
   have kc1 := KC.out.cell 1
   have kc2 := KC.out.cell 2
   have kc3 := KC.out.cell 3
   have kc4 := KC.out.cell 4
   have kc5 := KC.out.cell 5
   have kc6 := KC.out.cell 6
   have kc7 := KC.out.cell 7
   have kc8 := KC.out.cell 8
   have kc9 := KC.out.cell 9
   have kc10 := KC.out.cell 10
   simp only [List.getElem?_cons_zero, List.getElem?_cons_succ] at kc0 kc1 kc2 kc3 kc4 kc5 kc6 kc7 kc8 kc9 kc10
   have v0 := KV.out.cell 0
   have v1 := KV.out.cell 1
   have v2 := KV.out.cell 2
   have v3 := KV.out.cell 3
   have v4 := KV.out.cell 4
   have v5 := KV.out.cell 5
   have v6 := KV.out.cell 6
   have v7 := KV.out.cell 7
   have v8 := KV.out.cell 8
   have v9 := KV.out.cell 9
   have v10 := KV.out.cell 10
   have v11 := KV.out.cell 11
   have v12 := KV.out.cell 12
   have v13 := KV.out.cell 13
   simp only [List.getElem?_cons_zero, List.getElem?_cons_succ] at v0 v1 v2 v3 v4 v5 v6 v7 v8 v9 v10 v11 v12 v13
   go_wp2_with fail
   refine (RPH.out _ BW.out HT.out).mono ?_
   rintro e w5 ⟨rfl, b⟩
   clear kc0 kc1 kc2 kc3 kc4 kc5 kc6 kc7 kc8 kc9 kc10 v0 v1 v2 v3 v4 v5 v6 v7 v8 v9 v10 v11 v12 v13
   replace BW := Lib.hid (BW.out.trans ((b).mono BW.out.size))
   replace HT := Lib.hid (HT.out.below (b))
   replace KV := Lib.hid (KV.out.below (b) KV.out.lt)
   replace KC := Lib.hid (KC.out.below (b) KC.out.lt)
   clear b
   cases Z
   rotate_left
   ·have HSS := Lib.hid (show R = ((ts.map ActT.a).drop (k + 1)).foldl (ceilStep (ts.map ActT.a) bk er en xs) mm by rw [HST.out]; rfl)
    go_wp2_with fail
    go_roundw
    case rel => exact ⟨k + 1, mm, by omega, rfl, by go_num, HSS.out, KV.out, BW.out⟩
    case measure => simp [intOf]; omega
   have kc0 := KC.out.cell 0
   have kc1 := KC.out.cell 1
   have kc2 := KC.out.cell 2
   have kc3 := KC.out.cell 3
   have kc4 := KC.out.cell 4
   have kc5 := KC.out.cell 5
   have kc6 := KC.out.cell 6
   have kc7 := KC.out.cell 7
   have kc8 := KC.out.cell 8
   have kc9 := KC.out.cell 9
   have kc10 := KC.out.cell 10
   simp only [List.getElem?_cons_zero, List.getElem?_cons_succ] at kc0 kc1 kc2 kc3 kc4 kc5 kc6 kc7 kc8 kc9 kc10
   go_wp2_with fail
   refine (within_any _ _ _).mono ?_
   rintro e w6 ⟨rfl, rfl⟩
   clear kc0 kc1 kc2 kc3 kc4 kc5 kc6 kc7 kc8 kc9 kc10
   have HSS := Lib.hid (show R = ((ts.map ActT.a).drop (k + 1)).foldl (ceilStep (ts.map ActT.a) bk er en xs) (bits .and .i64 mm mask) by rw [HST.out]; rfl)
   go_wp2_with fail
   go_roundw
   case rel => exact ⟨k + 1, _, by omega, rfl, by go_num, HSS.out, KV.out, BW.out⟩
   case measure => simp [intOf]; omega
  ·have HSS := Lib.hid (show R = mm by rw [hg.out, drop_end (by rw [List.length_map, N1.out]; omega)]; rfl)
   go_wp2_with fail
   go_ret
   exact ⟨ret_int HSS.out.symm, BW.out⟩
set_option maxRecDepth 100000 in
set_option maxHeartbeats 1600000 in
theorem ceilingOf_any (va : Option Addr) (vl vc mb : Nat) (q x0 x1 x2 x3 er en m y0 y1 y2 y3 : Int) (bk : Int) (xs : List Int) (ts : List ActT) (w : World) (hts : ActsT w (.slice va vl vc) ts)
  (hy : ∀ t ∈ ts, 0 ≤ t.a.r ∧ t.a.r < 4 ∧ [y0, y1, y2, y3].getD t.a.r.toNat 0 = xs.getD t.a.r.toNat 0) (he : ∀ t ∈ ts, er < t.a.dep.length) :
  Calls Tryz.prog 39 #[.agg #[.slice va vl vc, .map (some mb), .int .i64 q, .int .i64 x0, .int .i64 x1, .int .i64 x2, .int .i64 x3, .int .i64 er, .int .i64 en, .int .i64 m, .int .i64 y0, .int .i64 y1, .int .i64 y2, .int .i64 y3], .int .i64 bk] w fun e w' => e = .returned (.int .i64 (ceilM (ts.map ActT.a) bk er en xs)) ∧ Below w.heap.size w w' := by
 rcases hts.2 with ⟨a, cap, hv, rfl⟩ | ⟨b, off, cap, hv, q1, q2, q3, q4⟩
 ·cases hv
  have BW := Lib.hid (Below.refl w.heap.size w)
  go_enter Tryz.func39, Tryz.ntmps39
  have kV := Blk.new w #[.slice va 0 vc, .map (some mb), .int .i64 q, .int .i64 x0, .int .i64 x1, .int .i64 x2, .int .i64 x3, .int .i64 er, .int .i64 en, .int .i64 m, .int .i64 y0, .int .i64 y1, .int .i64 y2, .int .i64 y3] 60
  have ba := (Below.refl w.heap.size w).alloc (Nat.le_refl _) (.cells #[.slice va 0 vc, .map (some mb), .int .i64 q, .int .i64 x0, .int .i64 x1, .int .i64 x2, .int .i64 x3, .int .i64 er, .int .i64 en, .int .i64 m, .int .i64 y0, .int .i64 y1, .int .i64 y2, .int .i64 y3] 60)
  obtain ⟨pV, hpV⟩ : ∃ p, p = w.heap.size := ⟨_, rfl⟩
  go_upto_region 1 with (fail)
  rw [← hpV] at kV
  try rw [← hpV]
  obtain ⟨w1, hW⟩ : ∃ W, W = w.alloc (.cells #[.slice va 0 vc, .map (some mb), .int .i64 q, .int .i64 x0, .int .i64 x1, .int .i64 x2, .int .i64 x3, .int .i64 er, .int .i64 en, .int .i64 m, .int .i64 y0, .int .i64 y1, .int .i64 y2, .int .i64 y3] 60) := ⟨_, rfl⟩
  rw [← hW] at ba kV ⊢
  have KV := Lib.hid kV
  have GV := Lib.hid (show w.heap.size ≤ pV by omega)
  replace BW := Lib.hid (BW.out.trans ((ba).mono BW.out.size))
  clear ba hW kV hpV
  have v0 := KV.out.cell 0
  have v1 := KV.out.cell 1
  have v2 := KV.out.cell 2
  have v3 := KV.out.cell 3
  have v4 := KV.out.cell 4
  have v5 := KV.out.cell 5
  have v6 := KV.out.cell 6
  have v7 := KV.out.cell 7
  have v8 := KV.out.cell 8
  have v9 := KV.out.cell 9
  have v10 := KV.out.cell 10
  have v11 := KV.out.cell 11
  have v12 := KV.out.cell 12
  have v13 := KV.out.cell 13
  simp only [List.getElem?_cons_zero, List.getElem?_cons_succ] at v0 v1 v2 v3 v4 v5 v6 v7 v8 v9 v10 v11 v12 v13
  go_wp2_with fail
  go_loop [5, 12] (fun m' i => m' = .int .i64 15 ∧ i = .int .i64 0) (fun _ _ => 0)
  case atStart => exact ⟨rfl, rfl⟩
  case round =>
   obtain ⟨rfl, rfl⟩ := hrel
   go_wp2
   go_ret
   exact ⟨rfl, BW.out⟩
 ·cases hv
  exact ceilingOf_some b off ts.length vc mb q x0 x1 x2 x3 er en m y0 y1 y2 y3 bk xs ts w rfl q1 q4 hts hy he
theorem view_acts {l : List ActM} {n er : Int} {xs : List Int} (h : goodM l n er xs = true) : ∀ t ∈ l, 0 ≤ t.r ∧ t.r < 4 ∧ er < t.dep.length ∧ [cx xs 0, cx xs 1, cx xs 2, cx xs 3].getD t.r.toNat 0 = xs.getD t.r.toNat 0 := by
 obtain ⟨hc, h1, h2, h3⟩ := good_parts h
 obtain ⟨hs, ho, hl, m, rfl, g1, g4, hx⟩ := cutB_set hc
 intro t ht
 have hp := ok_parts ((setOk_all hs).2.2.2 t ht)
 refine ⟨hp.1, by omega, by omega, four_cx ho (by omega)⟩
set_option maxRecDepth 100000 in
set_option maxHeartbeats 3200000 in
theorem implCeiling_any (v vv : Value) (l : List ActM) (xs : List Int) (n bk er en : Int) (w : World) (h : Acts w v l) (hv : Ints w vv xs) (hn : I64 n) :
  Calls Tryz.prog 15 #[v, .int .i64 n, .int .i64 bk, .agg #[.int .i64 er, .int .i64 en, vv]] w fun e w' => e = .returned (.int .i64 (ceilingM l n bk er en xs)) ∧ Below w.heap.size w w' := by
 obtain ⟨ts, rfl, h⟩ := h
 obtain ⟨a, cap, rfl⟩ := actsT_len h
 obtain ⟨va, vc, rfl⟩ := ints_len hv
 have RV := Lib.hid (fun W (hW : Below w.heap.size w W) => readView_any _ (.slice va xs.length vc) ts xs n er en W (h.below hW) (hv.below (B := 0) hW) hn)
 have CO := Lib.hid (fun (hg : goodM (ts.map ActT.a) n er xs = true) mb W (hW : Below w.heap.size w W) => ceilingOf_any a ts.length cap mb n (cntM (ts.map ActT.a) 0) (cntM (ts.map ActT.a) 1) (cntM (ts.map ActT.a) 2) (cntM (ts.map ActT.a) 3) er en (cn xs) (cx xs 0) (cx xs 1) (cx xs 2) (cx xs 3) bk xs ts W (h.below hW)
  (fun t ht => by obtain ⟨h1, h2, h3, h4⟩ := view_acts hg t.a (List.mem_map_of_mem ht); exact ⟨h1, h2, h4⟩) (fun t ht => (view_acts hg t.a (List.mem_map_of_mem ht)).2.2.1))
 have HR : Hid (ceilingM (ts.map ActT.a) n bk er en xs = if goodM (ts.map ActT.a) n er xs = true then ceilM (ts.map ActT.a) bk er en xs else 0) := rfl
 unfold ViewRead at RV
 clear h hv
 generalize (cntM (ts.map ActT.a) 0 : Int) = c0 at *
 generalize (cntM (ts.map ActT.a) 1 : Int) = c1 at *
 generalize (cntM (ts.map ActT.a) 2 : Int) = c2 at *
 generalize (cntM (ts.map ActT.a) 3 : Int) = c3 at *
 generalize cn xs = y at *
 generalize cx xs 0 = y0 at *
 generalize cx xs 1 = y1 at *
 generalize cx xs 2 = y2 at *
 generalize cx xs 3 = y3 at *
 generalize ceilingM (ts.map ActT.a) n bk er en xs = RES at *
 generalize ceilM (ts.map ActT.a) bk er en xs = CM at *
 generalize goodM (ts.map ActT.a) n er xs = GOOD at *
 generalize ts.length = K at *
 generalize xs.length = L at *
 have BW := Lib.hid (Below.refl w.heap.size w)
 go_enter Tryz.func15, Tryz.ntmps15
 have kE := Blk.new w #[.int .i64 er, .int .i64 en, .slice va L vc] 26
 have ba := (Below.refl w.heap.size w).alloc (Nat.le_refl _) (.cells #[.int .i64 er, .int .i64 en, .slice va L vc] 26)
 obtain ⟨pE, hpE⟩ : ∃ p, p = w.heap.size := ⟨_, rfl⟩
 go_upto_region 1 with (fail)
 rw [← hpE] at kE
 try rw [← hpE]
 obtain ⟨w1, hW⟩ : ∃ W, W = w.alloc (.cells #[.int .i64 er, .int .i64 en, .slice va L vc] 26) := ⟨_, rfl⟩
 rw [← hW] at ba kE ⊢
 have KE := Lib.hid kE
 have GE := Lib.hid (show w.heap.size ≤ pE by omega)
 replace BW := Lib.hid (BW.out.trans ((ba).mono BW.out.size))
 clear ba hW kE hpE
 have e0 := KE.out.cell 0
 have e1 := KE.out.cell 1
 have e2 := KE.out.cell 2
 simp only [List.getElem?_cons_zero, List.getElem?_cons_succ] at e0 e1 e2
 go_wp2_with fail
 refine (RV.out _ BW.out).mono ?_
 rintro e w2 ⟨b2, (⟨hc, mb, rfl⟩ | ⟨hc, rfl⟩)⟩
 clear e0 e1 e2
 ·have HC := Lib.hid hc
  replace BW := Lib.hid (BW.out.trans ((b2).mono BW.out.size))
  replace KE := Lib.hid (KE.out.below (b2) KE.out.lt)
  clear b2 hc RV
  have kV := Blk.new w2 #[.slice a K cap, .map (some mb), .int .i64 n, .int .i64 c0, .int .i64 c1, .int .i64 c2, .int .i64 c3, .int .i64 er, .int .i64 en, .int .i64 y, .int .i64 y0, .int .i64 y1, .int .i64 y2, .int .i64 y3] 60
  have ba := (Below.refl w2.heap.size w2).alloc (Nat.le_refl _) (.cells #[.slice a K cap, .map (some mb), .int .i64 n, .int .i64 c0, .int .i64 c1, .int .i64 c2, .int .i64 c3, .int .i64 er, .int .i64 en, .int .i64 y, .int .i64 y0, .int .i64 y1, .int .i64 y2, .int .i64 y3] 60)
  obtain ⟨pV, hpV⟩ : ∃ p, p = w2.heap.size := ⟨_, rfl⟩
  go_upto_region 2 with (fail)
  rw [← hpV] at kV
  try rw [← hpV]
  obtain ⟨w3, hW⟩ : ∃ W, W = w2.alloc (.cells #[.slice a K cap, .map (some mb), .int .i64 n, .int .i64 c0, .int .i64 c1, .int .i64 c2, .int .i64 c3, .int .i64 er, .int .i64 en, .int .i64 y, .int .i64 y0, .int .i64 y1, .int .i64 y2, .int .i64 y3] 60) := ⟨_, rfl⟩
  rw [← hW] at ba kV ⊢
  have KV := Lib.hid kV
  have GV := Lib.hid (show w2.heap.size ≤ pV by omega)
  have NEE_V := Lib.hid (show pE ≠ pV by have := KE.out.lt; omega)
  replace BW := Lib.hid (BW.out.trans ((ba).mono BW.out.size))
  replace KE := Lib.hid (KE.out.below (ba) KE.out.lt)
  clear ba hW kV hpV
  have v0 := KV.out.cell 0
  have v1 := KV.out.cell 1
  have v2 := KV.out.cell 2
  have v3 := KV.out.cell 3
  have v4 := KV.out.cell 4
  have v5 := KV.out.cell 5
  have v6 := KV.out.cell 6
  have v7 := KV.out.cell 7
  have v8 := KV.out.cell 8
  have v9 := KV.out.cell 9
  have v10 := KV.out.cell 10
  have v11 := KV.out.cell 11
  have v12 := KV.out.cell 12
  have v13 := KV.out.cell 13
  simp only [List.getElem?_cons_zero, List.getElem?_cons_succ] at v0 v1 v2 v3 v4 v5 v6 v7 v8 v9 v10 v11 v12 v13
  go_wp2_with fail
  refine (CO.out HC.out _ _ BW.out).mono ?_
  rintro e w4 ⟨rfl, b⟩
  clear v0 v1 v2 v3 v4 v5 v6 v7 v8 v9 v10 v11 v12 v13
  replace BW := Lib.hid (BW.out.trans ((b).mono BW.out.size))
  replace KE := Lib.hid (KE.out.below (b) KE.out.lt)
  replace KV := Lib.hid (KV.out.below (b) KV.out.lt)
  clear b
  go_wp2_with fail
  go_ret
  exact ⟨ret_int (by rw [HR.out, if_pos HC.out]), BW.out⟩
 ·have HC := Lib.hid hc
  replace BW := Lib.hid (BW.out.trans ((b2).mono BW.out.size))
  replace KE := Lib.hid (KE.out.below (b2) KE.out.lt)
  clear b2 hc RV CO
  have kV := Blk.new w2 #[.slice none 0 0, .map none, .int .i64 0, .int .i64 0, .int .i64 0, .int .i64 0, .int .i64 0, .int .i64 0, .int .i64 0, .int .i64 0, .int .i64 0, .int .i64 0, .int .i64 0, .int .i64 0] 60
  have ba := (Below.refl w2.heap.size w2).alloc (Nat.le_refl _) (.cells #[.slice none 0 0, .map none, .int .i64 0, .int .i64 0, .int .i64 0, .int .i64 0, .int .i64 0, .int .i64 0, .int .i64 0, .int .i64 0, .int .i64 0, .int .i64 0, .int .i64 0, .int .i64 0] 60)
  obtain ⟨pV, hpV⟩ : ∃ p, p = w2.heap.size := ⟨_, rfl⟩
  go_upto_region 2 with (fail)
  rw [← hpV] at kV
  try rw [← hpV]
  obtain ⟨w3, hW⟩ : ∃ W, W = w2.alloc (.cells #[.slice none 0 0, .map none, .int .i64 0, .int .i64 0, .int .i64 0, .int .i64 0, .int .i64 0, .int .i64 0, .int .i64 0, .int .i64 0, .int .i64 0, .int .i64 0, .int .i64 0, .int .i64 0] 60) := ⟨_, rfl⟩
  rw [← hW] at ba kV ⊢
  have KV := Lib.hid kV
  have GV := Lib.hid (show w2.heap.size ≤ pV by omega)
  have NEE_V := Lib.hid (show pE ≠ pV by have := KE.out.lt; omega)
  replace BW := Lib.hid (BW.out.trans ((ba).mono BW.out.size))
  replace KE := Lib.hid (KE.out.below (ba) KE.out.lt)
  clear ba hW kV hpV
  go_wp2_with fail
  go_ret
  exact ⟨ret_int (by rw [HR.out, if_neg (by rw [HC.out]; decide)]), BW.out⟩
end Go.Proofs.YtcjoecjijmkbaaaGreat
