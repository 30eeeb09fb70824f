/- The program's readCut. -/
import Derived.Test.YtcjoecjijmkbaaaGreatHE
import Derived.Test.YtcjoecjijmkbaaaGreatML
import Derived.Test.YtcjoecjijmkbaaaGreatCI
import Derived.Test.YtcjoecjijmkbaaaGreatND
import Derived.Deep.DeepCutAuto

namespace Go.Proofs.YtcjoecjijmkbaaaGreat
open Go.RowKit
set_option linter.unusedVariables false
def CutRead (w : World) (v : Value) (l : List ActM) (n : Int) (xs : List Int) (e : Ending) (w' : World) : Prop := Below w.heap.size w w' ∧
 ((cutB l n xs = true ∧ ∃ mb, e = .returned (.tuple #[setVal v mb n l, .agg #[.int .i64 (cn xs), .int .i64 (cx xs 0), .int .i64 (cx xs 1), .int .i64 (cx xs 2), .int .i64 (cx xs 3)], .bool true])) ∨
   (cutB l n xs = false ∧ e = .returned (.tuple #[noSet, .agg #[.int .i64 0, .int .i64 0, .int .i64 0, .int .i64 0, .int .i64 0], .bool false])))
set_option maxRecDepth 100000 in
set_option maxHeartbeats 6400000 in
theorem readCut_any (v vv : Value) (ts : List ActT) (xs : List Int) (n : Int) (w : World) (h : ActsT w v ts) (hv : Ints w vv xs) (hn : I64 n) :
  Calls Tryz.prog 55 #[v, .int .i64 n, vv] w (CutRead w v (ts.map ActT.a) n xs) := by
 obtain ⟨a, cap, rfl⟩ := actsT_len h
 obtain ⟨va, vc, rfl⟩ := ints_len hv
 have RS := Lib.hid (fun W (h : ActsT W (.slice a ts.length cap) ts) => readSet_any _ ts n W h hn)
 have RC := Lib.hid (fun W (h : Ints W (.slice va xs.length vc) xs) => readClock_any _ xs W h)
 have hc : cutB (ts.map ActT.a) n xs = (setOkM (ts.map ActT.a) n && okB xs && decide ((xs.length : Int) = n)) := rfl
 have hy : okB xs = true → cn xs = xs.length := fun h => by rw [cn, if_pos h]
 unfold CutRead
 unfold SetRead at RS
 simp only [setVal, noSet] at RS ⊢
 have HA := Lib.hid h
 have HV := Lib.hid hv
 clear h hv
 generalize ts.length = K at *
 generalize (cntM (ts.map ActT.a) 0 : Int) = c0 at *
 generalize (cntM (ts.map ActT.a) 1 : Int) = c1 at *
 generalize (cntM (ts.map ActT.a) 2 : Int) = c2 at *
 generalize (cntM (ts.map ActT.a) 3 : Int) = c3 at *
 generalize cn xs = y at *
 generalize cx xs 0 = y0 at *
 generalize cx xs 1 = y1 at *
 generalize cx xs 2 = y2 at *
 generalize cx xs 3 = y3 at *
 generalize okB xs = O at *
 generalize cutB (ts.map ActT.a) n xs = CUT at *
 obtain ⟨L, hL⟩ : ∃ L, L = xs.length := ⟨_, rfl⟩
 rw [← hL] at RC HV hc hy ⊢
 clear hL
 have HC := Lib.hid hc
 have HY := Lib.hid hy
 clear hc hy
 have B0 := Lib.hid (((Below.refl w.heap.size w).alloc (Nat.le_refl _) (.cells #[.slice none 0 0, .map none, .int .i64 0, .int .i64 0, .int .i64 0, .int .i64 0, .int .i64 0] 58)).alloc (by simp) (.cells #[.int .i64 0, .int .i64 0, .int .i64 0, .int .i64 0, .int .i64 0] 56))
 have K6 := Lib.hid ((Blk.new w #[.slice none 0 0, .map none, .int .i64 0, .int .i64 0, .int .i64 0, .int .i64 0, .int .i64 0] 58).alloc (.cells #[.int .i64 0, .int .i64 0, .int .i64 0, .int .i64 0, .int .i64 0] 56))
 have k7 := Blk.new (w.alloc (.cells #[.slice none 0 0, .map none, .int .i64 0, .int .i64 0, .int .i64 0, .int .i64 0, .int .i64 0] 58)) #[.int .i64 0, .int .i64 0, .int .i64 0, .int .i64 0, .int .i64 0] 56
 rw [World.size_alloc] at k7
 have K7 := Lib.hid k7
 clear k7
 go_enter Tryz.func55, Tryz.ntmps55
 go_upto_region 1 with (fail)
 obtain ⟨W0, hW0⟩ : ∃ W, W = (w.alloc (.cells #[.slice none 0 0, .map none, .int .i64 0, .int .i64 0, .int .i64 0, .int .i64 0, .int .i64 0] 58)).alloc (.cells #[.int .i64 0, .int .i64 0, .int .i64 0, .int .i64 0, .int .i64 0] 56) := ⟨_, rfl⟩
 rw [← hW0] at B0 K6 K7 ⊢
 clear hW0
 go_wp2_with fail
 refine (RS.out _ (HA.out.below B0.out)).mono ?_
 rintro e w1 ⟨b1, (⟨hs2, mb, hmb, rfl, hm⟩ | ⟨hs2, rfl⟩)⟩
 ·clear hm
  have b9 := (Below.refl w1.heap.size w1).alloc (Nat.le_refl _) (.cells #[.slice a K cap, .map (some mb), .int .i64 n, .int .i64 c0, .int .i64 c1, .int .i64 c2, .int .i64 c3] 58)
  have k9 := Blk.new w1 #[.slice a K cap, .map (some mb), .int .i64 n, .int .i64 c0, .int .i64 c1, .int .i64 c2, .int .i64 c3] 58
  have E1 := Lib.hid (B0.out.trans ((b1.trans (b9.mono b1.size)).mono B0.out.size))
  have H1 := Lib.hid (HV.out.below (B := 0) E1.out)
  have M6 := Lib.hid ((K6.out.below b1 K6.out.lt).alloc (.cells #[.slice a K cap, .map (some mb), .int .i64 n, .int .i64 c0, .int .i64 c1, .int .i64 c2, .int .i64 c3] 58))
  have M7 := Lib.hid ((K7.out.below b1 K7.out.lt).alloc (.cells #[.slice a K cap, .map (some mb), .int .i64 n, .int .i64 c0, .int .i64 c1, .int .i64 c2, .int .i64 c3] 58))
  have K9 := Lib.hid k9
  have LS := Lib.hid (K7.out.below b1 K7.out.lt).lt
  clear b1 b9 k9
  go_wp2_with fail
  refine (RC.out _ H1.out).mono ?_
  rintro e w2 ⟨rfl, b2⟩
  have kb := (M6.out.below b2 M6.out.lt).alloc (.cells #[.int .i64 y, .int .i64 y0, .int .i64 y1, .int .i64 y2, .int .i64 y3] 56)
  have kc := (M7.out.below b2 M7.out.lt).alloc (.cells #[.int .i64 y, .int .i64 y0, .int .i64 y1, .int .i64 y2, .int .i64 y3] 56)
  have kd := (K9.out.below b2 K9.out.lt).alloc (.cells #[.int .i64 y, .int .i64 y0, .int .i64 y1, .int .i64 y2, .int .i64 y3] 56)
  have ke := Blk.new w2 #[.int .i64 y, .int .i64 y0, .int .i64 y1, .int .i64 y2, .int .i64 y3] 56
  have hSP : w1.heap.size < w2.heap.size := (K9.out.below b2 K9.out.lt).lt
  have hS1 : w.heap.size + 1 < w1.heap.size := LS.out
  have bz := (E1.out.trans (b2.mono E1.out.size))
  have E2 := Lib.hid (bz.alloc bz.size (.cells #[.int .i64 y, .int .i64 y0, .int .i64 y1, .int .i64 y2, .int .i64 y3] 56))
  clear bz b2
  go_upto_region 3 with (fail)
  obtain ⟨W3, hW3⟩ : ∃ W, W = w2.alloc (.cells #[.int .i64 y, .int .i64 y0, .int .i64 y1, .int .i64 y2, .int .i64 y3] 56) := ⟨_, rfl⟩
  rw [← hW3] at kb kc kd ke E2 ⊢
  obtain ⟨P, hP⟩ : ∃ P, P = w2.heap.size := ⟨_, rfl⟩
  obtain ⟨S, hS⟩ : ∃ S, S = w1.heap.size := ⟨_, rfl⟩
  rw [← hP] at ke hSP ⊢
  rw [← hS] at kd hSP hS1 ⊢
  have L6 := Lib.hid kb
  have L7 := Lib.hid kc
  have L9 := Lib.hid kd
  have L11 := Lib.hid ke
  clear kb kc kd ke hW3 M6 M7 K9 H1 E1 hP hS
  have r0 := L6.out.cell 0
  have r1 := L6.out.cell 1
  have r2 := L6.out.cell 2
  have r3 := L6.out.cell 3
  have r4 := L6.out.cell 4
  have r5 := L6.out.cell 5
  have r6 := L6.out.cell 6
  have u0 := L7.out.cell 0
  have u1 := L7.out.cell 1
  have u2 := L7.out.cell 2
  have u3 := L7.out.cell 3
  have u4 := L7.out.cell 4
  have s0 := L9.out.cell 0
  have s1 := L9.out.cell 1
  have s2 := L9.out.cell 2
  have s3 := L9.out.cell 3
  have s4 := L9.out.cell 4
  have s5 := L9.out.cell 5
  have s6 := L9.out.cell 6
  have q0 := L11.out.cell 0
  have q1 := L11.out.cell 1
  have q2 := L11.out.cell 2
  have q3 := L11.out.cell 3
  have q4 := L11.out.cell 4
  have fr := L6.out.free
  have fu := L7.out.free
  simp only [List.getElem?_cons_zero, List.getElem?_cons_succ] at r0 r1 r2 r3 r4 r5 r6 u0 u1 u2 u3 u4 s0 s1 s2 s3 s4 s5 s6 q0 q1 q2 q3 q4
  cases O
  ·have HNO := Lib.hid (show CUT = false by rw [HC.out]; simp)
   go_wp2
   refine bodyPost_ret (v := .tuple #[.agg #[.slice none 0 0, .map none, .int .i64 0, .int .i64 0, .int .i64 0, .int .i64 0, .int .i64 0], .agg #[.int .i64 0, .int .i64 0, .int .i64 0, .int .i64 0, .int .i64 0], .bool false]) (by simp [results, Tryz.results55, go_sem, r0, r1, r2, r3, r4, r5, r6, u0, u1, u2, u3, u4]) rfl ⟨?_, .inr ⟨HNO.out, rfl⟩⟩
   repeat (first | with_reducible refine Below.setCell ?_ ?_ _ | with_reducible refine Below.drew ?_)
   all_goals (first | exact E2.out | (simp; done) | (simp; omega))
  ·have hy1 := Lib.hid (HY.out rfl)
   by_cases hyn : y = n
   ·have HYES := Lib.hid (show CUT = true by rw [HC.out, hs2, ← hy1.out, hyn]; simp)
    have e1 : (y == n) = true := by simpa using hyn
    have e2 : (y != n) = false := by simpa using hyn
    clear hyn
    go_wp2
    go_region
    all_goals go_wp2
    all_goals refine bodyPost_ret (v := .tuple #[.agg #[.slice a K cap, .map (some mb), .int .i64 n, .int .i64 c0, .int .i64 c1, .int .i64 c2, .int .i64 c3], .agg #[.int .i64 y, .int .i64 y0, .int .i64 y1, .int .i64 y2, .int .i64 y3], .bool true]) (by simp [results, Tryz.results55, go_sem, r0, r1, r2, r3, r4, r5, r6, u0, u1, u2, u3, u4]) rfl ⟨?_, .inl ⟨HYES.out, mb, rfl⟩⟩
    all_goals (repeat (first | with_reducible refine Below.setCell ?_ ?_ _ | with_reducible refine Below.drew ?_))
    all_goals (first | exact E2.out | (simp; done) | (simp; omega))
   ·have HNO := Lib.hid (show CUT = false by rw [HC.out, ← hy1.out]; simp [hyn])
    have e1 : (y == n) = false := by simpa using hyn
    have e2 : (y != n) = true := by simpa using hyn
    go_wp2
    refine bodyPost_ret (v := .tuple #[.agg #[.slice none 0 0, .map none, .int .i64 0, .int .i64 0, .int .i64 0, .int .i64 0, .int .i64 0], .agg #[.int .i64 0, .int .i64 0, .int .i64 0, .int .i64 0, .int .i64 0], .bool false]) (by simp [results, Tryz.results55, go_sem, r0, r1, r2, r3, r4, r5, r6, u0, u1, u2, u3, u4]) rfl ⟨?_, .inr ⟨HNO.out, rfl⟩⟩
    repeat (first | with_reducible refine Below.setCell ?_ ?_ _ | with_reducible refine Below.drew ?_)
    all_goals (first | exact E2.out | (simp; done) | (simp; omega))
 ·skip
  have b9 := (Below.refl w1.heap.size w1).alloc (Nat.le_refl _) (.cells #[.slice none 0 0, .map none, .int .i64 0, .int .i64 0, .int .i64 0, .int .i64 0, .int .i64 0] 58)
  have k9 := Blk.new w1 #[.slice none 0 0, .map none, .int .i64 0, .int .i64 0, .int .i64 0, .int .i64 0, .int .i64 0] 58
  have E1 := Lib.hid (B0.out.trans ((b1.trans (b9.mono b1.size)).mono B0.out.size))
  have H1 := Lib.hid (HV.out.below (B := 0) E1.out)
  have M6 := Lib.hid ((K6.out.below b1 K6.out.lt).alloc (.cells #[.slice none 0 0, .map none, .int .i64 0, .int .i64 0, .int .i64 0, .int .i64 0, .int .i64 0] 58))
  have M7 := Lib.hid ((K7.out.below b1 K7.out.lt).alloc (.cells #[.slice none 0 0, .map none, .int .i64 0, .int .i64 0, .int .i64 0, .int .i64 0, .int .i64 0] 58))
  have K9 := Lib.hid k9
  have LS := Lib.hid (K7.out.below b1 K7.out.lt).lt
  clear b1 b9 k9
  go_wp2_with fail
  refine (RC.out _ H1.out).mono ?_
  rintro e w2 ⟨rfl, b2⟩
  have kb := (M6.out.below b2 M6.out.lt).alloc (.cells #[.int .i64 y, .int .i64 y0, .int .i64 y1, .int .i64 y2, .int .i64 y3] 56)
  have kc := (M7.out.below b2 M7.out.lt).alloc (.cells #[.int .i64 y, .int .i64 y0, .int .i64 y1, .int .i64 y2, .int .i64 y3] 56)
  have kd := (K9.out.below b2 K9.out.lt).alloc (.cells #[.int .i64 y, .int .i64 y0, .int .i64 y1, .int .i64 y2, .int .i64 y3] 56)
  have ke := Blk.new w2 #[.int .i64 y, .int .i64 y0, .int .i64 y1, .int .i64 y2, .int .i64 y3] 56
  have hSP : w1.heap.size < w2.heap.size := (K9.out.below b2 K9.out.lt).lt
  have hS1 : w.heap.size + 1 < w1.heap.size := LS.out
  have bz := (E1.out.trans (b2.mono E1.out.size))
  have E2 := Lib.hid (bz.alloc bz.size (.cells #[.int .i64 y, .int .i64 y0, .int .i64 y1, .int .i64 y2, .int .i64 y3] 56))
  clear bz b2
  go_upto_region 3 with (fail)
  obtain ⟨W3, hW3⟩ : ∃ W, W = w2.alloc (.cells #[.int .i64 y, .int .i64 y0, .int .i64 y1, .int .i64 y2, .int .i64 y3] 56) := ⟨_, rfl⟩
  rw [← hW3] at kb kc kd ke E2 ⊢
  obtain ⟨P, hP⟩ : ∃ P, P = w2.heap.size := ⟨_, rfl⟩
  obtain ⟨S, hS⟩ : ∃ S, S = w1.heap.size := ⟨_, rfl⟩
  rw [← hP] at ke hSP ⊢
  rw [← hS] at kd hSP hS1 ⊢
  have L6 := Lib.hid kb
  have L7 := Lib.hid kc
  have L9 := Lib.hid kd
  have L11 := Lib.hid ke
  clear kb kc kd ke hW3 M6 M7 K9 H1 E1 hP hS
  have r0 := L6.out.cell 0
  have r1 := L6.out.cell 1
  have r2 := L6.out.cell 2
  have r3 := L6.out.cell 3
  have r4 := L6.out.cell 4
  have r5 := L6.out.cell 5
  have r6 := L6.out.cell 6
  have u0 := L7.out.cell 0
  have u1 := L7.out.cell 1
  have u2 := L7.out.cell 2
  have u3 := L7.out.cell 3
  have u4 := L7.out.cell 4
  have s0 := L9.out.cell 0
  have s1 := L9.out.cell 1
  have s2 := L9.out.cell 2
  have s3 := L9.out.cell 3
  have s4 := L9.out.cell 4
  have s5 := L9.out.cell 5
  have s6 := L9.out.cell 6
  have q0 := L11.out.cell 0
  have q1 := L11.out.cell 1
  have q2 := L11.out.cell 2
  have q3 := L11.out.cell 3
  have q4 := L11.out.cell 4
  have fr := L6.out.free
  have fu := L7.out.free
  simp only [List.getElem?_cons_zero, List.getElem?_cons_succ] at r0 r1 r2 r3 r4 r5 r6 u0 u1 u2 u3 u4 s0 s1 s2 s3 s4 s5 s6 q0 q1 q2 q3 q4
  have HNO := Lib.hid (show CUT = false by rw [HC.out, hs2]; rfl)
  go_wp2
  refine bodyPost_ret (v := .tuple #[.agg #[.slice none 0 0, .map none, .int .i64 0, .int .i64 0, .int .i64 0, .int .i64 0, .int .i64 0], .agg #[.int .i64 0, .int .i64 0, .int .i64 0, .int .i64 0, .int .i64 0], .bool false]) (by simp [results, Tryz.results55, go_sem, r0, r1, r2, r3, r4, r5, r6, u0, u1, u2, u3, u4]) rfl ⟨?_, .inr ⟨HNO.out, rfl⟩⟩
  repeat (first | with_reducible refine Below.setCell ?_ ?_ _ | with_reducible refine Below.drew ?_)
  all_goals (first | exact E2.out | (simp; done) | (simp; omega))
end Go.Proofs.YtcjoecjijmkbaaaGreat
