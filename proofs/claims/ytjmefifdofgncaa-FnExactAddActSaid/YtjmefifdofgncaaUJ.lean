/- The program's readMore and AddAct. -/
import Derived.Test.YtjmefifdofgncaaUI
namespace Go.Proofs.Ytjmefifdofgncaa
open Go.RowKit
set_option linter.unusedVariables false
set_option linter.unusedSimpArgs false

def MoreMade (w : World) (l : List ActM) (n : Int) (p : ActM) (e : Ending) (w' : World) : Prop := Below w.heap.size w w' ∧
  ((∃ NL v mb, addM l n p = some NL ∧ e = .returned (.tuple #[setVal v mb n NL, .bool true]) ∧ Row w' w.heap.size v NL ∧ w.heap.size ≤ mb ∧ w'.ownsMap Try.prog 111 (plainElem Try.prog 3) mb NL.length (atD NL 0 (.map []))) ∨
   (addM l n p = none ∧ e = .returned (.tuple #[noSet, .bool false])))

set_option maxRecDepth 100000 in
set_option maxHeartbeats 6400000 in
theorem readMore_any (v : Value) (ts : List ActT) (n : Int) (u : Value) (p : ActM) (w : World) (h : ActsT w v ts) (hn : I64 n) (hp : ActIs w u p) : Calls Try.prog 84 #[v, .int .i64 n, u] w (MoreMade w (ts.map ActT.a) n p) := by
  obtain ⟨a, cap, rfl⟩ := actsT_len h
  obtain ⟨L, hL⟩ : ∃ L, L = ts.length := ⟨_, rfl⟩
  have RS := Lib.hid (fun W (hW : Below w.heap.size w W) => readSet_any (.slice a ts.length cap) ts n W (h.below hW) hn)
  rw [← hL] at RS h ⊢
  have TK := Lib.hid (fun (m mb : Nat) W (hW : Below w.heap.size w W) (h60 : L ≤ 60) (h1 : 1 ≤ m) (h4 : m ≤ 4) (hok : ∀ t ∈ ts, actOkM t.a m = true) (ho : W.ownsMap Try.prog 111 (plainElem Try.prog 3) mb L (atD (ts.map ActT.a) 0 (.map []))) => takes_any a cap mb m ts L u p W (h.below hW) hL.symm h60 h1 h4 hok ho (hp.below hW))
  have WI := Lib.hid (fun (m mb : Nat) x0 x1 x2 x3 W (hW : Below w.heap.size w W) (h60 : L < 60) (h4 : m ≤ 4) (hok : ∀ t ∈ ts, actOkM t.a m = true) (hpo : actOkM p m = true) (hsl : SmallL (ts.map ActT.a)) => with_any a cap mb m ts L x0 x1 x2 x3 u p W (h.below hW) hL.symm h60 h4 hok (hp.below hW) hpo hsl)
  have HL := Lib.hid hL
  obtain ⟨da, dc, ua, uc, hu⟩ := act_shape hp
  obtain ⟨⟨r, nn, dep, actor, kind, dst, bucket, mask, gr, gn, ups⟩, hpp⟩ : ∃ x, p = x := ⟨_, rfl⟩
  simp only [hpp] at hu
  obtain ⟨dl, hdl⟩ : ∃ x, x = dep.length := ⟨_, rfl⟩
  obtain ⟨ul, hul⟩ : ∃ x, x = ups.length := ⟨_, rfl⟩
  rw [← hdl, ← hul] at hu
  subst hu
  clear hpp hdl hul h hp hL
  have kA : Blk ((w.alloc (.cells #[.int .i64 r, .int .i64 nn, .slice da dl dc, .int .i64 actor, .int .i64 kind, .int .i64 dst, .int .i64 bucket, .int .i64 mask, .int .i64 gr, .int .i64 gn, .slice ua ul uc] 42)).alloc (.cells #[.slice none 0 0, .map none, .int .i64 0, .int .i64 0, .int .i64 0, .int .i64 0, .int .i64 0] 93)) w.heap.size [.int .i64 r, .int .i64 nn, .slice da dl dc, .int .i64 actor, .int .i64 kind, .int .i64 dst, .int .i64 bucket, .int .i64 mask, .int .i64 gr, .int .i64 gn, .slice ua ul uc] := (Blk.new w _ _).alloc _
  have kR : Blk ((w.alloc (.cells #[.int .i64 r, .int .i64 nn, .slice da dl dc, .int .i64 actor, .int .i64 kind, .int .i64 dst, .int .i64 bucket, .int .i64 mask, .int .i64 gr, .int .i64 gn, .slice ua ul uc] 42)).alloc (.cells #[.slice none 0 0, .map none, .int .i64 0, .int .i64 0, .int .i64 0, .int .i64 0, .int .i64 0] 93)) (w.heap.size + 1) [.slice none 0 0, .map none, .int .i64 0, .int .i64 0, .int .i64 0, .int .i64 0, .int .i64 0] := by
    have := Blk.new (w.alloc (.cells #[.int .i64 r, .int .i64 nn, .slice da dl dc, .int .i64 actor, .int .i64 kind, .int .i64 dst, .int .i64 bucket, .int .i64 mask, .int .i64 gr, .int .i64 gn, .slice ua ul uc] 42)) #[.slice none 0 0, .map none, .int .i64 0, .int .i64 0, .int .i64 0, .int .i64 0, .int .i64 0] 93
    rw [World.size_alloc] at this
    exact this
  have b0 := ((Below.refl w.heap.size w).alloc (Nat.le_refl _) (.cells #[.int .i64 r, .int .i64 nn, .slice da dl dc, .int .i64 actor, .int .i64 kind, .int .i64 dst, .int .i64 bucket, .int .i64 mask, .int .i64 gr, .int .i64 gn, .slice ua ul uc] 42)).alloc (by simp) (.cells #[.slice none 0 0, .map none, .int .i64 0, .int .i64 0, .int .i64 0, .int .i64 0, .int .i64 0] 93)
  obtain ⟨RB, hRB⟩ : ∃ q, q = w.heap.size + 1 := ⟨_, rfl⟩
  obtain ⟨AB, hAB⟩ : ∃ q, q = w.heap.size := ⟨_, rfl⟩
  have hwR : w.heap.size ≤ RB := by omega
  go_enter Try.func84, Try.ntmps84
  go_upto_region 1 with (fail)
  rw [← hRB] at kR ⊢
  rw [← hAB] at kA ⊢
  generalize ((w.alloc (.cells #[.int .i64 r, .int .i64 nn, .slice da dl dc, .int .i64 actor, .int .i64 kind, .int .i64 dst, .int .i64 bucket, .int .i64 mask, .int .i64 gr, .int .i64 gn, .slice ua ul uc] 42)).alloc (.cells #[.slice none 0 0, .map none, .int .i64 0, .int .i64 0, .int .i64 0, .int .i64 0, .int .i64 0] 93)) = W0 at kA kR b0 ⊢
  clear hRB hAB
  go_wp2_with fail
  refine (RS.out W0 b0).mono ?_
  rintro e w1 ⟨b1, (⟨hs, mb, hmb, rfl, own1⟩ | ⟨hs, rfl⟩)⟩
  rotate_left
  · have HN := Lib.hid (show addM (ts.map ActT.a) n p = none from add_no (by rw [hs]; decide))
    have B1 := b0.trans (b1.mono b0.size)
    have kR1 := kR.below b1 kR.lt
    clear hs RS TK WI kA kR b0 b1
    simp only [noSet]
    go_upto_region 2 with (fail)
    have b2 := (Below.refl w1.heap.size w1).alloc (Nat.le_refl _) (.cells #[.slice none 0 0, .map none, .int .i64 0, .int .i64 0, .int .i64 0, .int .i64 0, .int .i64 0] 93)
    have kR2 := kR1.below b2 kR1.lt
    have B2 := B1.trans (b2.mono B1.size)
    generalize w1.alloc (.cells #[.slice none 0 0, .map none, .int .i64 0, .int .i64 0, .int .i64 0, .int .i64 0, .int .i64 0] 93) = w2 at kR2 B2 ⊢
    clear b2 kR1 B1
    have z0 := kR2.cell 0
    have z1 := kR2.cell 1
    have z2 := kR2.cell 2
    have z3 := kR2.cell 3
    have z4 := kR2.cell 4
    have z5 := kR2.cell 5
    have z6 := kR2.cell 6
    simp only [List.getElem?_cons_zero, List.getElem?_cons_succ] at z0 z1 z2 z3 z4 z5 z6
    have f0 := kR2.free
    go_wp2_with fail
    refine bodyPost_ret (v := .tuple #[noSet, .bool false]) (by simp [results, Try.results84, go_sem, noSet, z0, z1, z2, z3, z4, z5, z6]) rfl ⟨?_, .inr ⟨HN.out, rfl⟩⟩
    exact ((((((B2.setCell (by simpa using hwR) _).setCell (by simpa using hwR) _).setCell (by simpa using hwR) _).setCell (by simpa using hwR) _).setCell (by simpa using hwR) _).setCell (by simpa using hwR) _).setCell (by simpa using hwR) _
  · have B1 := b0.trans (b1.mono b0.size)
    have kR1 := kR.below b1 kR.lt
    have kA1 := kA.below b1 kA.lt
    obtain ⟨m, hm, hm1, hm4, hl60, ho, hc, hcl⟩ := setOk_parts hs
    have hokA := order_all _ none ho
    have hok : ∀ t ∈ ts, actOkM t.a m = true := fun t ht => hokA _ (List.mem_map_of_mem ht)
    have hLL : (ts.map ActT.a).length = L := by rw [List.length_map, HL.out]
    rw [hLL] at own1 hl60
    subst hm
    have HAD := Lib.hid (add_prog (a := p) hs)
    have HPW := Lib.hid (((order_iff _ none).1 ho).2.1)
    have hsm := setOk_small hs
    simp only [setVal]
    go_upto_region 2 with (fail)
    have kS := Blk.new w1 #[.slice a L cap, .map (some mb), .int .i64 m, .int .i64 (cntM (ts.map ActT.a) 0), .int .i64 (cntM (ts.map ActT.a) 1), .int .i64 (cntM (ts.map ActT.a) 2), .int .i64 (cntM (ts.map ActT.a) 3)] 93
    have own2 := own1.alloc (.cells #[.slice a L cap, .map (some mb), .int .i64 m, .int .i64 (cntM (ts.map ActT.a) 0), .int .i64 (cntM (ts.map ActT.a) 1), .int .i64 (cntM (ts.map ActT.a) 2), .int .i64 (cntM (ts.map ActT.a) 3)] 93)
    have b2 := (Below.refl w1.heap.size w1).alloc (Nat.le_refl _) (.cells #[.slice a L cap, .map (some mb), .int .i64 m, .int .i64 (cntM (ts.map ActT.a) 0), .int .i64 (cntM (ts.map ActT.a) 1), .int .i64 (cntM (ts.map ActT.a) 2), .int .i64 (cntM (ts.map ActT.a) 3)] 93)
    have kR2 := kR1.below b2 kR1.lt
    have kA2 := kA1.below b2 kA1.lt
    have B2 := B1.trans (b2.mono B1.size)
    obtain ⟨SB, hSB⟩ : ∃ q, q = w1.heap.size := ⟨_, rfl⟩
    rw [← hSB] at kS ⊢
    generalize w1.alloc (.cells #[.slice a L cap, .map (some mb), .int .i64 m, .int .i64 (cntM (ts.map ActT.a) 0), .int .i64 (cntM (ts.map ActT.a) 1), .int .i64 (cntM (ts.map ActT.a) 2), .int .i64 (cntM (ts.map ActT.a) 3)] 93) = w2 at kS own2 kR2 kA2 B2 ⊢
    have T2 := Lib.hid (TK.out m mb w2 B2 hl60 hm1 hm4 hok own2)
    have W2 := Lib.hid (fun W (hW : Below w.heap.size w W) (ht : takesM (ts.map ActT.a) m p = true) => WI.out m mb (cntM (ts.map ActT.a) 0) (cntM (ts.map ActT.a) 1) (cntM (ts.map ActT.a) 2) (cntM (ts.map ActT.a) 3) W hW (by simp only [takesM, Bool.and_eq_true, decide_eq_true_eq] at ht; omega) hm4 hok (by simp only [takesM, Bool.and_eq_true] at ht; exact ht.1.1.2) hsm)
    obtain ⟨T, hT⟩ : ∃ T, T = takesM (ts.map ActT.a) m p := ⟨_, rfl⟩
    rw [← hT] at T2
    have HTT := Lib.hid hT
    clear hs own1 b1 kR kA b0 kR1 kA1 B1 b2 hSB hok hokA ho hc hcl hsm RS TK WI hT own2 hmb
    generalize (cntM (ts.map ActT.a) 0 : Int) = x0 at *
    generalize (cntM (ts.map ActT.a) 1 : Int) = x1 at *
    generalize (cntM (ts.map ActT.a) 2 : Int) = x2 at *
    generalize (cntM (ts.map ActT.a) 3 : Int) = x3 at *
    have s0 := kS.cell 0
    have s1 := kS.cell 1
    have s2 := kS.cell 2
    have s3 := kS.cell 3
    have s4 := kS.cell 4
    have s5 := kS.cell 5
    have s6 := kS.cell 6
    simp only [List.getElem?_cons_zero, List.getElem?_cons_succ] at s0 s1 s2 s3 s4 s5 s6
    have c0 := kA2.cell 0
    have c1 := kA2.cell 1
    have c2 := kA2.cell 2
    have c3 := kA2.cell 3
    have c4 := kA2.cell 4
    have c5 := kA2.cell 5
    have c6 := kA2.cell 6
    have c7 := kA2.cell 7
    have c8 := kA2.cell 8
    have c9 := kA2.cell 9
    have c10 := kA2.cell 10
    simp only [List.getElem?_cons_zero, List.getElem?_cons_succ] at c0 c1 c2 c3 c4 c5 c6 c7 c8 c9 c10
    go_wp2_with fail
    refine T2.out.mono ?_
    rintro e w3 ⟨rfl, b3⟩
    have kS3 := Lib.hid (kS.below b3 kS.lt)
    have kA3 := Lib.hid (kA2.below b3 kA2.lt)
    have kR3 := Lib.hid (kR2.below b3 kR2.lt)
    have B3 := Lib.hid (B2.trans (b3.mono B2.size))
    clear s0 s1 s2 s3 s4 s5 s6 c0 c1 c2 c3 c4 c5 c6 c7 c8 c9 c10 kS kA2 kR2 B2 b3 T2
    cases T
    · have HN := Lib.hid (show addM (ts.map ActT.a) m p = none by rw [HAD.out, if_neg (by rw [← HTT.out]; decide)])
      have z0 := kR3.out.cell 0
      have z1 := kR3.out.cell 1
      have z2 := kR3.out.cell 2
      have z3 := kR3.out.cell 3
      have z4 := kR3.out.cell 4
      have z5 := kR3.out.cell 5
      have z6 := kR3.out.cell 6
      simp only [List.getElem?_cons_zero, List.getElem?_cons_succ] at z0 z1 z2 z3 z4 z5 z6
      have f0 := kR3.out.free
      go_wp2_with fail
      refine bodyPost_ret (v := .tuple #[noSet, .bool false]) (by simp [results, Try.results84, go_sem, noSet, z0, z1, z2, z3, z4, z5, z6]) rfl ⟨?_, .inr ⟨HN.out, rfl⟩⟩
      exact ((((((B3.out.setCell (by simpa using hwR) _).setCell (by simpa using hwR) _).setCell (by simpa using hwR) _).setCell (by simpa using hwR) _).setCell (by simpa using hwR) _).setCell (by simpa using hwR) _).setCell (by simpa using hwR) _
    · have HS := Lib.hid (show addM (ts.map ActT.a) m p = some (insM (ts.map ActT.a) p) by rw [HAD.out, if_pos HTT.out.symm, insM_put HPW.out])
      have s0 := kS3.out.cell 0
      have s1 := kS3.out.cell 1
      have s2 := kS3.out.cell 2
      have s3 := kS3.out.cell 3
      have s4 := kS3.out.cell 4
      have s5 := kS3.out.cell 5
      have s6 := kS3.out.cell 6
      simp only [List.getElem?_cons_zero, List.getElem?_cons_succ] at s0 s1 s2 s3 s4 s5 s6
      have c0 := kA3.out.cell 0
      have c1 := kA3.out.cell 1
      have c2 := kA3.out.cell 2
      have c3 := kA3.out.cell 3
      have c4 := kA3.out.cell 4
      have c5 := kA3.out.cell 5
      have c6 := kA3.out.cell 6
      have c7 := kA3.out.cell 7
      have c8 := kA3.out.cell 8
      have c9 := kA3.out.cell 9
      have c10 := kA3.out.cell 10
      simp only [List.getElem?_cons_zero, List.getElem?_cons_succ] at c0 c1 c2 c3 c4 c5 c6 c7 c8 c9 c10
      go_wp2_with fail
      refine (W2.out w3 B3.out HTT.out.symm).mono ?_
      rintro e w4 ⟨b4, v4, M, rfl, hr4, hM, own4⟩
      have kR4 := Lib.hid (kR3.out.below b4 kR3.out.lt)
      have B4 := Lib.hid (B3.out.trans (b4.mono B3.out.size))
      have hRlo : RB < w3.heap.size := kR3.out.lt
      have HR4 := Lib.hid hr4
      have OW4 := Lib.hid own4
      clear s0 s1 s2 s3 s4 s5 s6 c0 c1 c2 c3 c4 c5 c6 c7 c8 c9 c10 b4 kS3 kA3 W2
      obtain ⟨NL, hNL⟩ : ∃ NL, NL = insM (ts.map ActT.a) p := ⟨_, rfl⟩
      rw [← hNL] at HS HR4 OW4 ⊢
      obtain ⟨va4, vc4, hv4⟩ : ∃ x c, v4 = .slice x NL.length c := by
        obtain ⟨t2, cs, h1, h2, h3, h4, h5⟩ := HR4.out
        obtain ⟨x, c, hx⟩ := row_shape h2
        exact ⟨x, c, by rw [hx, ← h1, List.length_map]⟩
      subst hv4
      simp only [setVal]
      have HSV : Hid (setVal (.slice va4 NL.length vc4) M m NL = .agg #[.slice va4 NL.length vc4, .map (some M), .int .i64 m, .int .i64 (cntM NL 0), .int .i64 (cntM NL 1), .int .i64 (cntM NL 2), .int .i64 (cntM NL 3)]) := rfl
      have z0 := kR4.out.cell 0
      have z1 := kR4.out.cell 1
      have z2 := kR4.out.cell 2
      have z3 := kR4.out.cell 3
      have z4 := kR4.out.cell 4
      have z5 := kR4.out.cell 5
      have z6 := kR4.out.cell 6
      simp only [List.getElem?_cons_zero, List.getElem?_cons_succ] at z0 z1 z2 z3 z4 z5 z6
      have f0 := kR4.out.free
      clear hNL hr4 own4
      go_wp2_with fail
      have hMR : (some M : Option Nat) ≠ some RB := by simp; omega
      refine bodyPost_ret (v := .tuple #[setVal (.slice va4 NL.length vc4) M m NL, .bool true]) (by rw [HSV.out]; simp [results, Try.results84, go_sem, z0, z1, z2, z3, z4, z5, z6]) rfl ⟨?_, .inl ⟨NL, .slice va4 NL.length vc4, M, HS.out, rfl, ?_, by have := B3.out.size; omega, ?_⟩⟩
      · exact ((((((B4.out.setCell (by simpa using hwR) _).setCell (by simpa using hwR) _).setCell (by simpa using hwR) _).setCell (by simpa using hwR) _).setCell (by simpa using hwR) _).setCell (by simpa using hwR) _).setCell (by simpa using hwR) _
      · exact (setCell_row (setCell_row (setCell_row (setCell_row (setCell_row (setCell_row (setCell_row HR4.out hRlo 0 _) hRlo 1 _) hRlo 2 _) hRlo 3 _) hRlo 4 _) hRlo 5 _) hRlo 6 _).less B3.out.size
      · exact (((((((OW4.out.kept (grown_set RB 0 _) hMR).kept (grown_set RB 1 _) hMR).kept (grown_set RB 2 _) hMR).kept (grown_set RB 3 _) hMR).kept (grown_set RB 4 _) hMR).kept (grown_set RB 5 _) hMR).kept (grown_set RB 6 _) hMR)

def addL (l : List ActM) (n : Int) (p : ActM) : List ActM := (addM l n p).getD []
def addB (l : List ActM) (n : Int) (p : ActM) : Bool := (addM l n p).isSome
set_option maxRecDepth 100000 in
set_option maxHeartbeats 6400000 in
theorem implAddAct_any (v : Value) (l : List ActM) (n : Int) (u : Value) (p : ActM) (w : World) (h : Acts w v l) (hn : I64 n) (hp : ActIs w u p) : Calls Try.prog 31 #[v, .int .i64 n, u] w (RetLB w (addL l n p) (addB l n p)) := by
  obtain ⟨ts, rfl, ht⟩ := h
  obtain ⟨va0, vc0, hv0⟩ := actsT_len ht
  have RM := Lib.hid (fun W (hW : Below w.heap.size w W) => readMore_any v ts n u p W (ht.below hW) hn (hp.below hW))
  obtain ⟨da, dc, ua, uc, hu⟩ := act_shape hp
  rw [hu] at RM ⊢
  rw [hv0] at RM ⊢
  obtain ⟨⟨r, nn, dep, actor, kind, dst, bucket, mask, gr, gn, ups⟩, hpp⟩ : ∃ x, p = x := ⟨_, rfl⟩
  obtain ⟨L0, hL0⟩ : ∃ x, x = ts.length := ⟨_, rfl⟩
  rw [← hL0] at RM ⊢
  have HPP := Lib.hid hpp
  obtain ⟨AD, hAD⟩ : ∃ AD, AD = addM (ts.map ActT.a) n p := ⟨_, rfl⟩
  have hadL : addL (ts.map ActT.a) n p = AD.getD [] := by rw [hAD]; rfl
  have hadB : addB (ts.map ActT.a) n p = AD.isSome := by rw [hAD]; rfl
  rw [hadL, hadB]
  unfold MoreMade at RM
  simp only [← hAD] at RM
  clear hadL hadB hAD hpp hu hv0 ht hp hL0
  have kA := Blk.new w #[.int .i64 p.r, .int .i64 p.n, .slice da p.dep.length dc, .int .i64 p.actor, .int .i64 p.kind, .int .i64 p.to, .int .i64 p.bucket, .int .i64 p.mask, .int .i64 p.gr, .int .i64 p.gn, .slice ua p.ups.length uc] 42
  have b0 := (Below.refl w.heap.size w).alloc (Nat.le_refl _) (.cells #[.int .i64 p.r, .int .i64 p.n, .slice da p.dep.length dc, .int .i64 p.actor, .int .i64 p.kind, .int .i64 p.to, .int .i64 p.bucket, .int .i64 p.mask, .int .i64 p.gr, .int .i64 p.gn, .slice ua p.ups.length uc] 42)
  obtain ⟨AB, hAB⟩ : ∃ q, q = w.heap.size := ⟨_, rfl⟩
  go_enter Try.func31, Try.ntmps31
  go_upto_region 1 with (fail)
  rw [← hAB] at kA ⊢
  generalize w.alloc (.cells #[.int .i64 p.r, .int .i64 p.n, .slice da p.dep.length dc, .int .i64 p.actor, .int .i64 p.kind, .int .i64 p.to, .int .i64 p.bucket, .int .i64 p.mask, .int .i64 p.gr, .int .i64 p.gn, .slice ua p.ups.length uc] 42) = W0 at kA b0 ⊢
  clear hAB
  have c0 := kA.cell 0
  have c1 := kA.cell 1
  have c2 := kA.cell 2
  have c3 := kA.cell 3
  have c4 := kA.cell 4
  have c5 := kA.cell 5
  have c6 := kA.cell 6
  have c7 := kA.cell 7
  have c8 := kA.cell 8
  have c9 := kA.cell 9
  have c10 := kA.cell 10
  simp only [List.getElem?_cons_zero, List.getElem?_cons_succ] at c0 c1 c2 c3 c4 c5 c6 c7 c8 c9 c10
  clear kA
  go_wp2_with fail
  refine (RM.out W0 b0).mono ?_
  rintro e w1 ⟨b1, (⟨NL, v1, mb, hadd, rfl, hr1, hmb, own1⟩ | ⟨hadd, rfl⟩)⟩
  · subst hadd
    have B1 := Lib.hid (b0.trans (b1.mono b0.size))
    have HR1 := Lib.hid (hr1.less b0.size)
    obtain ⟨va4, vc4, hv4⟩ : ∃ x c, v1 = .slice x NL.length c := by
      obtain ⟨t2, cs, h1, h2, h3, h4, h5⟩ := hr1
      obtain ⟨x, c, hx⟩ := row_shape h2
      exact ⟨x, c, by rw [hx, ← h1, List.length_map]⟩
    subst hv4
    clear own1 hmb hr1 b1 RM c0 c1 c2 c3 c4 c5 c6 c7 c8 c9 c10 b0
    simp only [setVal]
    go_wp2_with fail
    go_ret2
    obtain ⟨bs, ho, hge⟩ := (HR1.out.below ((Below.refl w1.heap.size w1).alloc (Nat.le_refl _) (.cells #[.slice va4 NL.length vc4, .map (some mb), .int .i64 n, .int .i64 (cntM NL 0), .int .i64 (cntM NL 1), .int .i64 (cntM NL 2), .int .i64 (cntM NL 3)] 93))).own
    exact ⟨_, bs, rfl, ho, hge, B1.out.alloc B1.out.size _⟩
  · subst hadd
    have B1 := Lib.hid (b0.trans (b1.mono b0.size))
    clear b1 RM c0 c1 c2 c3 c4 c5 c6 c7 c8 c9 c10 b0
    simp only [noSet]
    go_wp2_with fail
    go_ret2
    exact ⟨_, [], rfl, .inl ⟨rfl, rfl, _, _, rfl⟩, (fun b hb => nomatch hb), B1.out.alloc B1.out.size _⟩
end Go.Proofs.Ytjmefifdofgncaa
