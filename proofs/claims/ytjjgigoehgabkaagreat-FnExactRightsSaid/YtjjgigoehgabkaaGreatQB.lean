/- Eyes that come in: their size, their copies. -/
import Derived.Test.YtjjgigoehgabkaaGreatGF
import Derived.Deep.DeepCutAuto



namespace Go.Proofs.YtjjgigoehgabkaaGreat
open Go.RowKit
set_option linter.unusedVariables false
set_option linter.unusedSimpArgs false

set_option maxHeartbeats 800000 in
theorem szE_any (r n : Int) (a : Option Addr) (K c : Nat) (left : Int) (w : World) (h0 : 0 ≤ left) (h1 : left ≤ 1048576) (hn : K ≤ 9223372036854775807) :
    Calls Tryz.prog 8 #[.agg #[.int .i64 r, .int .i64 n, .slice a K c], .int .i64 left] w fun e w' => e = .returned (.int .i64 (if left - K < 0 then -1 else left - K)) ∧ Below w.heap.size w w' := by
  have B0 := Lib.hid ((Below.refl w.heap.size w).alloc (Nat.le_refl _) (.cells #[.int .i64 r, .int .i64 n, .slice a K c] 25))
  have s1 := fun W => szIntS_any a K c left W h0 h1 hn
  by_cases hd : left - K < 0
  · simp only [if_pos hd] at s1 ⊢
    go_enter Tryz.func8, Tryz.ntmps8
    go_wp2_with fail
    refine (s1 _).mono ?_
    rintro e w1 ⟨rfl, rfl⟩
    go_wp2
    go_ret
    exact ⟨rfl, B0.out⟩
  · simp only [if_neg hd] at s1 ⊢
    have kk : decide (left - (K : Int) < 0) = false := by simpa using hd
    go_enter Tryz.func8, Tryz.ntmps8
    go_wp2_with fail
    refine (s1 _).mono ?_
    rintro e w1 ⟨rfl, rfl⟩
    go_wp2
    go_ret
    exact ⟨rfl, B0.out⟩
set_option maxHeartbeats 1600000 in
theorem toE_any (r n : Int) (v : Value) (xs : List Int) (w : World) (h : Ints w v xs) (hl : xs.length ≤ 1048576) :
    Calls Tryz.prog 11 #[.agg #[.int .i64 r, .int .i64 n, v]] w (RetE r n w xs) := by
  obtain ⟨a, c, rfl⟩ := ints_len h
  have CS := Lib.hid (fun W (hW : Below w.heap.size w W) => toI_any _ xs W (h.below (B := 0) hW) hl)
  clear h
  obtain ⟨K, hK⟩ : ∃ K, K = xs.length := ⟨_, rfl⟩
  rw [← hK] at CS ⊢
  clear hK
  have BW := Lib.hid (Below.refl w.heap.size w)
  go_enter Tryz.func11, Tryz.ntmps11
  have kA := ((Blk.new w #[.int .i64 r, .int .i64 n, .slice a K c] 25).alloc (.cells #[.int .i64 0, .int .i64 0, .slice none 0 0] 31)).alloc (.cells #[.int .i64 0, .int .i64 0, .slice none 0 0] 31)
  have kR := (Blk.new (w.alloc (.cells #[.int .i64 r, .int .i64 n, .slice a K c] 25)) #[.int .i64 0, .int .i64 0, .slice none 0 0] 31).alloc (.cells #[.int .i64 0, .int .i64 0, .slice none 0 0] 31)
  simp only [World.size_alloc] at kR
  have kT := Blk.new ((w.alloc (.cells #[.int .i64 r, .int .i64 n, .slice a K c] 25)).alloc (.cells #[.int .i64 0, .int .i64 0, .slice none 0 0] 31)) #[.int .i64 0, .int .i64 0, .slice none 0 0] 31
  simp only [World.size_alloc] at kT
  have ba := (((Below.refl w.heap.size w).alloc (Nat.le_refl _) (.cells #[.int .i64 r, .int .i64 n, .slice a K c] 25)).alloc (by simp [World.size_alloc]; try omega) (.cells #[.int .i64 0, .int .i64 0, .slice none 0 0] 31)).alloc (by simp [World.size_alloc]; try omega) (.cells #[.int .i64 0, .int .i64 0, .slice none 0 0] 31)
  obtain ⟨pA, hpA⟩ : ∃ p, p = w.heap.size := ⟨_, rfl⟩
  obtain ⟨pR, hpR⟩ : ∃ p, p = w.heap.size + 1 := ⟨_, rfl⟩
  obtain ⟨pT, hpT⟩ : ∃ p, p = w.heap.size + 1 + 1 := ⟨_, rfl⟩
  go_upto_region 2 with (fail)
  rw [← hpT] at kT
  try rw [← hpT]
  rw [← hpR] at kR
  try rw [← hpR]
  rw [← hpA] at kA
  try rw [← hpA]
  obtain ⟨w1, hW⟩ : ∃ W, W = ((w.alloc (.cells #[.int .i64 r, .int .i64 n, .slice a K c] 25)).alloc (.cells #[.int .i64 0, .int .i64 0, .slice none 0 0] 31)).alloc (.cells #[.int .i64 0, .int .i64 0, .slice none 0 0] 31) := ⟨_, rfl⟩
  rw [← hW] at ba kA kR kT ⊢
  have KA := Lib.hid kA
  have GA := Lib.hid (show w.heap.size ≤ pA by omega)
  have KR := Lib.hid kR
  have GR := Lib.hid (show w.heap.size ≤ pR by omega)
  have KT := Lib.hid kT
  have GT := Lib.hid (show w.heap.size ≤ pT by omega)
  have NEA_R := Lib.hid (show pA ≠ pR by omega)
  have NEA_T := Lib.hid (show pA ≠ pT by omega)
  have NER_T := Lib.hid (show pR ≠ pT by omega)
  replace BW := Lib.hid (BW.out.trans ((ba).mono BW.out.size))
  clear ba hW kA hpA kR hpR kT hpT
  have a0 := KA.out.cell 0
  have a1 := KA.out.cell 1
  have a2 := KA.out.cell 2
  simp only [List.getElem?_cons_zero, List.getElem?_cons_succ] at a0 a1 a2
  have t0 := KT.out.cell 0
  have t1 := KT.out.cell 1
  have t2 := KT.out.cell 2
  simp only [List.getElem?_cons_zero, List.getElem?_cons_succ] at t0 t1 t2
  have fT := KT.out.free
  go_upto_region 4 with (fail)
  clear a0 a1 a2 t0 t1 t2
  obtain ⟨w2, hW⟩ : ∃ W, W = (w1.setCell ⟨pT, 0, none⟩ (.int .i64 r)).setCell ⟨pT, 1, none⟩ (.int .i64 n) := ⟨_, rfl⟩
  rw [← hW]
  have ks := ((KT.out.set (j := 0) (by simp) (.int .i64 r)).set (j := 1) (by simp) (.int .i64 n))
  simp only [List.set_cons_zero, List.set_cons_succ] at ks
  rw [← hW] at ks
  have bs' := ((BW.out.setCell (p := ⟨pT, 0, none⟩) GT.out (.int .i64 r)).setCell (p := ⟨pT, 1, none⟩) GT.out (.int .i64 n))
  rw [← hW] at bs'
  have ko := ((KA.out.other (p := ⟨pT, 0, none⟩) (by first | exact NET_A.out | exact (fun e => NEA_T.out e.symm)) (.int .i64 r)).other (p := ⟨pT, 1, none⟩) (by first | exact NET_A.out | exact (fun e => NEA_T.out e.symm)) (.int .i64 n))
  rw [← hW] at ko
  replace KA := Lib.hid ko
  clear ko
  have ko := ((KR.out.other (p := ⟨pT, 0, none⟩) (by first | exact NET_R.out | exact (fun e => NER_T.out e.symm)) (.int .i64 r)).other (p := ⟨pT, 1, none⟩) (by first | exact NET_R.out | exact (fun e => NER_T.out e.symm)) (.int .i64 n))
  rw [← hW] at ko
  replace KR := Lib.hid ko
  clear ko
  replace KT := Lib.hid ks
  replace BW := Lib.hid bs'
  clear ks bs' hW
  have a0 := KA.out.cell 0
  have a1 := KA.out.cell 1
  have a2 := KA.out.cell 2
  simp only [List.getElem?_cons_zero, List.getElem?_cons_succ] at a0 a1 a2
  go_wp2_with fail
  refine (CS.out _ BW.out).mono ?_
  rintro e w3 ⟨u, bs, rfl, o3, g3, b3⟩
  obtain ⟨ua, uc, hu⟩ := ints_len o3.ints
  subst hu
  clear a0 a1 a2
  have LT := Lib.hid KT.out.lt
  have LR := Lib.hid KR.out.lt
  have O3 := Lib.hid o3
  have G3 := Lib.hid g3
  have SZ := Lib.hid BW.out.size
  replace BW := Lib.hid (BW.out.trans ((b3).mono BW.out.size))
  replace KA := Lib.hid (KA.out.below (b3) KA.out.lt)
  replace KR := Lib.hid (KR.out.below (b3) KR.out.lt)
  replace KT := Lib.hid (KT.out.below (b3) KT.out.lt)
  clear b3 o3 g3
  have GT3 := Lib.hid (fun b hb => Nat.lt_of_lt_of_le LT.out (G3.out b hb))
  have GR3 := Lib.hid (fun b hb => Nat.lt_of_lt_of_le LR.out (G3.out b hb))
  generalize xs.length = K2 at *
  have t0 := KT.out.cell 0
  have t1 := KT.out.cell 1
  have t2 := KT.out.cell 2
  simp only [List.getElem?_cons_zero, List.getElem?_cons_succ] at t0 t1 t2
  have fT := KT.out.free
  have fR := KR.out.free
  have r0 := KR.out.cell 0
  have r1 := KR.out.cell 1
  have r2 := KR.out.cell 2
  simp only [List.getElem?_cons_zero, List.getElem?_cons_succ] at r0 r1 r2
  have hTR := NER_T.out
  have hRT : pT ≠ pR := fun e => hTR e.symm
  go_wp2
  refine bodyPost_ret (v := .agg #[.int .i64 r, .int .i64 n, .slice ua K2 uc]) (by simp [results, Tryz.results11, go_sem, r0, r1, r2, t0, t1, t2, hTR, hRT]) rfl ⟨_, bs, rfl, ?_, fun b hb => Nat.le_trans SZ.out (G3.out b hb), ?_⟩
  · exact (((O3.out.setCell GT3.out 2 _).setCell GR3.out 0 _).setCell GR3.out 1 _).setCell GR3.out 2 _
  · exact (((BW.out.setCell GT.out _).setCell GR.out _).setCell GR.out _).setCell GR.out _
end Go.Proofs.YtjjgigoehgabkaaGreat
