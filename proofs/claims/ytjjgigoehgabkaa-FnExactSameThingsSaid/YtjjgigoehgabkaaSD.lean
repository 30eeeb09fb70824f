/- SameThings: the reference's, the program's. -/
import Derived.Test.YtjjgigoehgabkaaSC
import Derived.Test.YtjjgigoehgabkaaAK
import Derived.Test.YtjjgigoehgabkaaBF
import Derived.Deep.DeepCutAuto
namespace Go.Proofs.Ytjjgigoehgabkaa
open Go.RowKit
set_option linter.unusedVariables false
set_option linter.unusedSimpArgs false

def eqTB (x y : ThingM) : Bool := decide (x.bucket = y.bucket) && decide (x.key = y.key) && (x.has == y.has) && decide (x.reg = y.reg) && decide (x.count = y.count) && eqB x.items y.items
def eqTL : List ThingM → List ThingM → Bool
  | [], [] => true
  | x :: xs, y :: ys => eqTB x y && eqTL xs ys
  | _, _ => false
theorem eqTL_len : ∀ (xs ys : List ThingM), xs.length ≠ ys.length → eqTL xs ys = false
  | [], [], h => absurd rfl h
  | [], _ :: _, _ => rfl
  | _ :: _, [], _ => rfl
  | x :: xs, y :: ys, h => by
    rw [eqTL, eqTL_len xs ys (fun e => h (by simp [e]))]
    simp
theorem eqTL_step {ts us : List ThingT} {k : Nat} (h : k < ts.length) (h2 : k < us.length) : eqTL ((ts.map ThingT.a).drop k) ((us.map ThingT.a).drop k) = (eqTB (ts.getD k tt0).a (us.getD k tt0).a && eqTL ((ts.map ThingT.a).drop (k + 1)) ((us.map ThingT.a).drop (k + 1))) := by
  rw [← List.map_drop, ← List.map_drop, tdrop h, tdrop h2, List.map_cons, List.map_cons, eqTL, List.map_drop, List.map_drop]
theorem eqTL_end {ts us : List ThingT} {k : Nat} (h : ts.length ≤ k) (h2 : us.length ≤ k) : eqTL ((ts.map ThingT.a).drop k) ((us.map ThingT.a).drop k) = true := by
  rw [List.drop_eq_nil_of_le (by simpa using h), List.drop_eq_nil_of_le (by simpa using h2)]
  rfl
theorem eqB_same (xs : List Int) : eqB xs xs = true := by simp [eqB]
set_option maxRecDepth 100000 in
set_option maxHeartbeats 12800000 in
theorem specST_some (b off cap b' off' cap' len : Nat) (ts us : List ThingT) (w : World) (h1 : ts.length = len) (h2 : us.length = len) (hl : len ≤ 9223372036854775807) (hb : b < w.heap.size) (hb' : b' < w.heap.size) (hr : ∀ t ∈ ts, Ints w t.v t.a.items) (hr' : ∀ t ∈ us, Ints w t.v t.a.items)
    (hc : ∀ i, i < len → ThingAt w b (off + i * 6) (ts.getD i tt0)) (hc' : ∀ i, i < len → ThingAt w b' (off' + i * 6) (us.getD i tt0)) :
    Calls Try.prog 55 #[.slice (some ⟨b, off, none⟩) len cap, .slice (some ⟨b', off', none⟩) len cap'] w fun e w' => e = .returned (.bool (eqTL (ts.map ThingT.a) (us.map ThingT.a))) ∧ Below w.heap.size w w' := by
  obtain ⟨R, hR⟩ : ∃ R, R = eqTL (ts.map ThingT.a) (us.map ThingT.a) := ⟨_, rfl⟩
  rw [← hR]
  have HR : Hid (R = eqTL ((ts.map ThingT.a).drop 0) ((us.map ThingT.a).drop 0)) := hR
  have N1 := Lib.hid h1
  have N2 := Lib.hid h2
  have HC := Lib.hid hc
  have HC' := Lib.hid hc'
  have HRd := Lib.hid hr
  have HRd' := Lib.hid hr'
  have b00 := Lib.hid hb
  have b01 := Lib.hid hb'
  have BW := Lib.hid (Below.refl w.heap.size w)
  have q1 : ((len : Int) == (len : Int)) = true := by simp
  have q2 : ((len : Int) != (len : Int)) = false := by simp
  clear hR h1 h2 hc hc' hr hr' hb hb'
  go_enter Try.func55, Try.ntmps55
  go_wp2_with fail
  go_loopw [5] (fun i wr => ∃ k : Nat, k ≤ len ∧ i = .int .i64 k ∧ Hid (R = eqTL ((ts.map ThingT.a).drop k) ((us.map ThingT.a).drop k)) ∧ Hid (Below w.heap.size w wr)) (fun i _ => len - (intOf i).toNat)
  case atStart => exact ⟨0, Nat.zero_le _, rfl, HR.out, BW.out⟩
  case round =>
    obtain ⟨k, hk, rfl, hg, hbel⟩ := hrel
    clear BW HR
    have BW := hbel
    clear hbel
    by_cases hlt : k < len
    · skip
      have hlt2 : k < ts.length := by rw [N1.out]; exact hlt
      have hlt3 : k < us.length := by rw [N2.out]; exact hlt
      have hm := tgetD_mem hlt2
      have hm' := tgetD_mem hlt3
      have AT := Lib.hid ((HC.out k hlt).below BW.out b00.out)
      have AU := Lib.hid ((HC'.out k hlt).below BW.out b01.out)
      have HI := Lib.hid (HRd.out _ hm)
      have HJ := Lib.hid (HRd'.out _ hm')
      have hst := hg.out
      rw [eqTL_step hlt2 hlt3] at hst
      obtain ⟨t, htt⟩ : ∃ t, t = ts.getD k tt0 := ⟨_, rfl⟩
      obtain ⟨u, huu⟩ : ∃ u, u = us.getD k tt0 := ⟨_, rfl⟩
      rw [← htt] at AT HI hst
      rw [← huu] at AU HJ hst
      have HST := Lib.hid hst
      clear hst hg htt huu hm hm' 
      obtain ⟨⟨bu, ke, ha, re, co, items⟩, tv⟩ := t
      have hsi := ints_len HI.out
      simp only at hsi
      obtain ⟨ia, ic, rfl⟩ := hsi
      try simp only [ThingT.val] at ⊢
      obtain ⟨il, hil⟩ : ∃ x, x = items.length := ⟨_, rfl⟩
      try rw [← hil] at HI
      try rw [← hil] at AT
      try rw [← hil] at HST
      have HIL := Lib.hid hil
      clear hil
      obtain ⟨⟨pbu, pke, pha, pre, pco, pitems⟩, ptv⟩ := u
      have phsi := ints_len HJ.out
      simp only at phsi
      obtain ⟨pia, pic, rfl⟩ := phsi
      try simp only [ThingT.val] at ⊢
      obtain ⟨pil, phil⟩ : ∃ x, x = pitems.length := ⟨_, rfl⟩
      try rw [← phil] at HJ
      try rw [← phil] at AU
      try rw [← phil] at HST
      have pHIL := Lib.hid phil
      clear phil
      try simp only at HST
      have i0 : (0 : Int) ≤ (k : Int) := by omega
      have i1 : (k : Int) < (len : Int) := by omega
      have c0 := AT.out.c0
      have c1 := AT.out.c1
      have c2 := AT.out.c2
      have c3 := AT.out.c3
      have c4 := AT.out.c4
      have c5 := AT.out.c5
      simp only at c0 c1 c2 c3 c4 c5
      have B1R := Lib.hid (Nat.lt_of_lt_of_le b01.out BW.out.size)
      go_upto_region 7 with (fail)
      clear c0 c1 c2 c3 c4 c5
      clear AT
      have kX := Blk.new wr #[.int .i64 bu, .int .i64 ke, .bool ha, .int .i64 re, .int .i64 co, .slice ia il ic] 130
      have ba := (Below.refl wr.heap.size wr).alloc (Nat.le_refl _) (.cells #[.int .i64 bu, .int .i64 ke, .bool ha, .int .i64 re, .int .i64 co, .slice ia il ic] 130)
      obtain ⟨pX, hpX⟩ : ∃ p, p = wr.heap.size := ⟨_, rfl⟩
      rw [← hpX] at kX
      try rw [← hpX]
      obtain ⟨w1, hW⟩ : ∃ W, W = wr.alloc (.cells #[.int .i64 bu, .int .i64 ke, .bool ha, .int .i64 re, .int .i64 co, .slice ia il ic] 130) := ⟨_, rfl⟩
      rw [← hW] at ba kX ⊢
      have KX := Lib.hid kX
      have GX := Lib.hid (show wr.heap.size ≤ pX by omega)
      replace BW := Lib.hid (BW.out.trans ((ba).mono BW.out.size))
      replace AU := Lib.hid (AU.out.below (ba) B1R.out)
      clear ba hW kX hpX
      have d0 := AU.out.c0
      have d1 := AU.out.c1
      have d2 := AU.out.c2
      have d3 := AU.out.c3
      have d4 := AU.out.c4
      have d5 := AU.out.c5
      simp only at d0 d1 d2 d3 d4 d5
      go_upto_region 8 with (fail)
      clear d0 d1 d2 d3 d4 d5
      clear AU i0 i1
      have kY := Blk.new w1 #[.int .i64 pbu, .int .i64 pke, .bool pha, .int .i64 pre, .int .i64 pco, .slice pia pil pic] 130
      have ba := (Below.refl w1.heap.size w1).alloc (Nat.le_refl _) (.cells #[.int .i64 pbu, .int .i64 pke, .bool pha, .int .i64 pre, .int .i64 pco, .slice pia pil pic] 130)
      obtain ⟨pY, hpY⟩ : ∃ p, p = w1.heap.size := ⟨_, rfl⟩
      rw [← hpY] at kY
      try rw [← hpY]
      obtain ⟨w2, hW⟩ : ∃ W, W = w1.alloc (.cells #[.int .i64 pbu, .int .i64 pke, .bool pha, .int .i64 pre, .int .i64 pco, .slice pia pil pic] 130) := ⟨_, rfl⟩
      rw [← hW] at ba kY ⊢
      have KY := Lib.hid kY
      have GY := Lib.hid (show w1.heap.size ≤ pY by omega)
      have NEX_Y := Lib.hid (show pX ≠ pY by have := KX.out.lt; omega)
      replace BW := Lib.hid (BW.out.trans ((ba).mono BW.out.size))
      replace KX := Lib.hid (KX.out.below (ba) KX.out.lt)
      clear ba hW kY hpY
      by_cases g0 : bu = pbu
      rotate_left
      · have e0 : (bu == pbu) = false := by simp [g0]
        have n0 : (bu != pbu) = true := by simp [g0]
        have HRF := Lib.hid (show R = false by rw [HST.out]; simp [eqTB, g0])
        clear g0
        have kx0 := KX.out.cell 0
        have kx1 := KX.out.cell 1
        have kx2 := KX.out.cell 2
        have kx3 := KX.out.cell 3
        have kx4 := KX.out.cell 4
        have kx5 := KX.out.cell 5
        simp only [List.getElem?_cons_zero, List.getElem?_cons_succ] at kx0 kx1 kx2 kx3 kx4 kx5
        have ky0 := KY.out.cell 0
        have ky1 := KY.out.cell 1
        have ky2 := KY.out.cell 2
        have ky3 := KY.out.cell 3
        have ky4 := KY.out.cell 4
        have ky5 := KY.out.cell 5
        simp only [List.getElem?_cons_zero, List.getElem?_cons_succ] at ky0 ky1 ky2 ky3 ky4 ky5
        go_wp2_with fail
        go_ret
        exact ⟨ret_bool HRF.out.symm, BW.out⟩
      have e0 : (bu == pbu) = true := by simp [g0]
      have n0 : (bu != pbu) = false := by simp [g0]
      have Q0 := Lib.hid g0
      clear g0
      by_cases g1 : ke = pke
      rotate_left
      · have e1 : (ke == pke) = false := by simp [g1]
        have n1 : (ke != pke) = true := by simp [g1]
        have HRF := Lib.hid (show R = false by rw [HST.out]; simp [eqTB, g1])
        clear g1
        have kx0 := KX.out.cell 0
        have kx1 := KX.out.cell 1
        have kx2 := KX.out.cell 2
        have kx3 := KX.out.cell 3
        have kx4 := KX.out.cell 4
        have kx5 := KX.out.cell 5
        simp only [List.getElem?_cons_zero, List.getElem?_cons_succ] at kx0 kx1 kx2 kx3 kx4 kx5
        have ky0 := KY.out.cell 0
        have ky1 := KY.out.cell 1
        have ky2 := KY.out.cell 2
        have ky3 := KY.out.cell 3
        have ky4 := KY.out.cell 4
        have ky5 := KY.out.cell 5
        simp only [List.getElem?_cons_zero, List.getElem?_cons_succ] at ky0 ky1 ky2 ky3 ky4 ky5
        go_wp2_with fail
        go_ret
        exact ⟨ret_bool HRF.out.symm, BW.out⟩
      have e1 : (ke == pke) = true := by simp [g1]
      have n1 : (ke != pke) = false := by simp [g1]
      have Q1 := Lib.hid g1
      clear g1
      by_cases g2 : ha = pha
      rotate_left
      · have e2 : (ha == pha) = false := by simp [g2]
        have n2 : (ha != pha) = true := by simp [g2]
        have HRF := Lib.hid (show R = false by rw [HST.out]; simp [eqTB, g2])
        clear g2
        have kx0 := KX.out.cell 0
        have kx1 := KX.out.cell 1
        have kx2 := KX.out.cell 2
        have kx3 := KX.out.cell 3
        have kx4 := KX.out.cell 4
        have kx5 := KX.out.cell 5
        simp only [List.getElem?_cons_zero, List.getElem?_cons_succ] at kx0 kx1 kx2 kx3 kx4 kx5
        have ky0 := KY.out.cell 0
        have ky1 := KY.out.cell 1
        have ky2 := KY.out.cell 2
        have ky3 := KY.out.cell 3
        have ky4 := KY.out.cell 4
        have ky5 := KY.out.cell 5
        simp only [List.getElem?_cons_zero, List.getElem?_cons_succ] at ky0 ky1 ky2 ky3 ky4 ky5
        go_wp2_with fail
        go_ret
        exact ⟨ret_bool HRF.out.symm, BW.out⟩
      have e2 : (ha == pha) = true := by simp [g2]
      have n2 : (ha != pha) = false := by simp [g2]
      have Q2 := Lib.hid g2
      clear g2
      by_cases g3 : re = pre
      rotate_left
      · have e3 : (re == pre) = false := by simp [g3]
        have n3 : (re != pre) = true := by simp [g3]
        have HRF := Lib.hid (show R = false by rw [HST.out]; simp [eqTB, g3])
        clear g3
        have kx0 := KX.out.cell 0
        have kx1 := KX.out.cell 1
        have kx2 := KX.out.cell 2
        have kx3 := KX.out.cell 3
        have kx4 := KX.out.cell 4
        have kx5 := KX.out.cell 5
        simp only [List.getElem?_cons_zero, List.getElem?_cons_succ] at kx0 kx1 kx2 kx3 kx4 kx5
        have ky0 := KY.out.cell 0
        have ky1 := KY.out.cell 1
        have ky2 := KY.out.cell 2
        have ky3 := KY.out.cell 3
        have ky4 := KY.out.cell 4
        have ky5 := KY.out.cell 5
        simp only [List.getElem?_cons_zero, List.getElem?_cons_succ] at ky0 ky1 ky2 ky3 ky4 ky5
        go_wp2_with fail
        go_ret
        exact ⟨ret_bool HRF.out.symm, BW.out⟩
      have e3 : (re == pre) = true := by simp [g3]
      have n3 : (re != pre) = false := by simp [g3]
      have Q3 := Lib.hid g3
      clear g3
      by_cases g4 : co = pco
      rotate_left
      · have e4 : (co == pco) = false := by simp [g4]
        have n4 : (co != pco) = true := by simp [g4]
        have HRF := Lib.hid (show R = false by rw [HST.out]; simp [eqTB, g4])
        clear g4
        have kx0 := KX.out.cell 0
        have kx1 := KX.out.cell 1
        have kx2 := KX.out.cell 2
        have kx3 := KX.out.cell 3
        have kx4 := KX.out.cell 4
        have kx5 := KX.out.cell 5
        simp only [List.getElem?_cons_zero, List.getElem?_cons_succ] at kx0 kx1 kx2 kx3 kx4 kx5
        have ky0 := KY.out.cell 0
        have ky1 := KY.out.cell 1
        have ky2 := KY.out.cell 2
        have ky3 := KY.out.cell 3
        have ky4 := KY.out.cell 4
        have ky5 := KY.out.cell 5
        simp only [List.getElem?_cons_zero, List.getElem?_cons_succ] at ky0 ky1 ky2 ky3 ky4 ky5
        go_wp2_with fail
        go_ret
        exact ⟨ret_bool HRF.out.symm, BW.out⟩
      have e4 : (co == pco) = true := by simp [g4]
      have n4 : (co != pco) = false := by simp [g4]
      have Q4 := Lib.hid g4
      clear g4
      obtain ⟨X, hX⟩ : ∃ X, X = eqB items pitems := ⟨_, rfl⟩
      have HEQ : Hid (eqTB ⟨bu, ke, ha, re, co, items⟩ ⟨pbu, pke, pha, pre, pco, pitems⟩ = X) := by show _ = _; rw [hX]; simp [eqTB, Q0.out, Q1.out, Q2.out, Q3.out, Q4.out]
      have LS := Lib.hid (fun W (h : Ints W (.slice ia il ic) items) (h' : Ints W (.slice pia pil pic) pitems) => l2same_any _ _ items pitems W h h')
      rw [← hX] at LS
      clear hX
      have kx0 := KX.out.cell 0
      have kx1 := KX.out.cell 1
      have kx2 := KX.out.cell 2
      have kx3 := KX.out.cell 3
      have kx4 := KX.out.cell 4
      have kx5 := KX.out.cell 5
      simp only [List.getElem?_cons_zero, List.getElem?_cons_succ] at kx0 kx1 kx2 kx3 kx4 kx5
      have ky0 := KY.out.cell 0
      have ky1 := KY.out.cell 1
      have ky2 := KY.out.cell 2
      have ky3 := KY.out.cell 3
      have ky4 := KY.out.cell 4
      have ky5 := KY.out.cell 5
      simp only [List.getElem?_cons_zero, List.getElem?_cons_succ] at ky0 ky1 ky2 ky3 ky4 ky5
      go_wp2_with fail
      refine (LS.out _ (HI.out.below (B := 0) BW.out) (HJ.out.below (B := 0) BW.out)).mono ?_
      rintro e w3 ⟨rfl, q3, hq3⟩
      have b3 := below_drewN (Below.refl w2.heap.size w2) q3
      rw [← hq3] at b3
      clear hq3
      clear kx0 kx1 kx2 kx3 kx4 kx5 ky0 ky1 ky2 ky3 ky4 ky5
      replace BW := Lib.hid (BW.out.trans ((b3).mono BW.out.size))
      replace KX := Lib.hid (KX.out.below (b3) KX.out.lt)
      replace KY := Lib.hid (KY.out.below (b3) KY.out.lt)
      clear b3
      cases X
      · have HRF := Lib.hid (show R = false by rw [HST.out, HEQ.out]; simp)
        go_wp2_with fail
        go_ret
        exact ⟨ret_bool HRF.out.symm, BW.out⟩
      have HSS := Lib.hid (show R = eqTL ((ts.map ThingT.a).drop (k + 1)) ((us.map ThingT.a).drop (k + 1)) by rw [HST.out, HEQ.out]; simp)
      go_wp2_with fail
      go_roundw
      case rel => exact ⟨k + 1, by omega, by go_num, HSS.out, BW.out⟩
      case measure => simp [intOf]; omega
    · have HE := Lib.hid (show R = true by rw [hg.out, eqTL_end (by rw [N1.out]; omega) (by rw [N2.out]; omega)])
      go_wp2_with fail
      go_ret
      exact ⟨ret_bool HE.out.symm, BW.out⟩
set_option maxRecDepth 100000 in
set_option maxHeartbeats 6400000 in
theorem sameT_any (bu ke re co pbu pke pre pco : Int) (ha pha : Bool) (ia pia : Option Addr) (il ic pil pic : Nat) (items pitems : List Int) (w : World) (hi : Ints w (.slice ia il ic) items) (hj : Ints w (.slice pia pil pic) pitems) :
    Calls Try.prog 116 #[.agg #[.int .i64 bu, .int .i64 ke, .bool ha, .int .i64 re, .int .i64 co, .slice ia il ic], .agg #[.int .i64 pbu, .int .i64 pke, .bool pha, .int .i64 pre, .int .i64 pco, .slice pia pil pic]] w fun e w' => e = .returned (.bool (eqTB ⟨bu, ke, ha, re, co, items⟩ ⟨pbu, pke, pha, pre, pco, pitems⟩)) ∧ Below w.heap.size w w' := by
  obtain ⟨R, hR⟩ : ∃ R, R = eqTB ⟨bu, ke, ha, re, co, items⟩ ⟨pbu, pke, pha, pre, pco, pitems⟩ := ⟨_, rfl⟩
  rw [← hR]
  have HST := Lib.hid hR
  have HI := Lib.hid hi
  have HJ := Lib.hid hj
  clear hR hi hj
  by_cases g0 : bu = pbu
  rotate_left
  · have e0 : (bu == pbu) = false := by simp [g0]
    have HRF := Lib.hid (show R = false by rw [HST.out]; simp [eqTB, g0])
    clear g0
    have BW := Lib.hid (Below.refl w.heap.size w)
    go_enter Try.func116, Try.ntmps116
    have kX := (Blk.new w #[.int .i64 bu, .int .i64 ke, .bool ha, .int .i64 re, .int .i64 co, .slice ia il ic] 130).alloc (.cells #[.int .i64 pbu, .int .i64 pke, .bool pha, .int .i64 pre, .int .i64 pco, .slice pia pil pic] 130)
    have kY := Blk.new (w.alloc (.cells #[.int .i64 bu, .int .i64 ke, .bool ha, .int .i64 re, .int .i64 co, .slice ia il ic] 130)) #[.int .i64 pbu, .int .i64 pke, .bool pha, .int .i64 pre, .int .i64 pco, .slice pia pil pic] 130
    simp only [World.size_alloc] at kY
    have ba := ((Below.refl w.heap.size w).alloc (Nat.le_refl _) (.cells #[.int .i64 bu, .int .i64 ke, .bool ha, .int .i64 re, .int .i64 co, .slice ia il ic] 130)).alloc (by simp [World.size_alloc]; try omega) (.cells #[.int .i64 pbu, .int .i64 pke, .bool pha, .int .i64 pre, .int .i64 pco, .slice pia pil pic] 130)
    obtain ⟨pX, hpX⟩ : ∃ p, p = w.heap.size := ⟨_, rfl⟩
    obtain ⟨pY, hpY⟩ : ∃ p, p = w.heap.size + 1 := ⟨_, rfl⟩
    go_upto_region 1 with (fail)
    rw [← hpY] at kY
    try rw [← hpY]
    rw [← hpX] at kX
    try rw [← hpX]
    obtain ⟨w1, hW⟩ : ∃ W, W = (w.alloc (.cells #[.int .i64 bu, .int .i64 ke, .bool ha, .int .i64 re, .int .i64 co, .slice ia il ic] 130)).alloc (.cells #[.int .i64 pbu, .int .i64 pke, .bool pha, .int .i64 pre, .int .i64 pco, .slice pia pil pic] 130) := ⟨_, rfl⟩
    rw [← hW] at ba kX kY ⊢
    have KX := Lib.hid kX
    have GX := Lib.hid (show w.heap.size ≤ pX by omega)
    have KY := Lib.hid kY
    have GY := Lib.hid (show w.heap.size ≤ pY by omega)
    have NEX_Y := Lib.hid (show pX ≠ pY by omega)
    replace BW := Lib.hid (BW.out.trans ((ba).mono BW.out.size))
    clear ba hW kX hpX kY hpY
    have kx0 := KX.out.cell 0
    have kx1 := KX.out.cell 1
    have kx2 := KX.out.cell 2
    have kx3 := KX.out.cell 3
    have kx4 := KX.out.cell 4
    have kx5 := KX.out.cell 5
    simp only [List.getElem?_cons_zero, List.getElem?_cons_succ] at kx0 kx1 kx2 kx3 kx4 kx5
    have ky0 := KY.out.cell 0
    have ky1 := KY.out.cell 1
    have ky2 := KY.out.cell 2
    have ky3 := KY.out.cell 3
    have ky4 := KY.out.cell 4
    have ky5 := KY.out.cell 5
    simp only [List.getElem?_cons_zero, List.getElem?_cons_succ] at ky0 ky1 ky2 ky3 ky4 ky5
    go_wp2_with fail
    go_ret
    exact ⟨ret_bool HRF.out.symm, BW.out⟩
  have e0 : (bu == pbu) = true := by simp [g0]
  have Q0 := Lib.hid g0
  clear g0
  by_cases g1 : ke = pke
  rotate_left
  · have e1 : (ke == pke) = false := by simp [g1]
    have HRF := Lib.hid (show R = false by rw [HST.out]; simp [eqTB, g1])
    clear g1
    have BW := Lib.hid (Below.refl w.heap.size w)
    go_enter Try.func116, Try.ntmps116
    have kX := (Blk.new w #[.int .i64 bu, .int .i64 ke, .bool ha, .int .i64 re, .int .i64 co, .slice ia il ic] 130).alloc (.cells #[.int .i64 pbu, .int .i64 pke, .bool pha, .int .i64 pre, .int .i64 pco, .slice pia pil pic] 130)
    have kY := Blk.new (w.alloc (.cells #[.int .i64 bu, .int .i64 ke, .bool ha, .int .i64 re, .int .i64 co, .slice ia il ic] 130)) #[.int .i64 pbu, .int .i64 pke, .bool pha, .int .i64 pre, .int .i64 pco, .slice pia pil pic] 130
    simp only [World.size_alloc] at kY
    have ba := ((Below.refl w.heap.size w).alloc (Nat.le_refl _) (.cells #[.int .i64 bu, .int .i64 ke, .bool ha, .int .i64 re, .int .i64 co, .slice ia il ic] 130)).alloc (by simp [World.size_alloc]; try omega) (.cells #[.int .i64 pbu, .int .i64 pke, .bool pha, .int .i64 pre, .int .i64 pco, .slice pia pil pic] 130)
    obtain ⟨pX, hpX⟩ : ∃ p, p = w.heap.size := ⟨_, rfl⟩
    obtain ⟨pY, hpY⟩ : ∃ p, p = w.heap.size + 1 := ⟨_, rfl⟩
    go_upto_region 1 with (fail)
    rw [← hpY] at kY
    try rw [← hpY]
    rw [← hpX] at kX
    try rw [← hpX]
    obtain ⟨w1, hW⟩ : ∃ W, W = (w.alloc (.cells #[.int .i64 bu, .int .i64 ke, .bool ha, .int .i64 re, .int .i64 co, .slice ia il ic] 130)).alloc (.cells #[.int .i64 pbu, .int .i64 pke, .bool pha, .int .i64 pre, .int .i64 pco, .slice pia pil pic] 130) := ⟨_, rfl⟩
    rw [← hW] at ba kX kY ⊢
    have KX := Lib.hid kX
    have GX := Lib.hid (show w.heap.size ≤ pX by omega)
    have KY := Lib.hid kY
    have GY := Lib.hid (show w.heap.size ≤ pY by omega)
    have NEX_Y := Lib.hid (show pX ≠ pY by omega)
    replace BW := Lib.hid (BW.out.trans ((ba).mono BW.out.size))
    clear ba hW kX hpX kY hpY
    have kx0 := KX.out.cell 0
    have kx1 := KX.out.cell 1
    have kx2 := KX.out.cell 2
    have kx3 := KX.out.cell 3
    have kx4 := KX.out.cell 4
    have kx5 := KX.out.cell 5
    simp only [List.getElem?_cons_zero, List.getElem?_cons_succ] at kx0 kx1 kx2 kx3 kx4 kx5
    have ky0 := KY.out.cell 0
    have ky1 := KY.out.cell 1
    have ky2 := KY.out.cell 2
    have ky3 := KY.out.cell 3
    have ky4 := KY.out.cell 4
    have ky5 := KY.out.cell 5
    simp only [List.getElem?_cons_zero, List.getElem?_cons_succ] at ky0 ky1 ky2 ky3 ky4 ky5
    go_wp2_with fail
    go_ret
    exact ⟨ret_bool HRF.out.symm, BW.out⟩
  have e1 : (ke == pke) = true := by simp [g1]
  have Q1 := Lib.hid g1
  clear g1
  by_cases g2 : ha = pha
  rotate_left
  · have e2 : (ha == pha) = false := by simp [g2]
    have HRF := Lib.hid (show R = false by rw [HST.out]; simp [eqTB, g2])
    clear g2
    have BW := Lib.hid (Below.refl w.heap.size w)
    go_enter Try.func116, Try.ntmps116
    have kX := (Blk.new w #[.int .i64 bu, .int .i64 ke, .bool ha, .int .i64 re, .int .i64 co, .slice ia il ic] 130).alloc (.cells #[.int .i64 pbu, .int .i64 pke, .bool pha, .int .i64 pre, .int .i64 pco, .slice pia pil pic] 130)
    have kY := Blk.new (w.alloc (.cells #[.int .i64 bu, .int .i64 ke, .bool ha, .int .i64 re, .int .i64 co, .slice ia il ic] 130)) #[.int .i64 pbu, .int .i64 pke, .bool pha, .int .i64 pre, .int .i64 pco, .slice pia pil pic] 130
    simp only [World.size_alloc] at kY
    have ba := ((Below.refl w.heap.size w).alloc (Nat.le_refl _) (.cells #[.int .i64 bu, .int .i64 ke, .bool ha, .int .i64 re, .int .i64 co, .slice ia il ic] 130)).alloc (by simp [World.size_alloc]; try omega) (.cells #[.int .i64 pbu, .int .i64 pke, .bool pha, .int .i64 pre, .int .i64 pco, .slice pia pil pic] 130)
    obtain ⟨pX, hpX⟩ : ∃ p, p = w.heap.size := ⟨_, rfl⟩
    obtain ⟨pY, hpY⟩ : ∃ p, p = w.heap.size + 1 := ⟨_, rfl⟩
    go_upto_region 1 with (fail)
    rw [← hpY] at kY
    try rw [← hpY]
    rw [← hpX] at kX
    try rw [← hpX]
    obtain ⟨w1, hW⟩ : ∃ W, W = (w.alloc (.cells #[.int .i64 bu, .int .i64 ke, .bool ha, .int .i64 re, .int .i64 co, .slice ia il ic] 130)).alloc (.cells #[.int .i64 pbu, .int .i64 pke, .bool pha, .int .i64 pre, .int .i64 pco, .slice pia pil pic] 130) := ⟨_, rfl⟩
    rw [← hW] at ba kX kY ⊢
    have KX := Lib.hid kX
    have GX := Lib.hid (show w.heap.size ≤ pX by omega)
    have KY := Lib.hid kY
    have GY := Lib.hid (show w.heap.size ≤ pY by omega)
    have NEX_Y := Lib.hid (show pX ≠ pY by omega)
    replace BW := Lib.hid (BW.out.trans ((ba).mono BW.out.size))
    clear ba hW kX hpX kY hpY
    have kx0 := KX.out.cell 0
    have kx1 := KX.out.cell 1
    have kx2 := KX.out.cell 2
    have kx3 := KX.out.cell 3
    have kx4 := KX.out.cell 4
    have kx5 := KX.out.cell 5
    simp only [List.getElem?_cons_zero, List.getElem?_cons_succ] at kx0 kx1 kx2 kx3 kx4 kx5
    have ky0 := KY.out.cell 0
    have ky1 := KY.out.cell 1
    have ky2 := KY.out.cell 2
    have ky3 := KY.out.cell 3
    have ky4 := KY.out.cell 4
    have ky5 := KY.out.cell 5
    simp only [List.getElem?_cons_zero, List.getElem?_cons_succ] at ky0 ky1 ky2 ky3 ky4 ky5
    go_wp2_with fail
    go_ret
    exact ⟨ret_bool HRF.out.symm, BW.out⟩
  have e2 : (ha == pha) = true := by simp [g2]
  have Q2 := Lib.hid g2
  clear g2
  by_cases g3 : re = pre
  rotate_left
  · have e3 : (re == pre) = false := by simp [g3]
    have HRF := Lib.hid (show R = false by rw [HST.out]; simp [eqTB, g3])
    clear g3
    have BW := Lib.hid (Below.refl w.heap.size w)
    go_enter Try.func116, Try.ntmps116
    have kX := (Blk.new w #[.int .i64 bu, .int .i64 ke, .bool ha, .int .i64 re, .int .i64 co, .slice ia il ic] 130).alloc (.cells #[.int .i64 pbu, .int .i64 pke, .bool pha, .int .i64 pre, .int .i64 pco, .slice pia pil pic] 130)
    have kY := Blk.new (w.alloc (.cells #[.int .i64 bu, .int .i64 ke, .bool ha, .int .i64 re, .int .i64 co, .slice ia il ic] 130)) #[.int .i64 pbu, .int .i64 pke, .bool pha, .int .i64 pre, .int .i64 pco, .slice pia pil pic] 130
    simp only [World.size_alloc] at kY
    have ba := ((Below.refl w.heap.size w).alloc (Nat.le_refl _) (.cells #[.int .i64 bu, .int .i64 ke, .bool ha, .int .i64 re, .int .i64 co, .slice ia il ic] 130)).alloc (by simp [World.size_alloc]; try omega) (.cells #[.int .i64 pbu, .int .i64 pke, .bool pha, .int .i64 pre, .int .i64 pco, .slice pia pil pic] 130)
    obtain ⟨pX, hpX⟩ : ∃ p, p = w.heap.size := ⟨_, rfl⟩
    obtain ⟨pY, hpY⟩ : ∃ p, p = w.heap.size + 1 := ⟨_, rfl⟩
    go_upto_region 1 with (fail)
    rw [← hpY] at kY
    try rw [← hpY]
    rw [← hpX] at kX
    try rw [← hpX]
    obtain ⟨w1, hW⟩ : ∃ W, W = (w.alloc (.cells #[.int .i64 bu, .int .i64 ke, .bool ha, .int .i64 re, .int .i64 co, .slice ia il ic] 130)).alloc (.cells #[.int .i64 pbu, .int .i64 pke, .bool pha, .int .i64 pre, .int .i64 pco, .slice pia pil pic] 130) := ⟨_, rfl⟩
    rw [← hW] at ba kX kY ⊢
    have KX := Lib.hid kX
    have GX := Lib.hid (show w.heap.size ≤ pX by omega)
    have KY := Lib.hid kY
    have GY := Lib.hid (show w.heap.size ≤ pY by omega)
    have NEX_Y := Lib.hid (show pX ≠ pY by omega)
    replace BW := Lib.hid (BW.out.trans ((ba).mono BW.out.size))
    clear ba hW kX hpX kY hpY
    have kx0 := KX.out.cell 0
    have kx1 := KX.out.cell 1
    have kx2 := KX.out.cell 2
    have kx3 := KX.out.cell 3
    have kx4 := KX.out.cell 4
    have kx5 := KX.out.cell 5
    simp only [List.getElem?_cons_zero, List.getElem?_cons_succ] at kx0 kx1 kx2 kx3 kx4 kx5
    have ky0 := KY.out.cell 0
    have ky1 := KY.out.cell 1
    have ky2 := KY.out.cell 2
    have ky3 := KY.out.cell 3
    have ky4 := KY.out.cell 4
    have ky5 := KY.out.cell 5
    simp only [List.getElem?_cons_zero, List.getElem?_cons_succ] at ky0 ky1 ky2 ky3 ky4 ky5
    go_wp2_with fail
    go_ret
    exact ⟨ret_bool HRF.out.symm, BW.out⟩
  have e3 : (re == pre) = true := by simp [g3]
  have Q3 := Lib.hid g3
  clear g3
  by_cases g4 : co = pco
  rotate_left
  · have e4 : (co == pco) = false := by simp [g4]
    have HRF := Lib.hid (show R = false by rw [HST.out]; simp [eqTB, g4])
    clear g4
    have BW := Lib.hid (Below.refl w.heap.size w)
    go_enter Try.func116, Try.ntmps116
    have kX := (Blk.new w #[.int .i64 bu, .int .i64 ke, .bool ha, .int .i64 re, .int .i64 co, .slice ia il ic] 130).alloc (.cells #[.int .i64 pbu, .int .i64 pke, .bool pha, .int .i64 pre, .int .i64 pco, .slice pia pil pic] 130)
    have kY := Blk.new (w.alloc (.cells #[.int .i64 bu, .int .i64 ke, .bool ha, .int .i64 re, .int .i64 co, .slice ia il ic] 130)) #[.int .i64 pbu, .int .i64 pke, .bool pha, .int .i64 pre, .int .i64 pco, .slice pia pil pic] 130
    simp only [World.size_alloc] at kY
    have ba := ((Below.refl w.heap.size w).alloc (Nat.le_refl _) (.cells #[.int .i64 bu, .int .i64 ke, .bool ha, .int .i64 re, .int .i64 co, .slice ia il ic] 130)).alloc (by simp [World.size_alloc]; try omega) (.cells #[.int .i64 pbu, .int .i64 pke, .bool pha, .int .i64 pre, .int .i64 pco, .slice pia pil pic] 130)
    obtain ⟨pX, hpX⟩ : ∃ p, p = w.heap.size := ⟨_, rfl⟩
    obtain ⟨pY, hpY⟩ : ∃ p, p = w.heap.size + 1 := ⟨_, rfl⟩
    go_upto_region 1 with (fail)
    rw [← hpY] at kY
    try rw [← hpY]
    rw [← hpX] at kX
    try rw [← hpX]
    obtain ⟨w1, hW⟩ : ∃ W, W = (w.alloc (.cells #[.int .i64 bu, .int .i64 ke, .bool ha, .int .i64 re, .int .i64 co, .slice ia il ic] 130)).alloc (.cells #[.int .i64 pbu, .int .i64 pke, .bool pha, .int .i64 pre, .int .i64 pco, .slice pia pil pic] 130) := ⟨_, rfl⟩
    rw [← hW] at ba kX kY ⊢
    have KX := Lib.hid kX
    have GX := Lib.hid (show w.heap.size ≤ pX by omega)
    have KY := Lib.hid kY
    have GY := Lib.hid (show w.heap.size ≤ pY by omega)
    have NEX_Y := Lib.hid (show pX ≠ pY by omega)
    replace BW := Lib.hid (BW.out.trans ((ba).mono BW.out.size))
    clear ba hW kX hpX kY hpY
    have kx0 := KX.out.cell 0
    have kx1 := KX.out.cell 1
    have kx2 := KX.out.cell 2
    have kx3 := KX.out.cell 3
    have kx4 := KX.out.cell 4
    have kx5 := KX.out.cell 5
    simp only [List.getElem?_cons_zero, List.getElem?_cons_succ] at kx0 kx1 kx2 kx3 kx4 kx5
    have ky0 := KY.out.cell 0
    have ky1 := KY.out.cell 1
    have ky2 := KY.out.cell 2
    have ky3 := KY.out.cell 3
    have ky4 := KY.out.cell 4
    have ky5 := KY.out.cell 5
    simp only [List.getElem?_cons_zero, List.getElem?_cons_succ] at ky0 ky1 ky2 ky3 ky4 ky5
    go_wp2_with fail
    go_ret
    exact ⟨ret_bool HRF.out.symm, BW.out⟩
  have e4 : (co == pco) = true := by simp [g4]
  have Q4 := Lib.hid g4
  clear g4
  have HEQ : Hid (R = eqB items pitems) := by show _ = _; rw [HST.out]; simp [eqTB, Q0.out, Q1.out, Q2.out, Q3.out, Q4.out]
  have LS := Lib.hid (fun W (h : Ints W (.slice ia il ic) items) (h' : Ints W (.slice pia pil pic) pitems) => equal_any _ _ items pitems W h h')
  rw [← HEQ.out] at LS
  have BW := Lib.hid (Below.refl w.heap.size w)
  go_enter Try.func116, Try.ntmps116
  have kX := (Blk.new w #[.int .i64 bu, .int .i64 ke, .bool ha, .int .i64 re, .int .i64 co, .slice ia il ic] 130).alloc (.cells #[.int .i64 pbu, .int .i64 pke, .bool pha, .int .i64 pre, .int .i64 pco, .slice pia pil pic] 130)
  have kY := Blk.new (w.alloc (.cells #[.int .i64 bu, .int .i64 ke, .bool ha, .int .i64 re, .int .i64 co, .slice ia il ic] 130)) #[.int .i64 pbu, .int .i64 pke, .bool pha, .int .i64 pre, .int .i64 pco, .slice pia pil pic] 130
  simp only [World.size_alloc] at kY
  have ba := ((Below.refl w.heap.size w).alloc (Nat.le_refl _) (.cells #[.int .i64 bu, .int .i64 ke, .bool ha, .int .i64 re, .int .i64 co, .slice ia il ic] 130)).alloc (by simp [World.size_alloc]; try omega) (.cells #[.int .i64 pbu, .int .i64 pke, .bool pha, .int .i64 pre, .int .i64 pco, .slice pia pil pic] 130)
  obtain ⟨pX, hpX⟩ : ∃ p, p = w.heap.size := ⟨_, rfl⟩
  obtain ⟨pY, hpY⟩ : ∃ p, p = w.heap.size + 1 := ⟨_, rfl⟩
  go_upto_region 1 with (fail)
  rw [← hpY] at kY
  try rw [← hpY]
  rw [← hpX] at kX
  try rw [← hpX]
  obtain ⟨w1, hW⟩ : ∃ W, W = (w.alloc (.cells #[.int .i64 bu, .int .i64 ke, .bool ha, .int .i64 re, .int .i64 co, .slice ia il ic] 130)).alloc (.cells #[.int .i64 pbu, .int .i64 pke, .bool pha, .int .i64 pre, .int .i64 pco, .slice pia pil pic] 130) := ⟨_, rfl⟩
  rw [← hW] at ba kX kY ⊢
  have KX := Lib.hid kX
  have GX := Lib.hid (show w.heap.size ≤ pX by omega)
  have KY := Lib.hid kY
  have GY := Lib.hid (show w.heap.size ≤ pY by omega)
  have NEX_Y := Lib.hid (show pX ≠ pY by omega)
  replace BW := Lib.hid (BW.out.trans ((ba).mono BW.out.size))
  clear ba hW kX hpX kY hpY
  have kx0 := KX.out.cell 0
  have kx1 := KX.out.cell 1
  have kx2 := KX.out.cell 2
  have kx3 := KX.out.cell 3
  have kx4 := KX.out.cell 4
  have kx5 := KX.out.cell 5
  simp only [List.getElem?_cons_zero, List.getElem?_cons_succ] at kx0 kx1 kx2 kx3 kx4 kx5
  have ky0 := KY.out.cell 0
  have ky1 := KY.out.cell 1
  have ky2 := KY.out.cell 2
  have ky3 := KY.out.cell 3
  have ky4 := KY.out.cell 4
  have ky5 := KY.out.cell 5
  simp only [List.getElem?_cons_zero, List.getElem?_cons_succ] at ky0 ky1 ky2 ky3 ky4 ky5
  go_wp2_with fail
  refine (LS.out _ (HI.out.below (B := 0) BW.out) (HJ.out.below (B := 0) BW.out)).mono ?_
  rintro e w3 ⟨rfl, q3, hq3⟩
  have b3 := below_drewN (Below.refl w1.heap.size w1) q3
  rw [← hq3] at b3
  clear hq3
  clear kx0 kx1 kx2 kx3 kx4 kx5 ky0 ky1 ky2 ky3 ky4 ky5
  replace BW := Lib.hid (BW.out.trans ((b3).mono BW.out.size))
  replace KX := Lib.hid (KX.out.below (b3) KX.out.lt)
  replace KY := Lib.hid (KY.out.below (b3) KY.out.lt)
  clear b3
  go_wp2_with fail
  go_ret
  exact ⟨ret_bool rfl, BW.out⟩
set_option maxRecDepth 100000 in
set_option maxHeartbeats 12800000 in
theorem eqF_some (b off cap b' off' cap' len : Nat) (ts us : List ThingT) (w : World) (h1 : ts.length = len) (h2 : us.length = len) (hl : len ≤ 9223372036854775807) (hb : b < w.heap.size) (hb' : b' < w.heap.size) (hr : ∀ t ∈ ts, Ints w t.v t.a.items) (hr' : ∀ t ∈ us, Ints w t.v t.a.items)
    (hc : ∀ i, i < len → ThingAt w b (off + i * 6) (ts.getD i tt0)) (hc' : ∀ i, i < len → ThingAt w b' (off' + i * 6) (us.getD i tt0)) :
    Calls Try.prog 115 #[.slice (some ⟨b, off, none⟩) len cap, .slice (some ⟨b', off', none⟩) len cap', .func (.func 116) #[] #[]] w fun e w' => e = .returned (.bool (eqTL (ts.map ThingT.a) (us.map ThingT.a))) ∧ Below w.heap.size w w' := by
  obtain ⟨R, hR⟩ : ∃ R, R = eqTL (ts.map ThingT.a) (us.map ThingT.a) := ⟨_, rfl⟩
  rw [← hR]
  have HR : Hid (R = eqTL ((ts.map ThingT.a).drop 0) ((us.map ThingT.a).drop 0)) := hR
  have N1 := Lib.hid h1
  have N2 := Lib.hid h2
  have HC := Lib.hid hc
  have HC' := Lib.hid hc'
  have HRd := Lib.hid hr
  have HRd' := Lib.hid hr'
  have b00 := Lib.hid hb
  have b01 := Lib.hid hb'
  have BW := Lib.hid (Below.refl w.heap.size w)
  have q1 : ((len : Int) == (len : Int)) = true := by simp
  have q2 : ((len : Int) != (len : Int)) = false := by simp
  clear hR h1 h2 hc hc' hr hr' hb hb'
  go_enter Try.func115, Try.ntmps115
  go_wp2_with fail
  go_loopw [17] (fun i wr => ∃ k : Nat, k ≤ len ∧ i = .int .i64 k ∧ Hid (R = eqTL ((ts.map ThingT.a).drop k) ((us.map ThingT.a).drop k)) ∧ Hid (Below w.heap.size w wr)) (fun i _ => len - (intOf i).toNat)
  case atStart => exact ⟨0, Nat.zero_le _, rfl, HR.out, BW.out⟩
  case round =>
    obtain ⟨k, hk, rfl, hg, hbel⟩ := hrel
    clear BW HR
    have BW := hbel
    clear hbel
    by_cases hlt : k < len
    · skip
      have hlt2 : k < ts.length := by rw [N1.out]; exact hlt
      have hlt3 : k < us.length := by rw [N2.out]; exact hlt
      have hm := tgetD_mem hlt2
      have hm' := tgetD_mem hlt3
      have AT := Lib.hid ((HC.out k hlt).below BW.out b00.out)
      have AU := Lib.hid ((HC'.out k hlt).below BW.out b01.out)
      have HI := Lib.hid (HRd.out _ hm)
      have HJ := Lib.hid (HRd'.out _ hm')
      have hst := hg.out
      rw [eqTL_step hlt2 hlt3] at hst
      obtain ⟨t, htt⟩ : ∃ t, t = ts.getD k tt0 := ⟨_, rfl⟩
      obtain ⟨u, huu⟩ : ∃ u, u = us.getD k tt0 := ⟨_, rfl⟩
      rw [← htt] at AT HI hst
      rw [← huu] at AU HJ hst
      have HST := Lib.hid hst
      clear hst hg htt huu hm hm' 
      obtain ⟨⟨bu, ke, ha, re, co, items⟩, tv⟩ := t
      have hsi := ints_len HI.out
      simp only at hsi
      obtain ⟨ia, ic, rfl⟩ := hsi
      try simp only [ThingT.val] at ⊢
      obtain ⟨il, hil⟩ : ∃ x, x = items.length := ⟨_, rfl⟩
      try rw [← hil] at HI
      try rw [← hil] at AT
      try rw [← hil] at HST
      have HIL := Lib.hid hil
      clear hil
      obtain ⟨⟨pbu, pke, pha, pre, pco, pitems⟩, ptv⟩ := u
      have phsi := ints_len HJ.out
      simp only at phsi
      obtain ⟨pia, pic, rfl⟩ := phsi
      try simp only [ThingT.val] at ⊢
      obtain ⟨pil, phil⟩ : ∃ x, x = pitems.length := ⟨_, rfl⟩
      try rw [← phil] at HJ
      try rw [← phil] at AU
      try rw [← phil] at HST
      have pHIL := Lib.hid phil
      clear phil
      try simp only at HST
      have i0 : (0 : Int) ≤ (k : Int) := by omega
      have i1 : (k : Int) < (len : Int) := by omega
      have c0 := AT.out.c0
      have c1 := AT.out.c1
      have c2 := AT.out.c2
      have c3 := AT.out.c3
      have c4 := AT.out.c4
      have c5 := AT.out.c5
      simp only at c0 c1 c2 c3 c4 c5
      have B1R := Lib.hid (Nat.lt_of_lt_of_le b01.out BW.out.size)
      go_upto_region 6 with (fail)
      clear c0 c1 c2 c3 c4 c5
      clear AT
      have kX := Blk.new wr #[.int .i64 bu, .int .i64 ke, .bool ha, .int .i64 re, .int .i64 co, .slice ia il ic] 130
      have ba := (Below.refl wr.heap.size wr).alloc (Nat.le_refl _) (.cells #[.int .i64 bu, .int .i64 ke, .bool ha, .int .i64 re, .int .i64 co, .slice ia il ic] 130)
      obtain ⟨pX, hpX⟩ : ∃ p, p = wr.heap.size := ⟨_, rfl⟩
      rw [← hpX] at kX
      try rw [← hpX]
      obtain ⟨w1, hW⟩ : ∃ W, W = wr.alloc (.cells #[.int .i64 bu, .int .i64 ke, .bool ha, .int .i64 re, .int .i64 co, .slice ia il ic] 130) := ⟨_, rfl⟩
      rw [← hW] at ba kX ⊢
      have KX := Lib.hid kX
      have GX := Lib.hid (show wr.heap.size ≤ pX by omega)
      replace BW := Lib.hid (BW.out.trans ((ba).mono BW.out.size))
      replace AU := Lib.hid (AU.out.below (ba) B1R.out)
      clear ba hW kX hpX
      have d0 := AU.out.c0
      have d1 := AU.out.c1
      have d2 := AU.out.c2
      have d3 := AU.out.c3
      have d4 := AU.out.c4
      have d5 := AU.out.c5
      simp only at d0 d1 d2 d3 d4 d5
      go_upto_region 7 with (fail)
      clear d0 d1 d2 d3 d4 d5
      clear AU i0 i1
      have kY := Blk.new w1 #[.int .i64 pbu, .int .i64 pke, .bool pha, .int .i64 pre, .int .i64 pco, .slice pia pil pic] 130
      have ba := (Below.refl w1.heap.size w1).alloc (Nat.le_refl _) (.cells #[.int .i64 pbu, .int .i64 pke, .bool pha, .int .i64 pre, .int .i64 pco, .slice pia pil pic] 130)
      obtain ⟨pY, hpY⟩ : ∃ p, p = w1.heap.size := ⟨_, rfl⟩
      rw [← hpY] at kY
      try rw [← hpY]
      obtain ⟨w2, hW⟩ : ∃ W, W = w1.alloc (.cells #[.int .i64 pbu, .int .i64 pke, .bool pha, .int .i64 pre, .int .i64 pco, .slice pia pil pic] 130) := ⟨_, rfl⟩
      rw [← hW] at ba kY ⊢
      have KY := Lib.hid kY
      have GY := Lib.hid (show w1.heap.size ≤ pY by omega)
      have NEX_Y := Lib.hid (show pX ≠ pY by have := KX.out.lt; omega)
      replace BW := Lib.hid (BW.out.trans ((ba).mono BW.out.size))
      replace KX := Lib.hid (KX.out.below (ba) KX.out.lt)
      clear ba hW kY hpY
      obtain ⟨X, hX⟩ : ∃ X, X = eqTB ⟨bu, ke, ha, re, co, items⟩ ⟨pbu, pke, pha, pre, pco, pitems⟩ := ⟨_, rfl⟩
      have HEQ := Lib.hid hX.symm
      have LS := Lib.hid (fun W (h : Ints W (.slice ia il ic) items) (h' : Ints W (.slice pia pil pic) pitems) => sameT_any bu ke re co pbu pke pre pco ha pha ia pia il ic pil pic items pitems W h h')
      rw [← hX] at LS
      clear hX
      have kx0 := KX.out.cell 0
      have kx1 := KX.out.cell 1
      have kx2 := KX.out.cell 2
      have kx3 := KX.out.cell 3
      have kx4 := KX.out.cell 4
      have kx5 := KX.out.cell 5
      simp only [List.getElem?_cons_zero, List.getElem?_cons_succ] at kx0 kx1 kx2 kx3 kx4 kx5
      have ky0 := KY.out.cell 0
      have ky1 := KY.out.cell 1
      have ky2 := KY.out.cell 2
      have ky3 := KY.out.cell 3
      have ky4 := KY.out.cell 4
      have ky5 := KY.out.cell 5
      simp only [List.getElem?_cons_zero, List.getElem?_cons_succ] at ky0 ky1 ky2 ky3 ky4 ky5
      go_wp2_with fail
      refine (LS.out _ (HI.out.below (B := 0) BW.out) (HJ.out.below (B := 0) BW.out)).mono ?_
      rintro e w3 ⟨rfl, b3⟩
      clear kx0 kx1 kx2 kx3 kx4 kx5 ky0 ky1 ky2 ky3 ky4 ky5
      replace BW := Lib.hid (BW.out.trans ((b3).mono BW.out.size))
      replace KX := Lib.hid (KX.out.below (b3) KX.out.lt)
      replace KY := Lib.hid (KY.out.below (b3) KY.out.lt)
      clear b3
      cases X
      · have HRF := Lib.hid (show R = false by rw [HST.out, HEQ.out]; simp)
        go_wp2_with fail
        go_ret
        exact ⟨ret_bool HRF.out.symm, BW.out⟩
      have HSS := Lib.hid (show R = eqTL ((ts.map ThingT.a).drop (k + 1)) ((us.map ThingT.a).drop (k + 1)) by rw [HST.out, HEQ.out]; simp)
      go_wp2_with fail
      go_roundw
      case rel => exact ⟨k + 1, by omega, by go_num, HSS.out, BW.out⟩
      case measure => simp [intOf]; omega
    · have HE := Lib.hid (show R = true by rw [hg.out, eqTL_end (by rw [N1.out]; omega) (by rw [N2.out]; omega)])
      go_wp2_with fail
      go_ret
      exact ⟨ret_bool HE.out.symm, BW.out⟩
end Go.Proofs.Ytjjgigoehgabkaa
