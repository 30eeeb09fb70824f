/- The reference's l4ceil, Ceiling. -/
import Derived.Test.YtghgiefciijoeaaGreatDoorQF
import Derived.Deep.DeepCutAuto

namespace Go.Proofs.YtghgiefciijoeaaGreatDoor
open Go.RowKit
set_option linter.unusedVariables false
set_option linter.unusedSimpArgs false
theorem ceilIs_no {bk : Int} {a : ActM} (h : ¬ (a.kind = 3 ∧ a.actor = 0 ∧ a.bucket = bk)) : ceilIs bk a = false := by
 cases hc : ceilIs bk a
 ·rfl
 ·simp only [ceilIs, Bool.and_eq_true, decide_eq_true_eq] at hc
  exact absurd ⟨hc.1.1, hc.1.2, hc.2⟩ h
theorem ceilIs_yes {bk : Int} {a : ActM} (h1 : a.kind = 3) (h2 : a.actor = 0) (h3 : a.bucket = bk) : ceilIs bk a = true := by simp [ceilIs, h1, h2, h3]
set_option maxRecDepth 100000 in
set_option maxHeartbeats 12800000 in
theorem l4ceil_some (b off len cap : Nat) (er en bk : Int) (va : Option Addr) (L vc : Nat) (xs : List Int) (ts : List ActT) (w : World) (h1 : ts.length = len) (hl : len ≤ 9223372036854775807) (hb : b < w.heap.size) (hr : ∀ t ∈ ts, t.Reads w) (hc : ∀ i, i < len → ActAt w b (off + i * 11) (ts.getD i t0))
  (hv : Ints w (.slice va L vc) xs) (hy : ∀ t ∈ ts, 0 ≤ t.a.r ∧ t.a.r < xs.length) (he : ∀ t ∈ ts, er < t.a.dep.length) :
  Calls Tryz.prog 109 #[.slice (some ⟨b, off, none⟩) len cap, .int .i64 bk, .agg #[.int .i64 er, .int .i64 en, .slice va L vc]] w fun e w' => e = .returned (.int .i64 (ceilM (ts.map ActT.a) bk er en xs)) ∧ Below w.heap.size w w' := by
 obtain ⟨R, hR⟩ : ∃ R, R = ceilM (ts.map ActT.a) bk er en xs := ⟨_, rfl⟩
 rw [← hR]
 have HR : Hid (R = ((ts.map ActT.a).drop 0).foldl (ceilStep (ts.map ActT.a) bk er en xs) 15) := hR
 have N1 := Lib.hid h1
 have HC := Lib.hid hc
 have HRd := Lib.hid hr
 have LA := Lib.hid (fun t (ht : t ∈ ts) W (h : t.Reads W) => later_any er en (.slice va L vc) t W h (he t ht))
 have PA := Lib.hid (fun t (ht : t ∈ ts) W (hW : Below w.heap.size w W) (h : t.Reads W) => past_any er en (.slice va L vc) xs t W h (hv.below (B := 0) hW) (hy t ht).1 (hy t ht).2)
 have b00 := Lib.hid hb
 clear hR h1 hc hr hv hy he hb
 have BW := Lib.hid (Below.refl w.heap.size w)
 go_enter Tryz.func109, Tryz.ntmps109
 have kE := Blk.new w #[.int .i64 er, .int .i64 en, .slice va L vc] 109
 have ba := (Below.refl w.heap.size w).alloc (Nat.le_refl _) (.cells #[.int .i64 er, .int .i64 en, .slice va L vc] 109)
 obtain ⟨pE, hpE⟩ : ∃ p, p = w.heap.size := ⟨_, rfl⟩
 go_upto_region 1 with (fail)
 rw [← hpE] at kE
 try rw [← hpE]
 obtain ⟨w1, hW⟩ : ∃ W, W = w.alloc (.cells #[.int .i64 er, .int .i64 en, .slice va L vc] 109) := ⟨_, rfl⟩
 rw [← hW] at ba kE ⊢
 have KE := Lib.hid kE
 have GE := Lib.hid (show w.heap.size ≤ pE by omega)
 replace BW := Lib.hid (BW.out.trans ((ba).mono BW.out.size))
 clear ba hW kE hpE
 go_wp2_with fail
 go_loopw [7, 8] (fun m' i wr => ∃ (k : Nat) (mm : Int), k ≤ len ∧ m' = .int .i64 mm ∧ i = .int .i64 k ∧ Hid (R = ((ts.map ActT.a).drop k).foldl (ceilStep (ts.map ActT.a) bk er en xs) mm) ∧ Hid (Blk wr pE [.int .i64 er, .int .i64 en, .slice va L vc]) ∧ Hid (Below w.heap.size w wr)) (fun _ i _ => len - (intOf i).toNat)
 case atStart => exact ⟨0, 15, Nat.zero_le _, rfl, rfl, HR.out, KE.out, BW.out⟩
 case round =>
  obtain ⟨k, mm, hk, rfl, rfl, hg, hke, hbel⟩ := hrel
  clear BW KE HR
  have BW := hbel
  have KE := hke
  clear hbel hke
  by_cases hlt : k < len
  ·have hlt2 : k < ts.length := by rw [N1.out]; exact hlt
   have hm := getD_mem hlt2
   have AT := Lib.hid ((HC.out k hlt).below BW.out b00.out)
   have HT := Lib.hid ((HRd.out _ hm).below BW.out)
   have HTB := Lib.hid (HRd.out _ hm)
   have hst := hg.out
   rw [fold_step hlt2] at hst
   have LA1 := LA.out _ hm
   obtain ⟨t, htt⟩ : ∃ t, t = ts.getD k t0 := ⟨_, rfl⟩
   rw [← htt] at AT HT HTB hst LA1
   obtain ⟨X, hX⟩ : ∃ X, X = ceilIs bk t.a := ⟨_, rfl⟩
   obtain ⟨Y, hY⟩ : ∃ Y, Y = laterM t.a er en := ⟨_, rfl⟩
   obtain ⟨Z, hZ⟩ : ∃ Z, Z = overM (ts.map ActT.a) bk xs t.a := ⟨_, rfl⟩
   obtain ⟨M1, hM1⟩ : ∃ x, x = t.a.mask := ⟨_, rfl⟩
   have hstep : ceilStep (ts.map ActT.a) bk er en xs mm t.a = (if (X && !Y && !Z) = true then bits .and .i64 mm M1 else mm) := by
    unfold ceilStep
    rw [← hX, ← hY, ← hM1, hZ]
   rw [hstep] at hst
   rw [← hY] at LA1
   have HST := Lib.hid hst
   have LAH := Lib.hid LA1
   have HX := Lib.hid hX
   have HZ : Hid (Z = (false || ((ts.map ActT.a).drop 0).any (fun d => ceilIs bk d && pastM xs d && knowsM d t.a))) := by show _ = _; rw [hZ]; rfl
   have KNC := Lib.hid (fun (d : ActT) W (hd : d.Reads W) (h : t.Reads W) => specKnows_any d.val t.val d.a t.a W hd.is h.is)
   clear hst hstep LA1 htt hm hX hY hZ hg
   obtain ⟨⟨r, nn, dep, actor, kind, dst, bucket, mask, gr, gn, ups⟩, vd, vs⟩ := t
   have hsd := ints_len HT.out.1
   have hsu := ups_len HT.out.2
   simp only at hsd hsu
   obtain ⟨da, dc, rfl⟩ := hsd
   obtain ⟨ua, uc, rfl⟩ := hsu
   try simp only [ActT.val] at LAH HX HZ KNC ⊢
   obtain ⟨dl, hdl⟩ : ∃ x, x = dep.length := ⟨_, rfl⟩
   obtain ⟨ul, hul⟩ : ∃ x, x = ups.length := ⟨_, rfl⟩
   try rw [← hdl] at HT
   try rw [← hul] at HT
   try rw [← hdl] at AT
   try rw [← hul] at AT
   try rw [← hdl] at HTB
   try rw [← hul] at HTB
   try rw [← hdl] at LAH
   try rw [← hul] at LAH
   try rw [← hdl] at HX
   try rw [← hul] at HX
   try rw [← hdl] at HZ
   try rw [← hul] at HZ
   try rw [← hdl] at KNC
   try rw [← hul] at KNC
   try rw [← hdl]
   try rw [← hul]
   have HDL := Lib.hid hdl
   clear hdl hul
   simp only at hM1 HX
   replace hM1 := hM1.symm
   subst hM1
   have c0 := AT.out.c0
   have c1 := AT.out.c1
   have c2 := AT.out.c2
   have c3 := AT.out.c3
   have c4 := AT.out.c4
   have c5 := AT.out.c5
   have c6 := AT.out.c6
   have c7 := AT.out.c7
   have c8 := AT.out.c8
   have c9 := AT.out.c9
   have c10 := AT.out.c10
   simp only at c0 c1 c2 c3 c4 c5 c6 c7 c8 c9 c10
   have i0 : (0 : Int) ≤ (k : Int) := by omega
   have i1 : (k : Int) < (len : Int) := by omega
   go_upto_region 6 with (fail)
   clear c0 c1 c2 c3 c4 c5 c6 c7 c8 c9 c10
   clear AT i0 i1
   have kC := Blk.new wr #[.int .i64 r, .int .i64 nn, .slice da dl dc, .int .i64 actor, .int .i64 kind, .int .i64 dst, .int .i64 bucket, .int .i64 mask, .int .i64 gr, .int .i64 gn, .slice ua ul uc] 32
   have ba := (Below.refl wr.heap.size wr).alloc (Nat.le_refl _) (.cells #[.int .i64 r, .int .i64 nn, .slice da dl dc, .int .i64 actor, .int .i64 kind, .int .i64 dst, .int .i64 bucket, .int .i64 mask, .int .i64 gr, .int .i64 gn, .slice ua ul uc] 32)
   obtain ⟨pC, hpC⟩ : ∃ p, p = wr.heap.size := ⟨_, rfl⟩
   rw [← hpC] at kC
   try rw [← hpC]
   obtain ⟨w2, hW⟩ : ∃ W, W = wr.alloc (.cells #[.int .i64 r, .int .i64 nn, .slice da dl dc, .int .i64 actor, .int .i64 kind, .int .i64 dst, .int .i64 bucket, .int .i64 mask, .int .i64 gr, .int .i64 gn, .slice ua ul uc] 32) := ⟨_, rfl⟩
   rw [← hW] at ba kC ⊢
   have KC := Lib.hid kC
   have GC := Lib.hid (show wr.heap.size ≤ pC by omega)
   have NEE_C := Lib.hid (show pE ≠ pC by have := KE.out.lt; omega)
   replace BW := Lib.hid (BW.out.trans ((ba).mono BW.out.size))
   replace HT := Lib.hid (HT.out.below (ba))
   replace KE := Lib.hid (KE.out.below (ba) KE.out.lt)
   clear ba hW kC hpC
   by_cases g1 : kind = 3
   rotate_left
   ·have e1 : (kind == 3) = false := by simp [g1]
    have n1 : (kind != 3) = true := by simp [g1]
    have HXF := Lib.hid (show X = false by rw [HX.out]; exact ceilIs_no (by intro hh; simp only at hh; first | exact g1 hh.1 | exact g1 hh.2.1 | exact g1 hh.2.2))
    clear g1
    have HSS := Lib.hid (show R = ((ts.map ActT.a).drop (k + 1)).foldl (ceilStep (ts.map ActT.a) bk er en xs) mm by rw [HST.out, HXF.out]; rfl)
    have kc0 := KC.out.cell 0
    have kc1 := KC.out.cell 1
    have kc2 := KC.out.cell 2
    have kc3 := KC.out.cell 3
    have kc4 := KC.out.cell 4
    have kc5 := KC.out.cell 5
    have kc6 := KC.out.cell 6
    have kc7 := KC.out.cell 7
    have kc8 := KC.out.cell 8
    have kc9 := KC.out.cell 9
    have kc10 := KC.out.cell 10
    simp only [List.getElem?_cons_zero, List.getElem?_cons_succ] at kc0 kc1 kc2 kc3 kc4 kc5 kc6 kc7 kc8 kc9 kc10
    go_wp2_with fail
    go_roundw
    case rel => exact ⟨k + 1, mm, by omega, rfl, by go_num, HSS.out, KE.out, BW.out⟩
    case measure => simp [intOf]; omega
   have e1 : (kind == 3) = true := by simp [g1]
   have n1 : (kind != 3) = false := by simp [g1]
   have Q1 := Lib.hid g1
   clear g1
   by_cases g2 : actor = 0
   rotate_left
   ·have e2 : (actor == 0) = false := by simp [g2]
    have n2 : (actor != 0) = true := by simp [g2]
    have HXF := Lib.hid (show X = false by rw [HX.out]; exact ceilIs_no (by intro hh; simp only at hh; first | exact g2 hh.1 | exact g2 hh.2.1 | exact g2 hh.2.2))
    clear g2
    have HSS := Lib.hid (show R = ((ts.map ActT.a).drop (k + 1)).foldl (ceilStep (ts.map ActT.a) bk er en xs) mm by rw [HST.out, HXF.out]; rfl)
    have kc0 := KC.out.cell 0
    have kc1 := KC.out.cell 1
    have kc2 := KC.out.cell 2
    have kc3 := KC.out.cell 3
    have kc4 := KC.out.cell 4
    have kc5 := KC.out.cell 5
    have kc6 := KC.out.cell 6
    have kc7 := KC.out.cell 7
    have kc8 := KC.out.cell 8
    have kc9 := KC.out.cell 9
    have kc10 := KC.out.cell 10
    simp only [List.getElem?_cons_zero, List.getElem?_cons_succ] at kc0 kc1 kc2 kc3 kc4 kc5 kc6 kc7 kc8 kc9 kc10
    go_wp2_with fail
    go_roundw
    case rel => exact ⟨k + 1, mm, by omega, rfl, by go_num, HSS.out, KE.out, BW.out⟩
    case measure => simp [intOf]; omega
   have e2 : (actor == 0) = true := by simp [g2]
   have n2 : (actor != 0) = false := by simp [g2]
   have Q2 := Lib.hid g2
   clear g2
   by_cases g3 : bucket = bk
   rotate_left
   ·have e3 : (bucket == bk) = false := by simp [g3]
    have n3 : (bucket != bk) = true := by simp [g3]
    have HXF := Lib.hid (show X = false by rw [HX.out]; exact ceilIs_no (by intro hh; simp only at hh; first | exact g3 hh.1 | exact g3 hh.2.1 | exact g3 hh.2.2))
    clear g3
    have HSS := Lib.hid (show R = ((ts.map ActT.a).drop (k + 1)).foldl (ceilStep (ts.map ActT.a) bk er en xs) mm by rw [HST.out, HXF.out]; rfl)
    have kc0 := KC.out.cell 0
    have kc1 := KC.out.cell 1
    have kc2 := KC.out.cell 2
    have kc3 := KC.out.cell 3
    have kc4 := KC.out.cell 4
    have kc5 := KC.out.cell 5
    have kc6 := KC.out.cell 6
    have kc7 := KC.out.cell 7
    have kc8 := KC.out.cell 8
    have kc9 := KC.out.cell 9
    have kc10 := KC.out.cell 10
    simp only [List.getElem?_cons_zero, List.getElem?_cons_succ] at kc0 kc1 kc2 kc3 kc4 kc5 kc6 kc7 kc8 kc9 kc10
    go_wp2_with fail
    go_roundw
    case rel => exact ⟨k + 1, mm, by omega, rfl, by go_num, HSS.out, KE.out, BW.out⟩
    case measure => simp [intOf]; omega
   have e3 : (bucket == bk) = true := by simp [g3]
   have n3 : (bucket != bk) = false := by simp [g3]
   have Q3 := Lib.hid g3
   clear g3
   have HXT := Lib.hid (show X = true by rw [HX.out]; exact ceilIs_yes Q1.out Q2.out Q3.out)
   have kc0 := KC.out.cell 0
   have kc1 := KC.out.cell 1
   have kc2 := KC.out.cell 2
   have kc3 := KC.out.cell 3
   have kc4 := KC.out.cell 4
   have kc5 := KC.out.cell 5
   have kc6 := KC.out.cell 6
   have kc7 := KC.out.cell 7
   have kc8 := KC.out.cell 8
   have kc9 := KC.out.cell 9
   have kc10 := KC.out.cell 10
   simp only [List.getElem?_cons_zero, List.getElem?_cons_succ] at kc0 kc1 kc2 kc3 kc4 kc5 kc6 kc7 kc8 kc9 kc10
   have ke0 := KE.out.cell 0
   have ke1 := KE.out.cell 1
   have ke2 := KE.out.cell 2
   simp only [List.getElem?_cons_zero, List.getElem?_cons_succ] at ke0 ke1 ke2
   go_wp2_with fail
   refine (LAH.out _ HT.out).mono ?_
   rintro e w3 ⟨rfl, b⟩
   clear kc0 kc1 kc2 kc3 kc4 kc5 kc6 kc7 kc8 kc9 kc10 ke0 ke1 ke2
   replace BW := Lib.hid (BW.out.trans ((b).mono BW.out.size))
   replace HT := Lib.hid (HT.out.below (b))
   replace KE := Lib.hid (KE.out.below (b) KE.out.lt)
   replace KC := Lib.hid (KC.out.below (b) KC.out.lt)
   clear b
   cases Y
   rotate_left
   ·have HSS := Lib.hid (show R = ((ts.map ActT.a).drop (k + 1)).foldl (ceilStep (ts.map ActT.a) bk er en xs) mm by rw [HST.out, HXT.out]; rfl)
    go_wp2_with fail
    go_roundw
    case rel => exact ⟨k + 1, mm, by omega, rfl, by go_num, HSS.out, KE.out, BW.out⟩
    case measure => simp [intOf]; omega
   clear e1 n1 e2 n2 e3 n3
   go_wp2_with fail
   go_loopw [10, 11] (fun o' i wr2 => ∃ (j : Nat) (ov : Bool), j ≤ len ∧ o' = .bool ov ∧ i = .int .i64 j ∧ Hid (Z = (ov || ((ts.map ActT.a).drop j).any (fun d => ceilIs bk d && pastM xs d && knowsM d ⟨r, nn, dep, actor, kind, dst, bucket, mask, gr, gn, ups⟩))) ∧ Hid (Blk wr2 pE [.int .i64 er, .int .i64 en, .slice va L vc]) ∧ Hid (Blk wr2 pC [.int .i64 r, .int .i64 nn, .slice da dl dc, .int .i64 actor, .int .i64 kind, .int .i64 dst, .int .i64 bucket, .int .i64 mask, .int .i64 gr, .int .i64 gn, .slice ua ul uc]) ∧ Hid (Below w.heap.size w wr2)) (fun _ i _ => len - (intOf i).toNat)
   case atStart => exact ⟨0, false, Nat.zero_le _, rfl, rfl, HZ.out, KE.out, KC.out, BW.out⟩
   case round =>
    obtain ⟨j, ov, hj, rfl, rfl, hz, hke, hkc, hbel⟩ := hrel
    clear BW KE KC HZ
    have BW := hbel
    have KE := hke
    have KC := hkc
    clear hbel hke hkc
    by_cases hlj : j < len
    ·have hlj2 : j < ts.length := by rw [N1.out]; exact hlj
     have hm := getD_mem hlj2
     have AT := Lib.hid ((HC.out j hlj).below BW.out b00.out)
     have HD := Lib.hid ((HRd.out _ hm).below BW.out)
     have hzz := hz.out
     rw [any_step hlj2] at hzz
     have PA1 := PA.out _ hm
     have KN1 := KNC.out (ts.getD j t0)
     obtain ⟨d, htt⟩ : ∃ d, d = ts.getD j t0 := ⟨_, rfl⟩
     rw [← htt] at AT HD hzz PA1 KN1
     obtain ⟨P, hP⟩ : ∃ P, P = ceilIs bk d.a := ⟨_, rfl⟩
     obtain ⟨S, hS⟩ : ∃ S, S = pastM xs d.a := ⟨_, rfl⟩
     obtain ⟨U, hU⟩ : ∃ U, U = knowsM d.a ⟨r, nn, dep, actor, kind, dst, bucket, mask, gr, gn, ups⟩ := ⟨_, rfl⟩
     rw [← hS] at PA1
     rw [← hP, ← hS, ← hU] at hzz
     rw [← hU] at KN1
     have HZZ := Lib.hid hzz
     have PAH := Lib.hid PA1
     have KNH := Lib.hid KN1
     have HP := Lib.hid hP
     clear hzz PA1 KN1 htt hm hP hS hU hz
     obtain ⟨⟨dr, dnn, ddep, dactor, dkind, ddst, dbucket, dmask, dgr, dgn, dups⟩, dvd, dvs⟩ := d
     have dhsd := ints_len HD.out.1
     have dhsu := ups_len HD.out.2
     simp only at dhsd dhsu
     obtain ⟨dda, ddc, rfl⟩ := dhsd
     obtain ⟨dua, duc, rfl⟩ := dhsu
     try simp only [ActT.val] at PAH KNH HP ⊢
     obtain ⟨ddl, dhdl⟩ : ∃ x, x = ddep.length := ⟨_, rfl⟩
     obtain ⟨dul, dhul⟩ : ∃ x, x = dups.length := ⟨_, rfl⟩
     try rw [← dhdl] at HD
     try rw [← dhul] at HD
     try rw [← dhdl] at AT
     try rw [← dhul] at AT
     try rw [← dhdl] at PAH
     try rw [← dhul] at PAH
     try rw [← dhdl] at KNH
     try rw [← dhul] at KNH
     try rw [← dhdl] at HP
     try rw [← dhul] at HP
     try rw [← dhdl]
     try rw [← dhul]
     have dHDL := Lib.hid dhdl
     clear dhdl dhul
     try simp only at HP
     have c0 := AT.out.c0
     have c1 := AT.out.c1
     have c2 := AT.out.c2
     have c3 := AT.out.c3
     have c4 := AT.out.c4
     have c5 := AT.out.c5
     have c6 := AT.out.c6
     have c7 := AT.out.c7
     have c8 := AT.out.c8
     have c9 := AT.out.c9
     have c10 := AT.out.c10
     simp only at c0 c1 c2 c3 c4 c5 c6 c7 c8 c9 c10
     have i0 : (0 : Int) ≤ (j : Int) := by omega
     have i1 : (j : Int) < (len : Int) := by omega
     go_upto_region 12 with (fail)
     clear c0 c1 c2 c3 c4 c5 c6 c7 c8 c9 c10
     clear AT i0 i1
     have kD := Blk.new wr #[.int .i64 dr, .int .i64 dnn, .slice dda ddl ddc, .int .i64 dactor, .int .i64 dkind, .int .i64 ddst, .int .i64 dbucket, .int .i64 dmask, .int .i64 dgr, .int .i64 dgn, .slice dua dul duc] 32
     have ba := (Below.refl wr.heap.size wr).alloc (Nat.le_refl _) (.cells #[.int .i64 dr, .int .i64 dnn, .slice dda ddl ddc, .int .i64 dactor, .int .i64 dkind, .int .i64 ddst, .int .i64 dbucket, .int .i64 dmask, .int .i64 dgr, .int .i64 dgn, .slice dua dul duc] 32)
     obtain ⟨pD, hpD⟩ : ∃ p, p = wr.heap.size := ⟨_, rfl⟩
     rw [← hpD] at kD
     try rw [← hpD]
     obtain ⟨w5, hW⟩ : ∃ W, W = wr.alloc (.cells #[.int .i64 dr, .int .i64 dnn, .slice dda ddl ddc, .int .i64 dactor, .int .i64 dkind, .int .i64 ddst, .int .i64 dbucket, .int .i64 dmask, .int .i64 dgr, .int .i64 dgn, .slice dua dul duc] 32) := ⟨_, rfl⟩
     rw [← hW] at ba kD ⊢
     have KD := Lib.hid kD
     have GD := Lib.hid (show wr.heap.size ≤ pD by omega)
     have NEE_D := Lib.hid (show pE ≠ pD by have := KE.out.lt; omega)
     have NEC_D := Lib.hid (show pC ≠ pD by have := KC.out.lt; omega)
     replace BW := Lib.hid (BW.out.trans ((ba).mono BW.out.size))
     replace HD := Lib.hid (HD.out.below (ba))
     replace KE := Lib.hid (KE.out.below (ba) KE.out.lt)
     replace KC := Lib.hid (KC.out.below (ba) KC.out.lt)
     clear ba hW kD hpD
     cases ov
     rotate_left
     ·have HSS := Lib.hid (show Z = (true || ((ts.map ActT.a).drop (j + 1)).any (fun d => ceilIs bk d && pastM xs d && knowsM d ⟨r, nn, dep, actor, kind, dst, bucket, mask, gr, gn, ups⟩)) by rw [HZZ.out]; simp)
      have kd0 := KD.out.cell 0
      have kd1 := KD.out.cell 1
      have kd2 := KD.out.cell 2
      have kd3 := KD.out.cell 3
      have kd4 := KD.out.cell 4
      have kd5 := KD.out.cell 5
      have kd6 := KD.out.cell 6
      have kd7 := KD.out.cell 7
      have kd8 := KD.out.cell 8
      have kd9 := KD.out.cell 9
      have kd10 := KD.out.cell 10
      simp only [List.getElem?_cons_zero, List.getElem?_cons_succ] at kd0 kd1 kd2 kd3 kd4 kd5 kd6 kd7 kd8 kd9 kd10
      go_wp2_with fail
      go_roundw
      case rel => exact ⟨j + 1, true, by omega, rfl, by go_num, HSS.out, KE.out, KC.out, BW.out⟩
      case measure => simp [intOf]; omega
     by_cases g4 : dkind = 3
     rotate_left
     ·have e4 : (dkind == 3) = false := by simp [g4]
      have n4 : (dkind != 3) = true := by simp [g4]
      have HPF := Lib.hid (show P = false by rw [HP.out]; exact ceilIs_no (by intro hh; simp only at hh; first | exact g4 hh.1 | exact g4 hh.2.1 | exact g4 hh.2.2))
      clear g4
      have HSS := Lib.hid (show Z = (false || ((ts.map ActT.a).drop (j + 1)).any (fun d => ceilIs bk d && pastM xs d && knowsM d ⟨r, nn, dep, actor, kind, dst, bucket, mask, gr, gn, ups⟩)) by rw [HZZ.out, HPF.out]; simp)
      have kd0 := KD.out.cell 0
      have kd1 := KD.out.cell 1
      have kd2 := KD.out.cell 2
      have kd3 := KD.out.cell 3
      have kd4 := KD.out.cell 4
      have kd5 := KD.out.cell 5
      have kd6 := KD.out.cell 6
      have kd7 := KD.out.cell 7
      have kd8 := KD.out.cell 8
      have kd9 := KD.out.cell 9
      have kd10 := KD.out.cell 10
      simp only [List.getElem?_cons_zero, List.getElem?_cons_succ] at kd0 kd1 kd2 kd3 kd4 kd5 kd6 kd7 kd8 kd9 kd10
      go_wp2_with fail
      go_roundw
      case rel => exact ⟨j + 1, false, by omega, rfl, by go_num, HSS.out, KE.out, KC.out, BW.out⟩
      case measure => simp [intOf]; omega
     have e4 : (dkind == 3) = true := by simp [g4]
     have n4 : (dkind != 3) = false := by simp [g4]
     have Q4 := Lib.hid g4
     clear g4
     by_cases g5 : dactor = 0
     rotate_left
     ·have e5 : (dactor == 0) = false := by simp [g5]
      have n5 : (dactor != 0) = true := by simp [g5]
      have HPF := Lib.hid (show P = false by rw [HP.out]; exact ceilIs_no (by intro hh; simp only at hh; first | exact g5 hh.1 | exact g5 hh.2.1 | exact g5 hh.2.2))
      clear g5
      have HSS := Lib.hid (show Z = (false || ((ts.map ActT.a).drop (j + 1)).any (fun d => ceilIs bk d && pastM xs d && knowsM d ⟨r, nn, dep, actor, kind, dst, bucket, mask, gr, gn, ups⟩)) by rw [HZZ.out, HPF.out]; simp)
      have kd0 := KD.out.cell 0
      have kd1 := KD.out.cell 1
      have kd2 := KD.out.cell 2
      have kd3 := KD.out.cell 3
      have kd4 := KD.out.cell 4
      have kd5 := KD.out.cell 5
      have kd6 := KD.out.cell 6
      have kd7 := KD.out.cell 7
      have kd8 := KD.out.cell 8
      have kd9 := KD.out.cell 9
      have kd10 := KD.out.cell 10
      simp only [List.getElem?_cons_zero, List.getElem?_cons_succ] at kd0 kd1 kd2 kd3 kd4 kd5 kd6 kd7 kd8 kd9 kd10
      go_wp2_with fail
      go_roundw
      case rel => exact ⟨j + 1, false, by omega, rfl, by go_num, HSS.out, KE.out, KC.out, BW.out⟩
      case measure => simp [intOf]; omega
     have e5 : (dactor == 0) = true := by simp [g5]
     have n5 : (dactor != 0) = false := by simp [g5]
     have Q5 := Lib.hid g5
     clear g5
     by_cases g6 : dbucket = bk
     rotate_left
     ·have e6 : (dbucket == bk) = false := by simp [g6]
      have n6 : (dbucket != bk) = true := by simp [g6]
      have HPF := Lib.hid (show P = false by rw [HP.out]; exact ceilIs_no (by intro hh; simp only at hh; first | exact g6 hh.1 | exact g6 hh.2.1 | exact g6 hh.2.2))
      clear g6
      have HSS := Lib.hid (show Z = (false || ((ts.map ActT.a).drop (j + 1)).any (fun d => ceilIs bk d && pastM xs d && knowsM d ⟨r, nn, dep, actor, kind, dst, bucket, mask, gr, gn, ups⟩)) by rw [HZZ.out, HPF.out]; simp)
      have kd0 := KD.out.cell 0
      have kd1 := KD.out.cell 1
      have kd2 := KD.out.cell 2
      have kd3 := KD.out.cell 3
      have kd4 := KD.out.cell 4
      have kd5 := KD.out.cell 5
      have kd6 := KD.out.cell 6
      have kd7 := KD.out.cell 7
      have kd8 := KD.out.cell 8
      have kd9 := KD.out.cell 9
      have kd10 := KD.out.cell 10
      simp only [List.getElem?_cons_zero, List.getElem?_cons_succ] at kd0 kd1 kd2 kd3 kd4 kd5 kd6 kd7 kd8 kd9 kd10
      go_wp2_with fail
      go_roundw
      case rel => exact ⟨j + 1, false, by omega, rfl, by go_num, HSS.out, KE.out, KC.out, BW.out⟩
      case measure => simp [intOf]; omega
     have e6 : (dbucket == bk) = true := by simp [g6]
     have n6 : (dbucket != bk) = false := by simp [g6]
     have Q6 := Lib.hid g6
     clear g6
     have HPT := Lib.hid (show P = true by rw [HP.out]; exact ceilIs_yes Q4.out Q5.out Q6.out)
     have kd0 := KD.out.cell 0
     have kd1 := KD.out.cell 1
     have kd2 := KD.out.cell 2
     have kd3 := KD.out.cell 3
     have kd4 := KD.out.cell 4
     have kd5 := KD.out.cell 5
     have kd6 := KD.out.cell 6
     have kd7 := KD.out.cell 7
     have kd8 := KD.out.cell 8
     have kd9 := KD.out.cell 9
     have kd10 := KD.out.cell 10
     simp only [List.getElem?_cons_zero, List.getElem?_cons_succ] at kd0 kd1 kd2 kd3 kd4 kd5 kd6 kd7 kd8 kd9 kd10
     have ke0 := KE.out.cell 0
     have ke1 := KE.out.cell 1
     have ke2 := KE.out.cell 2
     simp only [List.getElem?_cons_zero, List.getElem?_cons_succ] at ke0 ke1 ke2
     go_wp2_with fail
     refine (PAH.out _ BW.out HD.out).mono ?_
     rintro e w6 ⟨rfl, b⟩
     clear kd0 kd1 kd2 kd3 kd4 kd5 kd6 kd7 kd8 kd9 kd10 ke0 ke1 ke2
     replace BW := Lib.hid (BW.out.trans ((b).mono BW.out.size))
     replace HD := Lib.hid (HD.out.below (b))
     replace KE := Lib.hid (KE.out.below (b) KE.out.lt)
     replace KC := Lib.hid (KC.out.below (b) KC.out.lt)
     replace KD := Lib.hid (KD.out.below (b) KD.out.lt)
     clear b
     cases S
     ·have HSS := Lib.hid (show Z = (false || ((ts.map ActT.a).drop (j + 1)).any (fun d => ceilIs bk d && pastM xs d && knowsM d ⟨r, nn, dep, actor, kind, dst, bucket, mask, gr, gn, ups⟩)) by rw [HZZ.out, HPT.out]; simp)
      go_wp2_with fail
      go_roundw
      case rel => exact ⟨j + 1, false, by omega, rfl, by go_num, HSS.out, KE.out, KC.out, BW.out⟩
      case measure => simp [intOf]; omega
     have kd0 := KD.out.cell 0
     have kd1 := KD.out.cell 1
     have kd2 := KD.out.cell 2
     have kd3 := KD.out.cell 3
     have kd4 := KD.out.cell 4
     have kd5 := KD.out.cell 5
     have kd6 := KD.out.cell 6
     have kd7 := KD.out.cell 7
     have kd8 := KD.out.cell 8
     have kd9 := KD.out.cell 9
     have kd10 := KD.out.cell 10
     simp only [List.getElem?_cons_zero, List.getElem?_cons_succ] at kd0 kd1 kd2 kd3 kd4 kd5 kd6 kd7 kd8 kd9 kd10
     have kc0 := KC.out.cell 0
     have kc1 := KC.out.cell 1
     have kc2 := KC.out.cell 2
     have kc3 := KC.out.cell 3
     have kc4 := KC.out.cell 4
     have kc5 := KC.out.cell 5
     have kc6 := KC.out.cell 6
     have kc7 := KC.out.cell 7
     have kc8 := KC.out.cell 8
     have kc9 := KC.out.cell 9
     have kc10 := KC.out.cell 10
     simp only [List.getElem?_cons_zero, List.getElem?_cons_succ] at kc0 kc1 kc2 kc3 kc4 kc5 kc6 kc7 kc8 kc9 kc10
     skip
     go_wp2_with fail
     refine (KNH.out _ HD.out (HTB.out.below BW.out)).mono ?_
     rintro e w7 ⟨rfl, b⟩
     clear kd0 kd1 kd2 kd3 kd4 kd5 kd6 kd7 kd8 kd9 kd10 kc0 kc1 kc2 kc3 kc4 kc5 kc6 kc7 kc8 kc9 kc10
     replace BW := Lib.hid (BW.out.trans ((b).mono BW.out.size))
     replace HD := Lib.hid (HD.out.below (b))
     replace KE := Lib.hid (KE.out.below (b) KE.out.lt)
     replace KC := Lib.hid (KC.out.below (b) KC.out.lt)
     replace KD := Lib.hid (KD.out.below (b) KD.out.lt)
     clear b
     cases U
     ·have HSS := Lib.hid (show Z = (false || ((ts.map ActT.a).drop (j + 1)).any (fun d => ceilIs bk d && pastM xs d && knowsM d ⟨r, nn, dep, actor, kind, dst, bucket, mask, gr, gn, ups⟩)) by rw [HZZ.out, HPT.out]; simp)
      go_wp2_with fail
      go_roundw
      case rel => exact ⟨j + 1, false, by omega, rfl, by go_num, HSS.out, KE.out, KC.out, BW.out⟩
      case measure => simp [intOf]; omega
     ·have HSS := Lib.hid (show Z = (true || ((ts.map ActT.a).drop (j + 1)).any (fun d => ceilIs bk d && pastM xs d && knowsM d ⟨r, nn, dep, actor, kind, dst, bucket, mask, gr, gn, ups⟩)) by rw [HZZ.out, HPT.out]; simp)
      go_wp2_with fail
      go_roundw
      case rel => exact ⟨j + 1, true, by omega, rfl, by go_num, HSS.out, KE.out, KC.out, BW.out⟩
      case measure => simp [intOf]; omega
    ·have HZE := Lib.hid (show Z = ov by rw [hz.out, drop_end (by rw [List.length_map, N1.out]; omega)]; simp)
     have kc0 := KC.out.cell 0
     have kc1 := KC.out.cell 1
     have kc2 := KC.out.cell 2
     have kc3 := KC.out.cell 3
     have kc4 := KC.out.cell 4
     have kc5 := KC.out.cell 5
     have kc6 := KC.out.cell 6
     have kc7 := KC.out.cell 7
     have kc8 := KC.out.cell 8
     have kc9 := KC.out.cell 9
     have kc10 := KC.out.cell 10
     simp only [List.getElem?_cons_zero, List.getElem?_cons_succ] at kc0 kc1 kc2 kc3 kc4 kc5 kc6 kc7 kc8 kc9 kc10
     cases ov
     ·have HSS := Lib.hid (show R = ((ts.map ActT.a).drop (k + 1)).foldl (ceilStep (ts.map ActT.a) bk er en xs) (bits .and .i64 mm mask) by rw [HST.out, HXT.out, HZE.out]; rfl)
      go_wp2_with fail
      go_roundw
      case rel => exact ⟨k + 1, _, by omega, rfl, by go_num, HSS.out, KE.out, BW.out⟩
      case measure => simp [intOf]; omega
     ·have HSS := Lib.hid (show R = ((ts.map ActT.a).drop (k + 1)).foldl (ceilStep (ts.map ActT.a) bk er en xs) mm by rw [HST.out, HXT.out, HZE.out]; rfl)
      go_wp2_with fail
      go_roundw
      case rel => exact ⟨k + 1, mm, by omega, rfl, by go_num, HSS.out, KE.out, BW.out⟩
      case measure => simp [intOf]; omega
  ·have HSS := Lib.hid (show R = mm by rw [hg.out, drop_end (by rw [List.length_map, N1.out]; omega)]; rfl)
   go_wp2_with fail
   go_ret
   exact ⟨ret_int HSS.out.symm, BW.out⟩
set_option maxRecDepth 100000 in
set_option maxHeartbeats 1600000 in
theorem l4ceil_any (v : Value) (ts : List ActT) (er en bk : Int) (va : Option Addr) (L vc : Nat) (xs : List Int) (w : World) (h : ActsT w v ts) (hv : Ints w (.slice va L vc) xs) (hy : ∀ t ∈ ts, 0 ≤ t.a.r ∧ t.a.r < xs.length) (he : ∀ t ∈ ts, er < t.a.dep.length) :
  Calls Tryz.prog 109 #[v, .int .i64 bk, .agg #[.int .i64 er, .int .i64 en, .slice va L vc]] w fun e w' => e = .returned (.int .i64 (ceilM (ts.map ActT.a) bk er en xs)) ∧ Below w.heap.size w w' := by
 have hm := actsT_max h
 rcases h.2 with ⟨a, cap, rfl, rfl⟩ | ⟨b, off, cap, rfl, q1, q2, q3, q4⟩
 ·clear h hv hy he hm
  have BW := Lib.hid (Below.refl w.heap.size w)
  go_enter Tryz.func109, Tryz.ntmps109
  have kE := Blk.new w #[.int .i64 er, .int .i64 en, .slice va L vc] 109
  have ba := (Below.refl w.heap.size w).alloc (Nat.le_refl _) (.cells #[.int .i64 er, .int .i64 en, .slice va L vc] 109)
  obtain ⟨pE, hpE⟩ : ∃ p, p = w.heap.size := ⟨_, rfl⟩
  go_upto_region 1 with (fail)
  rw [← hpE] at kE
  try rw [← hpE]
  obtain ⟨w1, hW⟩ : ∃ W, W = w.alloc (.cells #[.int .i64 er, .int .i64 en, .slice va L vc] 109) := ⟨_, rfl⟩
  rw [← hW] at ba kE ⊢
  have KE := Lib.hid kE
  have GE := Lib.hid (show w.heap.size ≤ pE by omega)
  replace BW := Lib.hid (BW.out.trans ((ba).mono BW.out.size))
  clear ba hW kE hpE
  go_wp2_with fail
  go_loop [7, 8] (fun m' i => m' = .int .i64 15 ∧ i = .int .i64 0) (fun _ _ => 0)
  case atStart => exact ⟨rfl, rfl⟩
  case round =>
   obtain ⟨rfl, rfl⟩ := hrel
   go_wp2
   go_ret
   exact ⟨rfl, BW.out⟩
 ·exact l4ceil_some b off _ cap er en bk va L vc xs ts w rfl hm q1 h.1 q4 hv hy he
theorem good_acts {l : List ActM} {n er : Int} {xs : List Int} (h : goodM l n er xs = true) : ∀ t ∈ l, (0 ≤ t.r ∧ t.r < xs.length) ∧ er < t.dep.length := by
 obtain ⟨hc, h1, h2, h3⟩ := good_parts h
 obtain ⟨hs, ho, hl, m, rfl, g1, g4, hx⟩ := cutB_set hc
 intro t ht
 have hp := ok_parts ((setOk_all hs).2.2.2 t ht)
 exact ⟨⟨hp.1, by omega⟩, by omega⟩
end Go.Proofs.YtghgiefciijoeaaGreatDoor
