/- The reference's l4back, l4holds, Holds. -/
import Derived.Test.YtghgiefciijoeaaGreatDoorQG
import Derived.Test.YtghgiefciijoeaaGreatDoorLA
import Derived.Test.YtghgiefciijoeaaGreatDoorQW
import Derived.Deep.DeepCutAuto

namespace Go.Proofs.YtghgiefciijoeaaGreatDoor
open Go.RowKit
set_option linter.unusedVariables false
set_option linter.unusedSimpArgs false
set_option maxRecDepth 100000 in
set_option maxHeartbeats 12800000 in
theorem l4back_some (b off len cap : Nat) (er en : Int) (va : Option Addr) (L vc : Nat) (ts : List ActT) (g : ActT) (w : World) (h1 : ts.length = len) (hl : len ≤ 9223372036854775807) (hb : b < w.heap.size) (hr : ∀ t ∈ ts, t.Reads w) (hc : ∀ i, i < len → ActAt w b (off + i * 11) (ts.getD i t0))
  (hg : g.Reads w) (he : ∀ t ∈ ts, er < t.a.dep.length) :
  Calls Tryz.prog 108 #[.slice (some ⟨b, off, none⟩) len cap, g.val, .agg #[.int .i64 er, .int .i64 en, .slice va L vc]] w fun e w' => e = .returned (.bool (tkbM (ts.map ActT.a) er en g.a)) ∧ Below w.heap.size w w' := by
 obtain ⟨R, hR⟩ : ∃ R, R = tkbM (ts.map ActT.a) er en g.a := ⟨_, rfl⟩
 rw [← hR]
 have HR : Hid (R = ((ts.map ActT.a).drop 0).any (fun r => tbackM g.a r && !laterM r er en)) := hR
 have N1 := Lib.hid h1
 have HC := Lib.hid hc
 have HRd := Lib.hid hr
 have HG := Lib.hid hg
 have LA := Lib.hid (fun t (ht : t ∈ ts) W (h : t.Reads W) => later_any er en (.slice va L vc) t W h (he t ht))
 have b00 := Lib.hid hb
 clear hR h1 hc hr hg he hb
 have BW := Lib.hid (Below.refl w.heap.size w)
 obtain ⟨⟨pr, pnn, pdep, pactor, pkind, pdst, pbucket, pmask, pgr, pgn, pups⟩, pvd, pvs⟩ := g
 have phsd := ints_len HG.out.1
 have phsu := ups_len HG.out.2
 simp only at phsd phsu
 obtain ⟨pda, pdc, rfl⟩ := phsd
 obtain ⟨pua, puc, rfl⟩ := phsu
 try simp only [ActT.val] at HR ⊢
 obtain ⟨pdl, phdl⟩ : ∃ x, x = pdep.length := ⟨_, rfl⟩
 obtain ⟨pul, phul⟩ : ∃ x, x = pups.length := ⟨_, rfl⟩
 try rw [← phdl] at HG
 try rw [← phul] at HG
 try rw [← phdl] at HR
 try rw [← phul] at HR
 try rw [← phdl]
 try rw [← phul]
 have pHDL := Lib.hid phdl
 clear phdl phul
 go_enter Tryz.func108, Tryz.ntmps108
 have kG := (Blk.new w #[.int .i64 pr, .int .i64 pnn, .slice pda pdl pdc, .int .i64 pactor, .int .i64 pkind, .int .i64 pdst, .int .i64 pbucket, .int .i64 pmask, .int .i64 pgr, .int .i64 pgn, .slice pua pul puc] 32).alloc (.cells #[.int .i64 er, .int .i64 en, .slice va L vc] 109)
 have kE := Blk.new (w.alloc (.cells #[.int .i64 pr, .int .i64 pnn, .slice pda pdl pdc, .int .i64 pactor, .int .i64 pkind, .int .i64 pdst, .int .i64 pbucket, .int .i64 pmask, .int .i64 pgr, .int .i64 pgn, .slice pua pul puc] 32)) #[.int .i64 er, .int .i64 en, .slice va L vc] 109
 simp only [World.size_alloc] at kE
 have ba := ((Below.refl w.heap.size w).alloc (Nat.le_refl _) (.cells #[.int .i64 pr, .int .i64 pnn, .slice pda pdl pdc, .int .i64 pactor, .int .i64 pkind, .int .i64 pdst, .int .i64 pbucket, .int .i64 pmask, .int .i64 pgr, .int .i64 pgn, .slice pua pul puc] 32)).alloc (by simp [World.size_alloc]; try omega) (.cells #[.int .i64 er, .int .i64 en, .slice va L vc] 109)
 obtain ⟨pG, hpG⟩ : ∃ p, p = w.heap.size := ⟨_, rfl⟩
 obtain ⟨pE, hpE⟩ : ∃ p, p = w.heap.size + 1 := ⟨_, rfl⟩
 go_upto_region 1 with (fail)
 rw [← hpE] at kE
 try rw [← hpE]
 rw [← hpG] at kG
 try rw [← hpG]
 obtain ⟨w1, hW⟩ : ∃ W, W = (w.alloc (.cells #[.int .i64 pr, .int .i64 pnn, .slice pda pdl pdc, .int .i64 pactor, .int .i64 pkind, .int .i64 pdst, .int .i64 pbucket, .int .i64 pmask, .int .i64 pgr, .int .i64 pgn, .slice pua pul puc] 32)).alloc (.cells #[.int .i64 er, .int .i64 en, .slice va L vc] 109) := ⟨_, rfl⟩
 rw [← hW] at ba kG kE ⊢
 have KG := Lib.hid kG
 have GG := Lib.hid (show w.heap.size ≤ pG by omega)
 have KE := Lib.hid kE
 have GE := Lib.hid (show w.heap.size ≤ pE by omega)
 have NEG_E := Lib.hid (show pG ≠ pE by omega)
 replace BW := Lib.hid (BW.out.trans ((ba).mono BW.out.size))
 clear ba hW kG hpG kE hpE
 go_wp2_with fail
 go_loopw [7] (fun i wr => ∃ j : Nat, j ≤ len ∧ i = .int .i64 j ∧ Hid (R = ((ts.map ActT.a).drop j).any (fun r => tbackM ⟨pr, pnn, pdep, pactor, pkind, pdst, pbucket, pmask, pgr, pgn, pups⟩ r && !laterM r er en)) ∧ Hid (Blk wr pE [.int .i64 er, .int .i64 en, .slice va L vc]) ∧ Hid (Blk wr pG [.int .i64 pr, .int .i64 pnn, .slice pda pdl pdc, .int .i64 pactor, .int .i64 pkind, .int .i64 pdst, .int .i64 pbucket, .int .i64 pmask, .int .i64 pgr, .int .i64 pgn, .slice pua pul puc]) ∧ Hid (Below w.heap.size w wr)) (fun i _ => len - (intOf i).toNat)
 case atStart => exact ⟨0, Nat.zero_le _, rfl, HR.out, KE.out, KG.out, BW.out⟩
 case round =>
  obtain ⟨j, hj, rfl, hz, hke, hkg, hbel⟩ := hrel
  clear BW KE KG HR
  have BW := hbel
  have KE := hke
  have KG := hkg
  clear hbel hke hkg
  by_cases hlt : j < len
  ·have hlt2 : j < ts.length := by rw [N1.out]; exact hlt
   have hm := getD_mem hlt2
   have AT := Lib.hid ((HC.out j hlt).below BW.out b00.out)
   have HT := Lib.hid ((HRd.out _ hm).below BW.out)
   have hzz := hz.out
   rw [any_step hlt2] at hzz
   have LA1 := LA.out _ hm
   obtain ⟨t, htt⟩ : ∃ t, t = ts.getD j t0 := ⟨_, rfl⟩
   rw [← htt] at AT HT hzz LA1
   obtain ⟨P, hP⟩ : ∃ P, P = tbackM ⟨pr, pnn, pdep, pactor, pkind, pdst, pbucket, pmask, pgr, pgn, pups⟩ t.a := ⟨_, rfl⟩
   obtain ⟨Y, hY⟩ : ∃ Y, Y = laterM t.a er en := ⟨_, rfl⟩
   rw [← hY] at LA1
   rw [← hP, ← hY] at hzz
   have HZZ := Lib.hid hzz
   have LAH := Lib.hid LA1
   have HP := Lib.hid hP
   clear hzz LA1 htt hm hP hY hz
   obtain ⟨⟨r, nn, dep, actor, kind, dst, bucket, mask, gr, gn, ups⟩, vd, vs⟩ := t
   have hsd := ints_len HT.out.1
   have hsu := ups_len HT.out.2
   simp only at hsd hsu
   obtain ⟨da, dc, rfl⟩ := hsd
   obtain ⟨ua, uc, rfl⟩ := hsu
   try simp only [ActT.val] at LAH HP ⊢
   obtain ⟨dl, hdl⟩ : ∃ x, x = dep.length := ⟨_, rfl⟩
   obtain ⟨ul, hul⟩ : ∃ x, x = ups.length := ⟨_, rfl⟩
   try rw [← hdl] at HT
   try rw [← hul] at HT
   try rw [← hdl] at AT
   try rw [← hul] at AT
   try rw [← hdl] at LAH
   try rw [← hul] at LAH
   try rw [← hdl] at HP
   try rw [← hul] at HP
   try rw [← hdl]
   try rw [← hul]
   have HDL := Lib.hid hdl
   clear hdl hul
   simp only [tbackM] at HP
   have c0 := AT.out.c0
   have c1 := AT.out.c1
   have c2 := AT.out.c2
   have c3 := AT.out.c3
   have c4 := AT.out.c4
   have c5 := AT.out.c5
   have c6 := AT.out.c6
   have c7 := AT.out.c7
   have c8 := AT.out.c8
   have c9 := AT.out.c9
   have c10 := AT.out.c10
   simp only at c0 c1 c2 c3 c4 c5 c6 c7 c8 c9 c10
   have i0 : (0 : Int) ≤ (j : Int) := by omega
   have i1 : (j : Int) < (len : Int) := by omega
   go_upto_region 5 with (fail)
   clear c0 c1 c2 c3 c4 c5 c6 c7 c8 c9 c10
   clear AT i0 i1
   have kC := Blk.new wr #[.int .i64 r, .int .i64 nn, .slice da dl dc, .int .i64 actor, .int .i64 kind, .int .i64 dst, .int .i64 bucket, .int .i64 mask, .int .i64 gr, .int .i64 gn, .slice ua ul uc] 32
   have ba := (Below.refl wr.heap.size wr).alloc (Nat.le_refl _) (.cells #[.int .i64 r, .int .i64 nn, .slice da dl dc, .int .i64 actor, .int .i64 kind, .int .i64 dst, .int .i64 bucket, .int .i64 mask, .int .i64 gr, .int .i64 gn, .slice ua ul uc] 32)
   obtain ⟨pC, hpC⟩ : ∃ p, p = wr.heap.size := ⟨_, rfl⟩
   rw [← hpC] at kC
   try rw [← hpC]
   obtain ⟨w2, hW⟩ : ∃ W, W = wr.alloc (.cells #[.int .i64 r, .int .i64 nn, .slice da dl dc, .int .i64 actor, .int .i64 kind, .int .i64 dst, .int .i64 bucket, .int .i64 mask, .int .i64 gr, .int .i64 gn, .slice ua ul uc] 32) := ⟨_, rfl⟩
   rw [← hW] at ba kC ⊢
   have KC := Lib.hid kC
   have GC := Lib.hid (show wr.heap.size ≤ pC by omega)
   have NEE_C := Lib.hid (show pE ≠ pC by have := KE.out.lt; omega)
   have NEG_C := Lib.hid (show pG ≠ pC by have := KG.out.lt; omega)
   replace BW := Lib.hid (BW.out.trans ((ba).mono BW.out.size))
   replace HT := Lib.hid (HT.out.below (ba))
   replace KE := Lib.hid (KE.out.below (ba) KE.out.lt)
   replace KG := Lib.hid (KG.out.below (ba) KG.out.lt)
   clear ba hW kC hpC
   by_cases g1 : kind = 2
   rotate_left
   ·have e1 : (kind == 2) = false := by simp [g1]
    have HPF := Lib.hid (show P = false by rw [HP.out]; simp [g1])
    clear g1
    have kc0 := KC.out.cell 0
    have kc1 := KC.out.cell 1
    have kc2 := KC.out.cell 2
    have kc3 := KC.out.cell 3
    have kc4 := KC.out.cell 4
    have kc5 := KC.out.cell 5
    have kc6 := KC.out.cell 6
    have kc7 := KC.out.cell 7
    have kc8 := KC.out.cell 8
    have kc9 := KC.out.cell 9
    have kc10 := KC.out.cell 10
    simp only [List.getElem?_cons_zero, List.getElem?_cons_succ] at kc0 kc1 kc2 kc3 kc4 kc5 kc6 kc7 kc8 kc9 kc10
    have kg0 := KG.out.cell 0
    have kg1 := KG.out.cell 1
    have kg2 := KG.out.cell 2
    have kg3 := KG.out.cell 3
    have kg4 := KG.out.cell 4
    have kg5 := KG.out.cell 5
    have kg6 := KG.out.cell 6
    have kg7 := KG.out.cell 7
    have kg8 := KG.out.cell 8
    have kg9 := KG.out.cell 9
    have kg10 := KG.out.cell 10
    simp only [List.getElem?_cons_zero, List.getElem?_cons_succ] at kg0 kg1 kg2 kg3 kg4 kg5 kg6 kg7 kg8 kg9 kg10
    have HSS := Lib.hid (show R = ((ts.map ActT.a).drop (j + 1)).any (fun r => tbackM ⟨pr, pnn, pdep, pactor, pkind, pdst, pbucket, pmask, pgr, pgn, pups⟩ r && !laterM r er en) by rw [HZZ.out, HPF.out]; simp)
    go_wp2_with fail
    go_roundw
    case rel => exact ⟨j + 1, by omega, by go_num, HSS.out, KE.out, KG.out, BW.out⟩
    case measure => simp [intOf]; omega
   have e1 : (kind == 2) = true := by simp [g1]
   have Q1 := Lib.hid g1
   clear g1
   by_cases g2 : gr = pr
   rotate_left
   ·have e2 : (gr == pr) = false := by simp [g2]
    have HPF := Lib.hid (show P = false by rw [HP.out]; simp [g2])
    clear g2
    have kc0 := KC.out.cell 0
    have kc1 := KC.out.cell 1
    have kc2 := KC.out.cell 2
    have kc3 := KC.out.cell 3
    have kc4 := KC.out.cell 4
    have kc5 := KC.out.cell 5
    have kc6 := KC.out.cell 6
    have kc7 := KC.out.cell 7
    have kc8 := KC.out.cell 8
    have kc9 := KC.out.cell 9
    have kc10 := KC.out.cell 10
    simp only [List.getElem?_cons_zero, List.getElem?_cons_succ] at kc0 kc1 kc2 kc3 kc4 kc5 kc6 kc7 kc8 kc9 kc10
    have kg0 := KG.out.cell 0
    have kg1 := KG.out.cell 1
    have kg2 := KG.out.cell 2
    have kg3 := KG.out.cell 3
    have kg4 := KG.out.cell 4
    have kg5 := KG.out.cell 5
    have kg6 := KG.out.cell 6
    have kg7 := KG.out.cell 7
    have kg8 := KG.out.cell 8
    have kg9 := KG.out.cell 9
    have kg10 := KG.out.cell 10
    simp only [List.getElem?_cons_zero, List.getElem?_cons_succ] at kg0 kg1 kg2 kg3 kg4 kg5 kg6 kg7 kg8 kg9 kg10
    have HSS := Lib.hid (show R = ((ts.map ActT.a).drop (j + 1)).any (fun r => tbackM ⟨pr, pnn, pdep, pactor, pkind, pdst, pbucket, pmask, pgr, pgn, pups⟩ r && !laterM r er en) by rw [HZZ.out, HPF.out]; simp)
    go_wp2_with fail
    go_roundw
    case rel => exact ⟨j + 1, by omega, by go_num, HSS.out, KE.out, KG.out, BW.out⟩
    case measure => simp [intOf]; omega
   have e2 : (gr == pr) = true := by simp [g2]
   have Q2 := Lib.hid g2
   clear g2
   by_cases g3 : gn = pnn
   rotate_left
   ·have e3 : (gn == pnn) = false := by simp [g3]
    have HPF := Lib.hid (show P = false by rw [HP.out]; simp [g3])
    clear g3
    have kc0 := KC.out.cell 0
    have kc1 := KC.out.cell 1
    have kc2 := KC.out.cell 2
    have kc3 := KC.out.cell 3
    have kc4 := KC.out.cell 4
    have kc5 := KC.out.cell 5
    have kc6 := KC.out.cell 6
    have kc7 := KC.out.cell 7
    have kc8 := KC.out.cell 8
    have kc9 := KC.out.cell 9
    have kc10 := KC.out.cell 10
    simp only [List.getElem?_cons_zero, List.getElem?_cons_succ] at kc0 kc1 kc2 kc3 kc4 kc5 kc6 kc7 kc8 kc9 kc10
    have kg0 := KG.out.cell 0
    have kg1 := KG.out.cell 1
    have kg2 := KG.out.cell 2
    have kg3 := KG.out.cell 3
    have kg4 := KG.out.cell 4
    have kg5 := KG.out.cell 5
    have kg6 := KG.out.cell 6
    have kg7 := KG.out.cell 7
    have kg8 := KG.out.cell 8
    have kg9 := KG.out.cell 9
    have kg10 := KG.out.cell 10
    simp only [List.getElem?_cons_zero, List.getElem?_cons_succ] at kg0 kg1 kg2 kg3 kg4 kg5 kg6 kg7 kg8 kg9 kg10
    have HSS := Lib.hid (show R = ((ts.map ActT.a).drop (j + 1)).any (fun r => tbackM ⟨pr, pnn, pdep, pactor, pkind, pdst, pbucket, pmask, pgr, pgn, pups⟩ r && !laterM r er en) by rw [HZZ.out, HPF.out]; simp)
    go_wp2_with fail
    go_roundw
    case rel => exact ⟨j + 1, by omega, by go_num, HSS.out, KE.out, KG.out, BW.out⟩
    case measure => simp [intOf]; omega
   have e3 : (gn == pnn) = true := by simp [g3]
   have Q3 := Lib.hid g3
   clear g3
   by_cases g4 : actor = 0
   ·have e4 : (actor == 0) = true := by simp [g4]
    have Q4 := Lib.hid g4
    clear g4
    have HPT := Lib.hid (show P = true by rw [HP.out]; simp [Q1.out, Q2.out, Q3.out, Q4.out])
    have kc0 := KC.out.cell 0
    have kc1 := KC.out.cell 1
    have kc2 := KC.out.cell 2
    have kc3 := KC.out.cell 3
    have kc4 := KC.out.cell 4
    have kc5 := KC.out.cell 5
    have kc6 := KC.out.cell 6
    have kc7 := KC.out.cell 7
    have kc8 := KC.out.cell 8
    have kc9 := KC.out.cell 9
    have kc10 := KC.out.cell 10
    simp only [List.getElem?_cons_zero, List.getElem?_cons_succ] at kc0 kc1 kc2 kc3 kc4 kc5 kc6 kc7 kc8 kc9 kc10
    have kg0 := KG.out.cell 0
    have kg1 := KG.out.cell 1
    have kg2 := KG.out.cell 2
    have kg3 := KG.out.cell 3
    have kg4 := KG.out.cell 4
    have kg5 := KG.out.cell 5
    have kg6 := KG.out.cell 6
    have kg7 := KG.out.cell 7
    have kg8 := KG.out.cell 8
    have kg9 := KG.out.cell 9
    have kg10 := KG.out.cell 10
    simp only [List.getElem?_cons_zero, List.getElem?_cons_succ] at kg0 kg1 kg2 kg3 kg4 kg5 kg6 kg7 kg8 kg9 kg10
    have ke0 := KE.out.cell 0
    have ke1 := KE.out.cell 1
    have ke2 := KE.out.cell 2
    simp only [List.getElem?_cons_zero, List.getElem?_cons_succ] at ke0 ke1 ke2
    go_wp2_with fail
    refine (LAH.out _ HT.out).mono ?_
    rintro e w3 ⟨rfl, b⟩
    clear kc0 kc1 kc2 kc3 kc4 kc5 kc6 kc7 kc8 kc9 kc10 kg0 kg1 kg2 kg3 kg4 kg5 kg6 kg7 kg8 kg9 kg10 ke0 ke1 ke2
    replace BW := Lib.hid (BW.out.trans ((b).mono BW.out.size))
    replace HT := Lib.hid (HT.out.below (b))
    replace KE := Lib.hid (KE.out.below (b) KE.out.lt)
    replace KG := Lib.hid (KG.out.below (b) KG.out.lt)
    replace KC := Lib.hid (KC.out.below (b) KC.out.lt)
    clear b
    cases Y
    rotate_left
    ·have HSS := Lib.hid (show R = ((ts.map ActT.a).drop (j + 1)).any (fun r => tbackM ⟨pr, pnn, pdep, pactor, pkind, pdst, pbucket, pmask, pgr, pgn, pups⟩ r && !laterM r er en) by rw [HZZ.out, HPT.out]; simp)
     go_wp2_with fail
     go_roundw
     case rel => exact ⟨j + 1, by omega, by go_num, HSS.out, KE.out, KG.out, BW.out⟩
     case measure => simp [intOf]; omega
    have HSS := Lib.hid (show R = true by rw [HZZ.out, HPT.out]; simp)
    go_wp2_with fail
    go_ret
    exact ⟨ret_bool HSS.out.symm, BW.out⟩
   ·have e4 : (actor == 0) = false := by simp [g4]
    by_cases g5 : actor = pactor
    ·have e5 : (actor == pactor) = true := by simp [g5]
     have Q5 := Lib.hid g5
     clear g5 g4
     have HPT := Lib.hid (show P = true by rw [HP.out]; simp [Q1.out, Q2.out, Q3.out, Q5.out])
     have kc0 := KC.out.cell 0
     have kc1 := KC.out.cell 1
     have kc2 := KC.out.cell 2
     have kc3 := KC.out.cell 3
     have kc4 := KC.out.cell 4
     have kc5 := KC.out.cell 5
     have kc6 := KC.out.cell 6
     have kc7 := KC.out.cell 7
     have kc8 := KC.out.cell 8
     have kc9 := KC.out.cell 9
     have kc10 := KC.out.cell 10
     simp only [List.getElem?_cons_zero, List.getElem?_cons_succ] at kc0 kc1 kc2 kc3 kc4 kc5 kc6 kc7 kc8 kc9 kc10
     have kg0 := KG.out.cell 0
     have kg1 := KG.out.cell 1
     have kg2 := KG.out.cell 2
     have kg3 := KG.out.cell 3
     have kg4 := KG.out.cell 4
     have kg5 := KG.out.cell 5
     have kg6 := KG.out.cell 6
     have kg7 := KG.out.cell 7
     have kg8 := KG.out.cell 8
     have kg9 := KG.out.cell 9
     have kg10 := KG.out.cell 10
     simp only [List.getElem?_cons_zero, List.getElem?_cons_succ] at kg0 kg1 kg2 kg3 kg4 kg5 kg6 kg7 kg8 kg9 kg10
     have ke0 := KE.out.cell 0
     have ke1 := KE.out.cell 1
     have ke2 := KE.out.cell 2
     simp only [List.getElem?_cons_zero, List.getElem?_cons_succ] at ke0 ke1 ke2
     go_wp2_with fail
     refine (LAH.out _ HT.out).mono ?_
     rintro e w3 ⟨rfl, b⟩
     clear kc0 kc1 kc2 kc3 kc4 kc5 kc6 kc7 kc8 kc9 kc10 kg0 kg1 kg2 kg3 kg4 kg5 kg6 kg7 kg8 kg9 kg10 ke0 ke1 ke2
     replace BW := Lib.hid (BW.out.trans ((b).mono BW.out.size))
     replace HT := Lib.hid (HT.out.below (b))
     replace KE := Lib.hid (KE.out.below (b) KE.out.lt)
     replace KG := Lib.hid (KG.out.below (b) KG.out.lt)
     replace KC := Lib.hid (KC.out.below (b) KC.out.lt)
     clear b
     cases Y
     rotate_left
     ·have HSS := Lib.hid (show R = ((ts.map ActT.a).drop (j + 1)).any (fun r => tbackM ⟨pr, pnn, pdep, pactor, pkind, pdst, pbucket, pmask, pgr, pgn, pups⟩ r && !laterM r er en) by rw [HZZ.out, HPT.out]; simp)
      go_wp2_with fail
      go_roundw
      case rel => exact ⟨j + 1, by omega, by go_num, HSS.out, KE.out, KG.out, BW.out⟩
      case measure => simp [intOf]; omega
     have HSS := Lib.hid (show R = true by rw [HZZ.out, HPT.out]; simp)
     go_wp2_with fail
     go_ret
     exact ⟨ret_bool HSS.out.symm, BW.out⟩
    ·have e5 : (actor == pactor) = false := by simp [g5]
     have HPF := Lib.hid (show P = false by rw [HP.out]; simp [g4, g5])
     clear g4 g5
     have kc0 := KC.out.cell 0
     have kc1 := KC.out.cell 1
     have kc2 := KC.out.cell 2
     have kc3 := KC.out.cell 3
     have kc4 := KC.out.cell 4
     have kc5 := KC.out.cell 5
     have kc6 := KC.out.cell 6
     have kc7 := KC.out.cell 7
     have kc8 := KC.out.cell 8
     have kc9 := KC.out.cell 9
     have kc10 := KC.out.cell 10
     simp only [List.getElem?_cons_zero, List.getElem?_cons_succ] at kc0 kc1 kc2 kc3 kc4 kc5 kc6 kc7 kc8 kc9 kc10
     have kg0 := KG.out.cell 0
     have kg1 := KG.out.cell 1
     have kg2 := KG.out.cell 2
     have kg3 := KG.out.cell 3
     have kg4 := KG.out.cell 4
     have kg5 := KG.out.cell 5
     have kg6 := KG.out.cell 6
     have kg7 := KG.out.cell 7
     have kg8 := KG.out.cell 8
     have kg9 := KG.out.cell 9
     have kg10 := KG.out.cell 10
     simp only [List.getElem?_cons_zero, List.getElem?_cons_succ] at kg0 kg1 kg2 kg3 kg4 kg5 kg6 kg7 kg8 kg9 kg10
     have HSS := Lib.hid (show R = ((ts.map ActT.a).drop (j + 1)).any (fun r => tbackM ⟨pr, pnn, pdep, pactor, pkind, pdst, pbucket, pmask, pgr, pgn, pups⟩ r && !laterM r er en) by rw [HZZ.out, HPF.out]; simp)
     go_wp2_with fail
     go_roundw
     case rel => exact ⟨j + 1, by omega, by go_num, HSS.out, KE.out, KG.out, BW.out⟩
     case measure => simp [intOf]; omega
  ·have HSS := Lib.hid (show R = false by rw [hz.out, drop_end (by rw [List.length_map, N1.out]; omega)]; rfl)
   go_wp2_with fail
   go_ret
   exact ⟨ret_bool HSS.out.symm, BW.out⟩
set_option linter.unusedSimpArgs false
theorem Tryz.infoBool : (Tryz.prog.info? 4).map (fun i => (i.zero, i.size, i.bytes)) = some (some (.bool false), 1, 1) := by kernel_rfl
theorem madeB (n : Nat) : madeCells (Value.bool false).cells (n * 1) = (List.replicate n (Value.bool false)).toArray := by
 apply Array.ext
 ·simp [madeCells]
 ·intro i h1 h2
  simp [madeCells, Value.cells, Nat.mod_one]
def HoldsMade (w : World) (l : List ActM) (er en : Int) (xs : List Int) (e : Ending) (w' : World) : Prop :=
 ∃ Q, e = .returned (.slice (some ⟨Q, 0, none⟩) l.length l.length) ∧ Blk w' Q ((holdL l er en xs l.length).map Value.bool) ∧ Below w.heap.size w w'
def outL (l : List ActM) (er en : Int) (xs : List Int) (n k : Nat) : List Bool := holdL l er en xs k ++ List.replicate (n - k) false
theorem outL_length (l : List ActM) (er en : Int) (xs : List Int) {n k : Nat} (h : k ≤ n) : (outL l er en xs n k).length = n := by
 rw [outL, List.length_append, holdL_length, List.length_replicate]; omega
theorem outL_end (l : List ActM) (er en : Int) (xs : List Int) (n : Nat) : outL l er en xs n n = holdL l er en xs n := by simp [outL]
theorem outL_getD (l : List ActM) (er en : Int) (xs : List Int) {n k i : Nat} (hi : i < k) : (outL l er en xs n k).getD i false = (holdL l er en xs k).getD i false := by
 have := holdL_length l er en xs k
 simp [outL, List.getD, List.getElem?_append_left (by omega : i < (holdL l er en xs k).length)]
theorem outL_at (l : List ActM) (er en : Int) (xs : List Int) {n k : Nat} (hk : k < n) : (outL l er en xs n k).getD k false = false := by
 have := holdL_length l er en xs k
 simp only [outL, List.getD, List.getElem?_append_right (by omega : (holdL l er en xs k).length ≤ k), this, Nat.sub_self]
 rw [List.getElem?_replicate]
 split <;> rfl
def flagK (l : List ActM) (er en : Int) (xs : List Int) (k : Nat) : Bool :=
 baseM l er en xs (l.getD k act0) && (decide ((l.getD k act0).actor = 0) || (List.range k).any fun i => (holdL l er en xs k).getD i false && linkM (l.getD k act0) (l.getD i act0))
theorem outL_set (l : List ActM) (er en : Int) (xs : List Int) {n k : Nat} (hk : k < n) : (outL l er en xs n k).set k (flagK l er en xs k) = outL l er en xs n (k + 1) := by
 have hl := holdL_length l er en xs k
 obtain ⟨m, hm⟩ : ∃ m, n - k = m + 1 := ⟨n - k - 1, by omega⟩
 have hm2 : n - (k + 1) = m := by omega
 rw [outL, outL, hm, hm2, List.replicate_succ, holdL]
 have : (holdL l er en xs k ++ false :: List.replicate m false).set k (flagK l er en xs k) = holdL l er en xs k ++ (false :: List.replicate m false).set (k - (holdL l er en xs k).length) (flagK l er en xs k) := by
  rw [List.set_append]
  rw [if_neg (by omega)]
 rw [this, hl, Nat.sub_self, List.set_cons_zero, List.append_assoc]
 rfl
theorem outL_skip (l : List ActM) (er en : Int) (xs : List Int) {n k : Nat} (hk : k < n) (hf : flagK l er en xs k = false) : outL l er en xs n k = outL l er en xs n (k + 1) := by
 rw [← outL_set l er en xs hk, hf]
 have hl := outL_length l er en xs (Nat.le_of_lt hk)
 have h0 := outL_at l er en xs hk
 refine (List.ext_getElem (by simp) fun i h1 h2 => ?_)
 by_cases e : k = i
 ·subst e
  have : (outL l er en xs n k)[k] = (outL l er en xs n k).getD k false := by simp [List.getD, h1]
  rw [List.getElem_set_self, this]
  exact h0
 ·simp [List.getElem_set, e]
theorem set_map_bool (bs : List Bool) (k : Nat) (v : Bool) : (bs.map Value.bool).set k (.bool v) = (bs.set k v).map Value.bool := by
 rw [List.map_set]
theorem cell_bool {w : World} {Q : Nat} {bs : List Bool} (h : Blk w Q (bs.map Value.bool)) {i : Nat} (hi : i < bs.length) : w.cell? ⟨Q, i, none⟩ = some (.bool (bs.getD i false)) := by
 rw [h.cell i]
 simp [List.getD, hi]
theorem set_getD_same (bs : List Bool) (k : Nat) (v : Bool) (h : k < bs.length) : (bs.set k v).getD k false = v := by simp [List.getD, h]
theorem set_getD_other (bs : List Bool) {k i : Nat} (v : Bool) (h : k ≠ i) : (bs.set k v).getD i false = bs.getD i false := by simp [List.getD, h]
theorem set_set (bs : List Bool) (k : Nat) (u v : Bool) : (bs.set k u).set k v = bs.set k v := by simp
set_option maxRecDepth 100000 in
set_option maxHeartbeats 25600000 in
theorem l4holds_some (b off len cap : Nat) (er en : Int) (va : Option Addr) (L vc : Nat) (xs : List Int) (l : List ActM) (ts : List ActT) (w : World) (hll : l = ts.map ActT.a) (h1 : ts.length = len) (hl : len ≤ 60) (hb : b < w.heap.size) (hr : ∀ t ∈ ts, t.Reads w) (hc : ∀ i, i < len → ActAt w b (off + i * 11) (ts.getD i t0))
  (hv : Ints w (.slice va L vc) xs) (hy : ∀ t ∈ ts, 0 ≤ t.a.r ∧ t.a.r < xs.length) (he : ∀ t ∈ ts, er < t.a.dep.length) :
  Calls Tryz.prog 82 #[.slice (some ⟨b, off, none⟩) len cap, .agg #[.int .i64 er, .int .i64 en, .slice va L vc]] w (HoldsMade w l er en xs) := by
 have HLL : l.length = len := by rw [hll, List.length_map]; exact h1
 have BK := Lib.hid (fun (t : ActT) (ht : t ∈ ts) W (hW : Below w.heap.size w W) (h : t.Reads W) => (show Calls Tryz.prog 108 #[.slice (some ⟨b, off, none⟩) len cap, t.val, .agg #[.int .i64 er, .int .i64 en, .slice va L vc]] W fun e w' => e = .returned (.bool (tkbM l er en t.a)) ∧ Below W.heap.size W w' by
  rw [hll]
  exact l4back_some b off len cap er en va L vc ts t W h1 (by omega) (Nat.lt_of_lt_of_le hb hW.size) (fun u hu => (hr u hu).below hW) (fun i hi => (hc i hi).below hW hb) h he))
 have PA := Lib.hid (fun (t : ActT) (ht : t ∈ ts) W (hW : Below w.heap.size w W) (h : t.Reads W) => past_any er en (.slice va L vc) xs t W h (hv.below (B := 0) hW) (hy t ht).1 (hy t ht).2)
 have KNC := Lib.hid (fun (g h : ActT) W (hg : g.Reads W) (hh : h.Reads W) => specKnows_any g.val h.val g.a h.a W hg.is hh.is)
 have N1 := Lib.hid h1
 have HC := Lib.hid hc
 have HRd := Lib.hid hr
 have b00 := Lib.hid hb
 have HGT := Lib.hid (fun j (hj : j < len) => (show l.getD j act0 = (ts.getD j t0).a by rw [hll]; exact getD_map (by omega)))
 unfold HoldsMade
 rw [HLL]
 have hl60 : len ≤ 60 := hl
 have hmk : (Instr.makeSlice 36 (.int .i64 (len : Int)) (.int .i64 (len : Int))).run Tryz.prog = fun W => .ok (.slice (some ⟨W.heap.size, 0, none⟩) len len) (W.alloc (.cells (Array.replicate len (Value.bool false)) 4)) := by
  funext W
  obtain ⟨i0, hi, hz0, hz1, hz2⟩ := info_parts Tryz.infoBool
  have h := run_make (P := Tryz.prog) W 36 4 i0 (.bool false) Tryz.underlying36 hi hz0 .i64 .i64 len len (by omega) (by omega) (by rw [hz2]; omega) (by omega)
  rw [hz1] at h
  simp only [Int.toNat_natCast] at h
  rw [madeB, List.toArray_replicate] at h
  exact h
 have hmk2 := fun W => congrFun hmk W
 clear hmk hll HLL h1 hc hr hv hy he hb hl
 have BW := Lib.hid (Below.refl w.heap.size w)
 go_enter Tryz.func82, Tryz.ntmps82
 have kE := Blk.new w #[.int .i64 er, .int .i64 en, .slice va L vc] 109
 have ba := (Below.refl w.heap.size w).alloc (Nat.le_refl _) (.cells #[.int .i64 er, .int .i64 en, .slice va L vc] 109)
 obtain ⟨pE, hpE⟩ : ∃ p, p = w.heap.size := ⟨_, rfl⟩
 go_upto_region 1 with (fail)
 rw [← hpE] at kE
 try rw [← hpE]
 obtain ⟨w1, hW⟩ : ∃ W, W = w.alloc (.cells #[.int .i64 er, .int .i64 en, .slice va L vc] 109) := ⟨_, rfl⟩
 rw [← hW] at ba kE ⊢
 have KE := Lib.hid kE
 have GE := Lib.hid (show w.heap.size ≤ pE by omega)
 replace BW := Lib.hid (BW.out.trans ((ba).mono BW.out.size))
 clear ba hW kE hpE
 go_upto_region 2 with (fail)
 have ba := (Below.refl w1.heap.size w1).alloc (Nat.le_refl _) (.cells (Array.replicate len (Value.bool false)) 4)
 have kq := Blk.new w1 (Array.replicate len (Value.bool false)) 4
 obtain ⟨pQ, hQ⟩ : ∃ pQ, pQ = w1.heap.size := ⟨_, rfl⟩
 rw [← hQ] at kq ⊢
 have GQ := Lib.hid (show w.heap.size ≤ pQ by rw [hQ]; exact BW.out.size)
 have NEQ := Lib.hid (show pE ≠ pQ by have := KE.out.lt; omega)
 obtain ⟨w2, hw2⟩ : ∃ W, W = w1.alloc (.cells (Array.replicate len (Value.bool false)) 4) := ⟨_, rfl⟩
 rw [← hw2] at ba kq ⊢
 have KQ : Hid (Blk w2 pQ ((outL l er en xs len 0).map Value.bool)) := by
  have : (outL l er en xs len 0).map Value.bool = List.replicate len (Value.bool false) := by simp [outL, holdL]
  show Blk _ _ _
  rw [this]
  simpa using kq
 replace BW := Lib.hid (BW.out.trans ((ba).mono BW.out.size))
 replace KE := Lib.hid (KE.out.below (ba) KE.out.lt)
 clear ba kq hw2 hQ
 go_wp2_with fail
 go_loopw [6] (fun i wr => ∃ k : Nat, k ≤ len ∧ i = .int .i64 k ∧ Hid (Blk wr pQ ((outL l er en xs len k).map Value.bool)) ∧ Hid (Blk wr pE [.int .i64 er, .int .i64 en, .slice va L vc]) ∧ Hid (Below w.heap.size w wr)) (fun i _ => len - (intOf i).toNat)
 case atStart => exact ⟨0, Nat.zero_le _, rfl, KQ.out, KE.out, BW.out⟩
 case round =>
  obtain ⟨k, hk, rfl, hkq, hke, hbel⟩ := hrel
  clear BW KE KQ
  have BW := hbel
  have KE := hke
  have KQ := hkq
  clear hbel hke hkq
  by_cases hlt : k < len
  ·have hlt2 : k < ts.length := by rw [N1.out]; exact hlt
   have hm := getD_mem hlt2
   have AT := Lib.hid ((HC.out k hlt).below BW.out b00.out)
   have HTB := Lib.hid (HRd.out _ hm)
   have PA1 := PA.out _ hm
   have BK1 := BK.out _ hm
   have KN1 := KNC.out (ts.getD k t0)
   have hgt := HGT.out k hlt
   obtain ⟨t, htt⟩ : ∃ t, t = ts.getD k t0 := ⟨_, rfl⟩
   rw [← htt] at AT HTB PA1 BK1 KN1 hgt
   obtain ⟨Y, hY⟩ : ∃ Y, Y = pastM xs t.a := ⟨_, rfl⟩
   obtain ⟨Z, hZ⟩ : ∃ Z, Z = tkbM l er en t.a := ⟨_, rfl⟩
   obtain ⟨FL, hFL⟩ : ∃ x, x = flagK l er en xs k := ⟨_, rfl⟩
   have hfl : FL = (decide (t.a.kind = 1) && Y && !Z && (decide (t.a.actor = 0) || (List.range' 0 k).any fun i => (holdL l er en xs k).getD i false && linkM t.a (l.getD i act0))) := by
    rw [hFL, flagK, baseM, hgt, ← hY, ← hZ, List.range_eq_range']
   rw [← hY] at PA1
   rw [← hZ] at BK1
   have HFL := Lib.hid hfl
   have HFK := Lib.hid hFL
   have PAH := Lib.hid PA1
   have BKH := Lib.hid BK1
   have KNH := Lib.hid KN1
   clear PA1 BK1 KN1 htt hm hY hZ hfl hFL hgt
   obtain ⟨⟨r, nn, dep, actor, kind, dst, bucket, mask, gr, gn, ups⟩, vd, vs⟩ := t
   have hsd := ints_len HTB.out.1
   have hsu := ups_len HTB.out.2
   simp only at hsd hsu
   obtain ⟨da, dc, rfl⟩ := hsd
   obtain ⟨ua, uc, rfl⟩ := hsu
   try simp only [ActT.val] at PAH BKH KNH HFL ⊢
   obtain ⟨dl, hdl⟩ : ∃ x, x = dep.length := ⟨_, rfl⟩
   obtain ⟨ul, hul⟩ : ∃ x, x = ups.length := ⟨_, rfl⟩
   try rw [← hdl] at HTB
   try rw [← hul] at HTB
   try rw [← hdl] at AT
   try rw [← hul] at AT
   try rw [← hdl] at PAH
   try rw [← hul] at PAH
   try rw [← hdl] at BKH
   try rw [← hul] at BKH
   try rw [← hdl] at KNH
   try rw [← hul] at KNH
   try rw [← hdl] at HFL
   try rw [← hul] at HFL
   try rw [← hdl]
   try rw [← hul]
   have HDL := Lib.hid hdl
   clear hdl hul
   try simp only at HFL
   have c0 := AT.out.c0
   have c1 := AT.out.c1
   have c2 := AT.out.c2
   have c3 := AT.out.c3
   have c4 := AT.out.c4
   have c5 := AT.out.c5
   have c6 := AT.out.c6
   have c7 := AT.out.c7
   have c8 := AT.out.c8
   have c9 := AT.out.c9
   have c10 := AT.out.c10
   simp only at c0 c1 c2 c3 c4 c5 c6 c7 c8 c9 c10
   have i0 : (0 : Int) ≤ (k : Int) := by omega
   have i1 : (k : Int) < (len : Int) := by omega
   go_upto_region 6 with (fail)
   clear c0 c1 c2 c3 c4 c5 c6 c7 c8 c9 c10
   clear AT i0 i1
   skip
   have kG := Blk.new wr #[.int .i64 r, .int .i64 nn, .slice da dl dc, .int .i64 actor, .int .i64 kind, .int .i64 dst, .int .i64 bucket, .int .i64 mask, .int .i64 gr, .int .i64 gn, .slice ua ul uc] 32
   have ba := (Below.refl wr.heap.size wr).alloc (Nat.le_refl _) (.cells #[.int .i64 r, .int .i64 nn, .slice da dl dc, .int .i64 actor, .int .i64 kind, .int .i64 dst, .int .i64 bucket, .int .i64 mask, .int .i64 gr, .int .i64 gn, .slice ua ul uc] 32)
   obtain ⟨pG, hpG⟩ : ∃ p, p = wr.heap.size := ⟨_, rfl⟩
   rw [← hpG] at kG
   try rw [← hpG]
   obtain ⟨w2, hW⟩ : ∃ W, W = wr.alloc (.cells #[.int .i64 r, .int .i64 nn, .slice da dl dc, .int .i64 actor, .int .i64 kind, .int .i64 dst, .int .i64 bucket, .int .i64 mask, .int .i64 gr, .int .i64 gn, .slice ua ul uc] 32) := ⟨_, rfl⟩
   rw [← hW] at ba kG ⊢
   have KG := Lib.hid kG
   have GG := Lib.hid (show wr.heap.size ≤ pG by omega)
   have NEE_G := Lib.hid (show pE ≠ pG by have := KE.out.lt; omega)
   have NEQ_G := Lib.hid (show pQ ≠ pG by have := KQ.out.lt; omega)
   replace BW := Lib.hid (BW.out.trans ((ba).mono BW.out.size))
   replace KE := Lib.hid (KE.out.below (ba) KE.out.lt)
   replace KQ := Lib.hid (KQ.out.below (ba) KQ.out.lt)
   clear ba hW kG hpG
   by_cases g1 : kind = 1
   rotate_left
   ·have e1 : (kind == 1) = false := by simp [g1]
    have e2 : (kind != 1) = true := by simp [g1]
    have G1 := Lib.hid g1
    clear g1
    have kg0 := KG.out.cell 0
    have kg1 := KG.out.cell 1
    have kg2 := KG.out.cell 2
    have kg3 := KG.out.cell 3
    have kg4 := KG.out.cell 4
    have kg5 := KG.out.cell 5
    have kg6 := KG.out.cell 6
    have kg7 := KG.out.cell 7
    have kg8 := KG.out.cell 8
    have kg9 := KG.out.cell 9
    have kg10 := KG.out.cell 10
    simp only [List.getElem?_cons_zero, List.getElem?_cons_succ] at kg0 kg1 kg2 kg3 kg4 kg5 kg6 kg7 kg8 kg9 kg10
    have HF := Lib.hid (show FL = false by rw [HFL.out]; simp [G1.out])
    have KQ2 : Hid (Blk w2 pQ ((outL l er en xs len (k + 1)).map Value.bool)) := Lib.hid (by rw [← outL_skip l er en xs hlt (by rw [← HFK.out]; exact HF.out)]; exact KQ.out)
    go_wp2_with fail
    go_roundw
    case rel => exact ⟨k + 1, by omega, by go_num, KQ2.out, KE.out, BW.out⟩
    case measure => simp [intOf]; omega
   have e1 : (kind == 1) = true := by simp [g1]
   have e2 : (kind != 1) = false := by simp [g1]
   have G1 := Lib.hid g1
   clear g1
   have kg0 := KG.out.cell 0
   have kg1 := KG.out.cell 1
   have kg2 := KG.out.cell 2
   have kg3 := KG.out.cell 3
   have kg4 := KG.out.cell 4
   have kg5 := KG.out.cell 5
   have kg6 := KG.out.cell 6
   have kg7 := KG.out.cell 7
   have kg8 := KG.out.cell 8
   have kg9 := KG.out.cell 9
   have kg10 := KG.out.cell 10
   simp only [List.getElem?_cons_zero, List.getElem?_cons_succ] at kg0 kg1 kg2 kg3 kg4 kg5 kg6 kg7 kg8 kg9 kg10
   have ke0 := KE.out.cell 0
   have ke1 := KE.out.cell 1
   have ke2 := KE.out.cell 2
   simp only [List.getElem?_cons_zero, List.getElem?_cons_succ] at ke0 ke1 ke2
   go_wp2_with fail
   refine (PAH.out _ BW.out (HTB.out.below BW.out)).mono ?_
   rintro e w3 ⟨rfl, b⟩
   clear kg0 kg1 kg2 kg3 kg4 kg5 kg6 kg7 kg8 kg9 kg10 ke0 ke1 ke2
   replace BW := Lib.hid (BW.out.trans ((b).mono BW.out.size))
   replace KE := Lib.hid (KE.out.below (b) KE.out.lt)
   replace KQ := Lib.hid (KQ.out.below (b) KQ.out.lt)
   replace KG := Lib.hid (KG.out.below (b) KG.out.lt)
   clear b
   cases Y
   ·have HF := Lib.hid (show FL = false by rw [HFL.out]; simp)
    have KQ2 : Hid (Blk w3 pQ ((outL l er en xs len (k + 1)).map Value.bool)) := Lib.hid (by rw [← outL_skip l er en xs hlt (by rw [← HFK.out]; exact HF.out)]; exact KQ.out)
    go_wp2_with fail
    go_roundw
    case rel => exact ⟨k + 1, by omega, by go_num, KQ2.out, KE.out, BW.out⟩
    case measure => simp [intOf]; omega
   have kg0 := KG.out.cell 0
   have kg1 := KG.out.cell 1
   have kg2 := KG.out.cell 2
   have kg3 := KG.out.cell 3
   have kg4 := KG.out.cell 4
   have kg5 := KG.out.cell 5
   have kg6 := KG.out.cell 6
   have kg7 := KG.out.cell 7
   have kg8 := KG.out.cell 8
   have kg9 := KG.out.cell 9
   have kg10 := KG.out.cell 10
   simp only [List.getElem?_cons_zero, List.getElem?_cons_succ] at kg0 kg1 kg2 kg3 kg4 kg5 kg6 kg7 kg8 kg9 kg10
   have ke0 := KE.out.cell 0
   have ke1 := KE.out.cell 1
   have ke2 := KE.out.cell 2
   simp only [List.getElem?_cons_zero, List.getElem?_cons_succ] at ke0 ke1 ke2
   go_wp2_with fail
   refine (BKH.out _ BW.out (HTB.out.below BW.out)).mono ?_
   rintro e w4 ⟨rfl, b⟩
   clear kg0 kg1 kg2 kg3 kg4 kg5 kg6 kg7 kg8 kg9 kg10 ke0 ke1 ke2
   replace BW := Lib.hid (BW.out.trans ((b).mono BW.out.size))
   replace KE := Lib.hid (KE.out.below (b) KE.out.lt)
   replace KQ := Lib.hid (KQ.out.below (b) KQ.out.lt)
   replace KG := Lib.hid (KG.out.below (b) KG.out.lt)
   clear b
   cases Z
   rotate_left
   ·have HF := Lib.hid (show FL = false by rw [HFL.out]; simp)
    have KQ2 : Hid (Blk w4 pQ ((outL l er en xs len (k + 1)).map Value.bool)) := Lib.hid (by rw [← outL_skip l er en xs hlt (by rw [← HFK.out]; exact HF.out)]; exact KQ.out)
    go_wp2_with fail
    go_roundw
    case rel => exact ⟨k + 1, by omega, by go_num, KQ2.out, KE.out, BW.out⟩
    case measure => simp [intOf]; omega
   have HF2 := Lib.hid (show FL = (decide (actor = 0) || (List.range' 0 k).any fun i => (holdL l er en xs k).getD i false && linkM ⟨r, nn, dep, actor, kind, dst, bucket, mask, gr, gn, ups⟩ (l.getD i act0)) by rw [HFL.out]; simp [G1.out])
   obtain ⟨o0, ho0⟩ : ∃ x, x = (actor == 0) := ⟨_, rfl⟩
   have HO0 := Lib.hid ho0
   have hkl := outL_length l er en xs (Nat.le_of_lt hlt)
   have fq := KQ.out.free
   have cq := cell_bool KQ.out (i := k) (by omega)
   rw [outL_at l er en xs hlt] at cq
   have i0 : (0 : Int) ≤ (k : Int) := by omega
   have i1 : (k : Int) < (len : Int) := by omega
   have kg0 := KG.out.cell 0
   have kg1 := KG.out.cell 1
   have kg2 := KG.out.cell 2
   have kg3 := KG.out.cell 3
   have kg4 := KG.out.cell 4
   have kg5 := KG.out.cell 5
   have kg6 := KG.out.cell 6
   have kg7 := KG.out.cell 7
   have kg8 := KG.out.cell 8
   have kg9 := KG.out.cell 9
   have kg10 := KG.out.cell 10
   simp only [List.getElem?_cons_zero, List.getElem?_cons_succ] at kg0 kg1 kg2 kg3 kg4 kg5 kg6 kg7 kg8 kg9 kg10
   go_upto_region 8 with (fail)
   clear kg0 kg1 kg2 kg3 kg4 kg5 kg6 kg7 kg8 kg9 kg10
   rw [← ho0]
   clear ho0 cq fq
   have bs := BW.out.setCell (p := ⟨pQ, k, none⟩) GQ.out (.bool o0)
   have kq := KQ.out.set (j := k) (by simp; omega) (.bool o0)
   rw [set_map_bool] at kq
   have ke := KE.out.other (p := ⟨pQ, k, none⟩) (fun e => NEQ.out e.symm) (.bool o0)
   have kg := KG.out.other (p := ⟨pQ, k, none⟩) NEQ_G.out (.bool o0)
   obtain ⟨w5, hw5⟩ : ∃ W, W = w4.setCell ⟨pQ, k, none⟩ (.bool o0) := ⟨_, rfl⟩
   rw [← hw5] at bs kq ke kg ⊢
   clear hw5
   have KQ := Lib.hid kq
   have KE := Lib.hid ke
   have KG := Lib.hid kg
   have BW := Lib.hid bs
   clear bs kq ke kg i0 i1
   go_wp2_with fail
   go_loopw [8] (fun i wr => ∃ (j : Nat) (ov : Bool), j ≤ k ∧ i = .int .i64 j ∧ Hid (FL = (ov || (List.range' j (k - j)).any (fun i => (holdL l er en xs k).getD i false && linkM ⟨r, nn, dep, actor, kind, dst, bucket, mask, gr, gn, ups⟩ (l.getD i act0)))) ∧ Hid (Blk wr pQ (((outL l er en xs len k).set k ov).map Value.bool)) ∧ Hid (Blk wr pE [.int .i64 er, .int .i64 en, .slice va L vc]) ∧ Hid (Blk wr pG [.int .i64 r, .int .i64 nn, .slice da dl dc, .int .i64 actor, .int .i64 kind, .int .i64 dst, .int .i64 bucket, .int .i64 mask, .int .i64 gr, .int .i64 gn, .slice ua ul uc]) ∧ Hid (Below w.heap.size w wr)) (fun i _ => k - (intOf i).toNat)
   case atStart => exact ⟨0, o0, Nat.zero_le _, rfl, (by show _ = _; rw [HF2.out, HO0.out, Nat.sub_zero]; by_cases h : actor = 0 <;> simp [h]), KQ.out, KE.out, KG.out, BW.out⟩
   case round =>
    obtain ⟨j, ov, hj, rfl, hz, hkq, hke, hkg, hbel⟩ := hrel
    clear BW KE KQ KG
    have BW := hbel
    have KE := hke
    have KG := hkg
    have KQ := hkq
    clear hbel hke hkg hkq
    have hkl := outL_length l er en xs (Nat.le_of_lt hlt)
    have cq := cell_bool KQ.out (i := k) (by simp; omega)
    rw [set_getD_same _ _ _ (by omega)] at cq
    have i0 : (0 : Int) ≤ (k : Int) := by omega
    have i1 : (k : Int) < (len : Int) := by omega
    by_cases hjk : j < k
    ·have d1 : decide ((j : Int) < (k : Int)) = true := by simp; omega
     cases ov
     rotate_left
     ·have HE := Lib.hid (show FL = true by rw [hz.out]; simp)
      have KQ2 : Hid (Blk wr pQ ((outL l er en xs len (k + 1)).map Value.bool)) := Lib.hid (by rw [← outL_set l er en xs hlt, ← HFK.out, HE.out]; exact KQ.out)
      go_wp2_with fail
      go_roundw
      case rel => exact ⟨k + 1, by omega, by go_num, KQ2.out, KE.out, BW.out⟩
      case measure => simp [intOf]; omega
     have hjl : j < len := by omega
     have hjl2 : j < ts.length := by rw [N1.out]; exact hjl
     have hm := getD_mem hjl2
     have AT := Lib.hid ((HC.out j hjl).below BW.out b00.out)
     have HDB := Lib.hid (HRd.out _ hm)
     have KN2 := KNH.out (ts.getD j t0)
     have hgt := HGT.out j hjl
     obtain ⟨d, htt⟩ : ∃ d, d = ts.getD j t0 := ⟨_, rfl⟩
     rw [← htt] at AT HDB KN2 hgt
     obtain ⟨P, hP⟩ : ∃ P, P = (holdL l er en xs k).getD j false := ⟨_, rfl⟩
     obtain ⟨U, hU⟩ : ∃ U, U = knowsM ⟨r, nn, dep, actor, kind, dst, bucket, mask, gr, gn, ups⟩ d.a := ⟨_, rfl⟩
     have cj := cell_bool KQ.out (i := j) (by simp; omega)
     rw [set_getD_other _ _ (by omega), outL_getD l er en xs hjk, ← hP] at cj
     have hzz := hz.out
     rw [show k - j = (k - (j + 1)) + 1 by omega] at hzz
     simp only [List.range'_succ, List.any_cons] at hzz
     rw [← hP, hgt, linkM, ← hU, Bool.false_or] at hzz
     rw [← hU] at KN2
     have HZZ := Lib.hid hzz
     have KN3 := Lib.hid KN2
     have CQ := Lib.hid cq
     have CJ := Lib.hid cj
     have HPJ := Lib.hid hP.symm
     clear hzz KN2 htt hm hP hU hz hgt cq cj
     obtain ⟨⟨dr, dnn, ddep, dactor, dkind, ddst, dbucket, dmask, dgr, dgn, dups⟩, dvd, dvs⟩ := d
     have dhsd := ints_len HDB.out.1
     have dhsu := ups_len HDB.out.2
     simp only at dhsd dhsu
     obtain ⟨dda, ddc, rfl⟩ := dhsd
     obtain ⟨dua, duc, rfl⟩ := dhsu
     try simp only [ActT.val] at KN3 HZZ ⊢
     obtain ⟨ddl, dhdl⟩ : ∃ x, x = ddep.length := ⟨_, rfl⟩
     obtain ⟨dul, dhul⟩ : ∃ x, x = dups.length := ⟨_, rfl⟩
     try rw [← dhdl] at HDB
     try rw [← dhul] at HDB
     try rw [← dhdl] at AT
     try rw [← dhul] at AT
     try rw [← dhdl] at KN3
     try rw [← dhul] at KN3
     try rw [← dhdl] at HZZ
     try rw [← dhul] at HZZ
     try rw [← dhdl]
     try rw [← dhul]
     have dHDL := Lib.hid dhdl
     clear dhdl dhul
     try simp only at HZZ
     obtain ⟨m8, hm8⟩ : ∃ x, x = bits .and .i64 dmask 8 := ⟨_, rfl⟩
     obtain ⟨mg, hmg⟩ : ∃ x, x = bits .and .i64 dmask mask := ⟨_, rfl⟩
     rw [handS, ← hm8, ← hmg] at HZZ
     have HM8 := Lib.hid hm8
     have HMG := Lib.hid hmg
     clear hm8 hmg
     have c0 := AT.out.c0
     have c1 := AT.out.c1
     have c2 := AT.out.c2
     have c3 := AT.out.c3
     have c4 := AT.out.c4
     have c5 := AT.out.c5
     have c6 := AT.out.c6
     have c7 := AT.out.c7
     have c8 := AT.out.c8
     have c9 := AT.out.c9
     have c10 := AT.out.c10
     simp only at c0 c1 c2 c3 c4 c5 c6 c7 c8 c9 c10
     have j0 : (0 : Int) ≤ (j : Int) := by omega
     have j1 : (j : Int) < (len : Int) := by omega
     have cq := CQ.out
     go_upto_region 12 with (fail)
     clear c0 c1 c2 c3 c4 c5 c6 c7 c8 c9 c10
     clear AT cq
     have kD := Blk.new wr #[.int .i64 dr, .int .i64 dnn, .slice dda ddl ddc, .int .i64 dactor, .int .i64 dkind, .int .i64 ddst, .int .i64 dbucket, .int .i64 dmask, .int .i64 dgr, .int .i64 dgn, .slice dua dul duc] 32
     have ba := (Below.refl wr.heap.size wr).alloc (Nat.le_refl _) (.cells #[.int .i64 dr, .int .i64 dnn, .slice dda ddl ddc, .int .i64 dactor, .int .i64 dkind, .int .i64 ddst, .int .i64 dbucket, .int .i64 dmask, .int .i64 dgr, .int .i64 dgn, .slice dua dul duc] 32)
     obtain ⟨pD, hpD⟩ : ∃ p, p = wr.heap.size := ⟨_, rfl⟩
     rw [← hpD] at kD
     try rw [← hpD]
     obtain ⟨w6, hW⟩ : ∃ W, W = wr.alloc (.cells #[.int .i64 dr, .int .i64 dnn, .slice dda ddl ddc, .int .i64 dactor, .int .i64 dkind, .int .i64 ddst, .int .i64 dbucket, .int .i64 dmask, .int .i64 dgr, .int .i64 dgn, .slice dua dul duc] 32) := ⟨_, rfl⟩
     rw [← hW] at ba kD ⊢
     have KD := Lib.hid kD
     have GD := Lib.hid (show wr.heap.size ≤ pD by omega)
     have NEE_D := Lib.hid (show pE ≠ pD by have := KE.out.lt; omega)
     have NEQ_D := Lib.hid (show pQ ≠ pD by have := KQ.out.lt; omega)
     have NEG_D := Lib.hid (show pG ≠ pD by have := KG.out.lt; omega)
     replace BW := Lib.hid (BW.out.trans ((ba).mono BW.out.size))
     replace KE := Lib.hid (KE.out.below (ba) KE.out.lt)
     replace KQ := Lib.hid (KQ.out.below (ba) KQ.out.lt)
     replace KG := Lib.hid (KG.out.below (ba) KG.out.lt)
     clear ba hW kD hpD
     skip
     cases P
     ·have cj := cell_bool KQ.out (i := j) (by simp; omega)
      rw [set_getD_other _ _ (by omega), outL_getD l er en xs hjk, HPJ.out] at cj
      have cq := cell_bool KQ.out (i := k) (by simp; omega)
      rw [set_getD_same _ _ _ (by omega)] at cq
      have fq := KQ.out.free
      have kd0 := KD.out.cell 0
      have kd1 := KD.out.cell 1
      have kd2 := KD.out.cell 2
      have kd3 := KD.out.cell 3
      have kd4 := KD.out.cell 4
      have kd5 := KD.out.cell 5
      have kd6 := KD.out.cell 6
      have kd7 := KD.out.cell 7
      have kd8 := KD.out.cell 8
      have kd9 := KD.out.cell 9
      have kd10 := KD.out.cell 10
      simp only [List.getElem?_cons_zero, List.getElem?_cons_succ] at kd0 kd1 kd2 kd3 kd4 kd5 kd6 kd7 kd8 kd9 kd10
      have HSS := Lib.hid (show FL = (false || (List.range' (j + 1) (k - (j + 1))).any (fun i => (holdL l er en xs k).getD i false && linkM ⟨r, nn, dep, actor, kind, dst, bucket, mask, gr, gn, ups⟩ (l.getD i act0))) by rw [HZZ.out]; simp)
      have BW9 := Lib.hid (BW.out.setCell (p := ⟨pQ, k, none⟩) GQ.out (.bool false))
      have KQ9 : Hid (Blk (w6.setCell ⟨pQ, k, none⟩ (.bool false)) pQ (((outL l er en xs len k).set k false).map Value.bool)) := Lib.hid (by have := KQ.out.set (j := k) (by simp; omega) (.bool false); rw [set_map_bool, set_set] at this; exact this)
      have KE9 := Lib.hid (KE.out.other (p := ⟨pQ, k, none⟩) (fun e => NEQ.out e.symm) (.bool false))
      have KG9 := Lib.hid (KG.out.other (p := ⟨pQ, k, none⟩) NEQ_G.out (.bool false))
      go_wp2_with fail
      go_roundw
      case rel => exact ⟨j + 1, false, by omega, by go_num, HSS.out, KQ9.out, KE9.out, KG9.out, BW9.out⟩
      case measure => simp [intOf]; omega
     have cj := cell_bool KQ.out (i := j) (by simp; omega)
     rw [set_getD_other _ _ (by omega), outL_getD l er en xs hjk, HPJ.out] at cj
     have cq := cell_bool KQ.out (i := k) (by simp; omega)
     rw [set_getD_same _ _ _ (by omega)] at cq
     have fq := KQ.out.free
     have kd0 := KD.out.cell 0
     have kd1 := KD.out.cell 1
     have kd2 := KD.out.cell 2
     have kd3 := KD.out.cell 3
     have kd4 := KD.out.cell 4
     have kd5 := KD.out.cell 5
     have kd6 := KD.out.cell 6
     have kd7 := KD.out.cell 7
     have kd8 := KD.out.cell 8
     have kd9 := KD.out.cell 9
     have kd10 := KD.out.cell 10
     simp only [List.getElem?_cons_zero, List.getElem?_cons_succ] at kd0 kd1 kd2 kd3 kd4 kd5 kd6 kd7 kd8 kd9 kd10
     have kg0 := KG.out.cell 0
     have kg1 := KG.out.cell 1
     have kg2 := KG.out.cell 2
     have kg3 := KG.out.cell 3
     have kg4 := KG.out.cell 4
     have kg5 := KG.out.cell 5
     have kg6 := KG.out.cell 6
     have kg7 := KG.out.cell 7
     have kg8 := KG.out.cell 8
     have kg9 := KG.out.cell 9
     have kg10 := KG.out.cell 10
     simp only [List.getElem?_cons_zero, List.getElem?_cons_succ] at kg0 kg1 kg2 kg3 kg4 kg5 kg6 kg7 kg8 kg9 kg10
     go_wp2_with fail
     clear cj cq fq
     refine (KN3.out _ (HTB.out.below BW.out) (HDB.out.below BW.out)).mono ?_
     rintro e w7 ⟨rfl, b⟩
     clear kd0 kd1 kd2 kd3 kd4 kd5 kd6 kd7 kd8 kd9 kd10 kg0 kg1 kg2 kg3 kg4 kg5 kg6 kg7 kg8 kg9 kg10
     replace BW := Lib.hid (BW.out.trans ((b).mono BW.out.size))
     replace KE := Lib.hid (KE.out.below (b) KE.out.lt)
     replace KQ := Lib.hid (KQ.out.below (b) KQ.out.lt)
     replace KG := Lib.hid (KG.out.below (b) KG.out.lt)
     replace KD := Lib.hid (KD.out.below (b) KD.out.lt)
     clear b
     cases U
     ·have cj := cell_bool KQ.out (i := j) (by simp; omega)
      rw [set_getD_other _ _ (by omega), outL_getD l er en xs hjk, HPJ.out] at cj
      have cq := cell_bool KQ.out (i := k) (by simp; omega)
      rw [set_getD_same _ _ _ (by omega)] at cq
      have fq := KQ.out.free
      have kd0 := KD.out.cell 0
      have kd1 := KD.out.cell 1
      have kd2 := KD.out.cell 2
      have kd3 := KD.out.cell 3
      have kd4 := KD.out.cell 4
      have kd5 := KD.out.cell 5
      have kd6 := KD.out.cell 6
      have kd7 := KD.out.cell 7
      have kd8 := KD.out.cell 8
      have kd9 := KD.out.cell 9
      have kd10 := KD.out.cell 10
      simp only [List.getElem?_cons_zero, List.getElem?_cons_succ] at kd0 kd1 kd2 kd3 kd4 kd5 kd6 kd7 kd8 kd9 kd10
      have HSS := Lib.hid (show FL = (false || (List.range' (j + 1) (k - (j + 1))).any (fun i => (holdL l er en xs k).getD i false && linkM ⟨r, nn, dep, actor, kind, dst, bucket, mask, gr, gn, ups⟩ (l.getD i act0))) by rw [HZZ.out]; simp)
      have BW9 := Lib.hid (BW.out.setCell (p := ⟨pQ, k, none⟩) GQ.out (.bool false))
      have KQ9 : Hid (Blk (w7.setCell ⟨pQ, k, none⟩ (.bool false)) pQ (((outL l er en xs len k).set k false).map Value.bool)) := Lib.hid (by have := KQ.out.set (j := k) (by simp; omega) (.bool false); rw [set_map_bool, set_set] at this; exact this)
      have KE9 := Lib.hid (KE.out.other (p := ⟨pQ, k, none⟩) (fun e => NEQ.out e.symm) (.bool false))
      have KG9 := Lib.hid (KG.out.other (p := ⟨pQ, k, none⟩) NEQ_G.out (.bool false))
      go_wp2_with fail
      go_roundw
      case rel => exact ⟨j + 1, false, by omega, by go_num, HSS.out, KQ9.out, KE9.out, KG9.out, BW9.out⟩
      case measure => simp [intOf]; omega
     by_cases g4 : ddst = actor
     rotate_left
     ·have a4 : (ddst == actor) = false := by simp [g4]
      have n4 : (ddst != actor) = true := by simp [g4]
      have Q4 := Lib.hid g4
      clear g4
      have cj := cell_bool KQ.out (i := j) (by simp; omega)
      rw [set_getD_other _ _ (by omega), outL_getD l er en xs hjk, HPJ.out] at cj
      have cq := cell_bool KQ.out (i := k) (by simp; omega)
      rw [set_getD_same _ _ _ (by omega)] at cq
      have fq := KQ.out.free
      have kd0 := KD.out.cell 0
      have kd1 := KD.out.cell 1
      have kd2 := KD.out.cell 2
      have kd3 := KD.out.cell 3
      have kd4 := KD.out.cell 4
      have kd5 := KD.out.cell 5
      have kd6 := KD.out.cell 6
      have kd7 := KD.out.cell 7
      have kd8 := KD.out.cell 8
      have kd9 := KD.out.cell 9
      have kd10 := KD.out.cell 10
      simp only [List.getElem?_cons_zero, List.getElem?_cons_succ] at kd0 kd1 kd2 kd3 kd4 kd5 kd6 kd7 kd8 kd9 kd10
      have kg0 := KG.out.cell 0
      have kg1 := KG.out.cell 1
      have kg2 := KG.out.cell 2
      have kg3 := KG.out.cell 3
      have kg4 := KG.out.cell 4
      have kg5 := KG.out.cell 5
      have kg6 := KG.out.cell 6
      have kg7 := KG.out.cell 7
      have kg8 := KG.out.cell 8
      have kg9 := KG.out.cell 9
      have kg10 := KG.out.cell 10
      simp only [List.getElem?_cons_zero, List.getElem?_cons_succ] at kg0 kg1 kg2 kg3 kg4 kg5 kg6 kg7 kg8 kg9 kg10
      have m1 := HM8.out.symm
      have m2 := HMG.out.symm
      have HSS := Lib.hid (show FL = (false || (List.range' (j + 1) (k - (j + 1))).any (fun i => (holdL l er en xs k).getD i false && linkM ⟨r, nn, dep, actor, kind, dst, bucket, mask, gr, gn, ups⟩ (l.getD i act0))) by rw [HZZ.out]; simp [Q4.out])
      have BW9 := Lib.hid (BW.out.setCell (p := ⟨pQ, k, none⟩) GQ.out (.bool false))
      have KQ9 : Hid (Blk (w7.setCell ⟨pQ, k, none⟩ (.bool false)) pQ (((outL l er en xs len k).set k false).map Value.bool)) := Lib.hid (by have := KQ.out.set (j := k) (by simp; omega) (.bool false); rw [set_map_bool, set_set] at this; exact this)
      have KE9 := Lib.hid (KE.out.other (p := ⟨pQ, k, none⟩) (fun e => NEQ.out e.symm) (.bool false))
      have KG9 := Lib.hid (KG.out.other (p := ⟨pQ, k, none⟩) NEQ_G.out (.bool false))
      go_wp2_with fail
      go_roundw
      case rel => exact ⟨j + 1, false, by omega, by go_num, HSS.out, KQ9.out, KE9.out, KG9.out, BW9.out⟩
      case measure => simp [intOf]; omega
     ·have a4 : (ddst == actor) = true := by simp [g4]
      have n4 : (ddst != actor) = false := by simp [g4]
      have Q4 := Lib.hid g4
      clear g4
      by_cases g5 : dbucket = bucket
      rotate_left
      ·have a5 : (dbucket == bucket) = false := by simp [g5]
       have n5 : (dbucket != bucket) = true := by simp [g5]
       have Q5 := Lib.hid g5
       clear g5
       have cj := cell_bool KQ.out (i := j) (by simp; omega)
       rw [set_getD_other _ _ (by omega), outL_getD l er en xs hjk, HPJ.out] at cj
       have cq := cell_bool KQ.out (i := k) (by simp; omega)
       rw [set_getD_same _ _ _ (by omega)] at cq
       have fq := KQ.out.free
       have kd0 := KD.out.cell 0
       have kd1 := KD.out.cell 1
       have kd2 := KD.out.cell 2
       have kd3 := KD.out.cell 3
       have kd4 := KD.out.cell 4
       have kd5 := KD.out.cell 5
       have kd6 := KD.out.cell 6
       have kd7 := KD.out.cell 7
       have kd8 := KD.out.cell 8
       have kd9 := KD.out.cell 9
       have kd10 := KD.out.cell 10
       simp only [List.getElem?_cons_zero, List.getElem?_cons_succ] at kd0 kd1 kd2 kd3 kd4 kd5 kd6 kd7 kd8 kd9 kd10
       have kg0 := KG.out.cell 0
       have kg1 := KG.out.cell 1
       have kg2 := KG.out.cell 2
       have kg3 := KG.out.cell 3
       have kg4 := KG.out.cell 4
       have kg5 := KG.out.cell 5
       have kg6 := KG.out.cell 6
       have kg7 := KG.out.cell 7
       have kg8 := KG.out.cell 8
       have kg9 := KG.out.cell 9
       have kg10 := KG.out.cell 10
       simp only [List.getElem?_cons_zero, List.getElem?_cons_succ] at kg0 kg1 kg2 kg3 kg4 kg5 kg6 kg7 kg8 kg9 kg10
       have m1 := HM8.out.symm
       have m2 := HMG.out.symm
       have HSS := Lib.hid (show FL = (false || (List.range' (j + 1) (k - (j + 1))).any (fun i => (holdL l er en xs k).getD i false && linkM ⟨r, nn, dep, actor, kind, dst, bucket, mask, gr, gn, ups⟩ (l.getD i act0))) by rw [HZZ.out]; simp [Q5.out])
       have BW9 := Lib.hid (BW.out.setCell (p := ⟨pQ, k, none⟩) GQ.out (.bool false))
       have KQ9 : Hid (Blk (w7.setCell ⟨pQ, k, none⟩ (.bool false)) pQ (((outL l er en xs len k).set k false).map Value.bool)) := Lib.hid (by have := KQ.out.set (j := k) (by simp; omega) (.bool false); rw [set_map_bool, set_set] at this; exact this)
       have KE9 := Lib.hid (KE.out.other (p := ⟨pQ, k, none⟩) (fun e => NEQ.out e.symm) (.bool false))
       have KG9 := Lib.hid (KG.out.other (p := ⟨pQ, k, none⟩) NEQ_G.out (.bool false))
       go_wp2_with fail
       go_roundw
       case rel => exact ⟨j + 1, false, by omega, by go_num, HSS.out, KQ9.out, KE9.out, KG9.out, BW9.out⟩
       case measure => simp [intOf]; omega
      ·have a5 : (dbucket == bucket) = true := by simp [g5]
       have n5 : (dbucket != bucket) = false := by simp [g5]
       have Q5 := Lib.hid g5
       clear g5
       by_cases g6 : m8 = 0
       rotate_left
       ·have a6 : (m8 == 0) = false := by simp [g6]
        have n6 : (m8 != 0) = true := by simp [g6]
        have Q6 := Lib.hid g6
        clear g6
        by_cases g7 : mg = mask
        rotate_left
        ·have a7 : (mg == mask) = false := by simp [g7]
         have n7 : (mg != mask) = true := by simp [g7]
         have Q7 := Lib.hid g7
         clear g7
         have cj := cell_bool KQ.out (i := j) (by simp; omega)
         rw [set_getD_other _ _ (by omega), outL_getD l er en xs hjk, HPJ.out] at cj
         have cq := cell_bool KQ.out (i := k) (by simp; omega)
         rw [set_getD_same _ _ _ (by omega)] at cq
         have fq := KQ.out.free
         have kd0 := KD.out.cell 0
         have kd1 := KD.out.cell 1
         have kd2 := KD.out.cell 2
         have kd3 := KD.out.cell 3
         have kd4 := KD.out.cell 4
         have kd5 := KD.out.cell 5
         have kd6 := KD.out.cell 6
         have kd7 := KD.out.cell 7
         have kd8 := KD.out.cell 8
         have kd9 := KD.out.cell 9
         have kd10 := KD.out.cell 10
         simp only [List.getElem?_cons_zero, List.getElem?_cons_succ] at kd0 kd1 kd2 kd3 kd4 kd5 kd6 kd7 kd8 kd9 kd10
         have kg0 := KG.out.cell 0
         have kg1 := KG.out.cell 1
         have kg2 := KG.out.cell 2
         have kg3 := KG.out.cell 3
         have kg4 := KG.out.cell 4
         have kg5 := KG.out.cell 5
         have kg6 := KG.out.cell 6
         have kg7 := KG.out.cell 7
         have kg8 := KG.out.cell 8
         have kg9 := KG.out.cell 9
         have kg10 := KG.out.cell 10
         simp only [List.getElem?_cons_zero, List.getElem?_cons_succ] at kg0 kg1 kg2 kg3 kg4 kg5 kg6 kg7 kg8 kg9 kg10
         have m1 := HM8.out.symm
         have m2 := HMG.out.symm
         have HSS := Lib.hid (show FL = (false || (List.range' (j + 1) (k - (j + 1))).any (fun i => (holdL l er en xs k).getD i false && linkM ⟨r, nn, dep, actor, kind, dst, bucket, mask, gr, gn, ups⟩ (l.getD i act0))) by rw [HZZ.out]; simp [Q7.out])
         have BW9 := Lib.hid (BW.out.setCell (p := ⟨pQ, k, none⟩) GQ.out (.bool false))
         have KQ9 : Hid (Blk (w7.setCell ⟨pQ, k, none⟩ (.bool false)) pQ (((outL l er en xs len k).set k false).map Value.bool)) := Lib.hid (by have := KQ.out.set (j := k) (by simp; omega) (.bool false); rw [set_map_bool, set_set] at this; exact this)
         have KE9 := Lib.hid (KE.out.other (p := ⟨pQ, k, none⟩) (fun e => NEQ.out e.symm) (.bool false))
         have KG9 := Lib.hid (KG.out.other (p := ⟨pQ, k, none⟩) NEQ_G.out (.bool false))
         go_wp2_with fail
         go_roundw
         case rel => exact ⟨j + 1, false, by omega, by go_num, HSS.out, KQ9.out, KE9.out, KG9.out, BW9.out⟩
         case measure => simp [intOf]; omega
        ·have a7 : (mg == mask) = true := by simp [g7]
         have n7 : (mg != mask) = false := by simp [g7]
         have Q7 := Lib.hid g7
         clear g7
         have cj := cell_bool KQ.out (i := j) (by simp; omega)
         rw [set_getD_other _ _ (by omega), outL_getD l er en xs hjk, HPJ.out] at cj
         have cq := cell_bool KQ.out (i := k) (by simp; omega)
         rw [set_getD_same _ _ _ (by omega)] at cq
         have fq := KQ.out.free
         have kd0 := KD.out.cell 0
         have kd1 := KD.out.cell 1
         have kd2 := KD.out.cell 2
         have kd3 := KD.out.cell 3
         have kd4 := KD.out.cell 4
         have kd5 := KD.out.cell 5
         have kd6 := KD.out.cell 6
         have kd7 := KD.out.cell 7
         have kd8 := KD.out.cell 8
         have kd9 := KD.out.cell 9
         have kd10 := KD.out.cell 10
         simp only [List.getElem?_cons_zero, List.getElem?_cons_succ] at kd0 kd1 kd2 kd3 kd4 kd5 kd6 kd7 kd8 kd9 kd10
         have kg0 := KG.out.cell 0
         have kg1 := KG.out.cell 1
         have kg2 := KG.out.cell 2
         have kg3 := KG.out.cell 3
         have kg4 := KG.out.cell 4
         have kg5 := KG.out.cell 5
         have kg6 := KG.out.cell 6
         have kg7 := KG.out.cell 7
         have kg8 := KG.out.cell 8
         have kg9 := KG.out.cell 9
         have kg10 := KG.out.cell 10
         simp only [List.getElem?_cons_zero, List.getElem?_cons_succ] at kg0 kg1 kg2 kg3 kg4 kg5 kg6 kg7 kg8 kg9 kg10
         have m1 := HM8.out.symm
         have m2 := HMG.out.symm
         have HSS := Lib.hid (show FL = (true || (List.range' (j + 1) (k - (j + 1))).any (fun i => (holdL l er en xs k).getD i false && linkM ⟨r, nn, dep, actor, kind, dst, bucket, mask, gr, gn, ups⟩ (l.getD i act0))) by rw [HZZ.out]; simp [Q4.out, Q5.out, Q6.out, Q7.out])
         have BW9 := Lib.hid (BW.out.setCell (p := ⟨pQ, k, none⟩) GQ.out (.bool true))
         have KQ9 : Hid (Blk (w7.setCell ⟨pQ, k, none⟩ (.bool true)) pQ (((outL l er en xs len k).set k true).map Value.bool)) := Lib.hid (by have := KQ.out.set (j := k) (by simp; omega) (.bool true); rw [set_map_bool, set_set] at this; exact this)
         have KE9 := Lib.hid (KE.out.other (p := ⟨pQ, k, none⟩) (fun e => NEQ.out e.symm) (.bool true))
         have KG9 := Lib.hid (KG.out.other (p := ⟨pQ, k, none⟩) NEQ_G.out (.bool true))
         go_wp2_with fail
         go_roundw
         case rel => exact ⟨j + 1, true, by omega, by go_num, HSS.out, KQ9.out, KE9.out, KG9.out, BW9.out⟩
         case measure => simp [intOf]; omega
       ·have a6 : (m8 == 0) = true := by simp [g6]
        have n6 : (m8 != 0) = false := by simp [g6]
        have Q6 := Lib.hid g6
        clear g6
        have cj := cell_bool KQ.out (i := j) (by simp; omega)
        rw [set_getD_other _ _ (by omega), outL_getD l er en xs hjk, HPJ.out] at cj
        have cq := cell_bool KQ.out (i := k) (by simp; omega)
        rw [set_getD_same _ _ _ (by omega)] at cq
        have fq := KQ.out.free
        have kd0 := KD.out.cell 0
        have kd1 := KD.out.cell 1
        have kd2 := KD.out.cell 2
        have kd3 := KD.out.cell 3
        have kd4 := KD.out.cell 4
        have kd5 := KD.out.cell 5
        have kd6 := KD.out.cell 6
        have kd7 := KD.out.cell 7
        have kd8 := KD.out.cell 8
        have kd9 := KD.out.cell 9
        have kd10 := KD.out.cell 10
        simp only [List.getElem?_cons_zero, List.getElem?_cons_succ] at kd0 kd1 kd2 kd3 kd4 kd5 kd6 kd7 kd8 kd9 kd10
        have kg0 := KG.out.cell 0
        have kg1 := KG.out.cell 1
        have kg2 := KG.out.cell 2
        have kg3 := KG.out.cell 3
        have kg4 := KG.out.cell 4
        have kg5 := KG.out.cell 5
        have kg6 := KG.out.cell 6
        have kg7 := KG.out.cell 7
        have kg8 := KG.out.cell 8
        have kg9 := KG.out.cell 9
        have kg10 := KG.out.cell 10
        simp only [List.getElem?_cons_zero, List.getElem?_cons_succ] at kg0 kg1 kg2 kg3 kg4 kg5 kg6 kg7 kg8 kg9 kg10
        have m1 := HM8.out.symm
        have m2 := HMG.out.symm
        have HSS := Lib.hid (show FL = (false || (List.range' (j + 1) (k - (j + 1))).any (fun i => (holdL l er en xs k).getD i false && linkM ⟨r, nn, dep, actor, kind, dst, bucket, mask, gr, gn, ups⟩ (l.getD i act0))) by rw [HZZ.out]; simp [Q6.out])
        have BW9 := Lib.hid (BW.out.setCell (p := ⟨pQ, k, none⟩) GQ.out (.bool false))
        have KQ9 : Hid (Blk (w7.setCell ⟨pQ, k, none⟩ (.bool false)) pQ (((outL l er en xs len k).set k false).map Value.bool)) := Lib.hid (by have := KQ.out.set (j := k) (by simp; omega) (.bool false); rw [set_map_bool, set_set] at this; exact this)
        have KE9 := Lib.hid (KE.out.other (p := ⟨pQ, k, none⟩) (fun e => NEQ.out e.symm) (.bool false))
        have KG9 := Lib.hid (KG.out.other (p := ⟨pQ, k, none⟩) NEQ_G.out (.bool false))
        go_wp2_with fail
        go_roundw
        case rel => exact ⟨j + 1, false, by omega, by go_num, HSS.out, KQ9.out, KE9.out, KG9.out, BW9.out⟩
        case measure => simp [intOf]; omega
    ·have d1 : decide ((j : Int) < (k : Int)) = false := by simp; omega
     cases ov
     ·have HE := Lib.hid (show FL = false by rw [hz.out]; rw [show k - j = 0 by omega]; rfl)
      have KQ2 : Hid (Blk wr pQ ((outL l er en xs len (k + 1)).map Value.bool)) := Lib.hid (by rw [← outL_set l er en xs hlt, ← HFK.out, HE.out]; exact KQ.out)
      go_wp2_with fail
      go_roundw
      case rel => exact ⟨k + 1, by omega, by go_num, KQ2.out, KE.out, BW.out⟩
      case measure => simp [intOf]; omega
     ·have HE := Lib.hid (show FL = true by rw [hz.out]; simp)
      have KQ2 : Hid (Blk wr pQ ((outL l er en xs len (k + 1)).map Value.bool)) := Lib.hid (by rw [← outL_set l er en xs hlt, ← HFK.out, HE.out]; exact KQ.out)
      go_wp2_with fail
      go_roundw
      case rel => exact ⟨k + 1, by omega, by go_num, KQ2.out, KE.out, BW.out⟩
      case measure => simp [intOf]; omega
  ·have hke : k = len := by omega
   have KQ2 : Hid (Blk wr pQ ((holdL l er en xs len).map Value.bool)) := Lib.hid (by rw [← outL_end l er en xs len]; rw [← hke]; rw [hke] at KQ ⊢; exact KQ.out)
   go_wp2_with fail
   go_ret
   exact ⟨pQ, rfl, KQ2.out, BW.out⟩
set_option linter.unusedSimpArgs false
end Go.Proofs.YtghgiefciijoeaaGreatDoor
