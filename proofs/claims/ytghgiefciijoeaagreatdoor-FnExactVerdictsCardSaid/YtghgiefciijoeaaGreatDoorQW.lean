/- The program's Holds: isHandedOn, isHolding, holding and its closure, Holds. -/
import Derived.Test.YtghgiefciijoeaaGreatDoorQJ
import Derived.Test.YtghgiefciijoeaaGreatDoorML
import Derived.Test.YtghgiefciijoeaaGreatDoorKA
import Derived.Test.YtghgiefciijoeaaGreatDoorQE
import Derived.Maps.Keyed
import Derived.Maps.OwnSet
import Derived.Maps.Views
import Derived.Deep.DeepCutAuto

namespace Go.Proofs.YtghgiefciijoeaaGreatDoor
open Go.RowKit
set_option linter.unusedVariables false
set_option linter.unusedSimpArgs false
def memoR (v : Value) : Option (DataW Unit × List MemPlace) := match v with | .bool b => some (.lit (.bool b), []) | _ => none
structure Memo (w : World) (F V H M n : Nat) (cs : List Value) (D : DataW Unit) : Prop where
 kF : Blk w F [.map (some M)]
 kV : Blk w V cs
 kH : Blk w H [.func (.func 174) #[] #[.pointer (some ⟨F, 0, none⟩), .pointer (some ⟨V, 0, none⟩), .pointer (some ⟨H, 0, none⟩)]]
 own : w.ownsMap Tryz.prog 3 memoR M n D
 nF : F ≠ M
 nV : V ≠ M
 nH : H ≠ M
theorem Memo.below {w w' : World} {F V H M n : Nat} {cs : List Value} {D : DataW Unit} (h : Memo w F V H M n cs D) (hb : Below w.heap.size w w') : Memo w' F V H M n cs D :=
 ⟨h.kF.below hb h.kF.lt, h.kV.below hb h.kV.lt, h.kH.below hb h.kH.lt, h.own.kept (below_grown hb none) (by simp), h.nF, h.nV, h.nH⟩
def HoldRet (w : World) (F V H M n : Nat) (cs : List Value) (S : DataW Unit → Prop) (B : Bool) (m : Nat) (e : Ending) (w' : World) : Prop :=
 e = .returned (.bool B) ∧ ∃ n' D', Memo w' F V H M n' cs D' ∧ S D' ∧ n' ≤ n + m ∧ GrOn [M] w w'
theorem on_gr {w w' : World} {M B : Nat} {l : List Value} (h : Blk w B l) (hg : GrOn [M] w w') (hn : B ≠ M) : Blk w' B l := h.on hg (by simpa using hn)
theorem bel_gr {B0 M : Nat} {w0 w w' : World} (h : Below B0 w0 w) (hg : GrOn [M] w w') (hM : B0 ≤ M) (hs : B0 ≤ w.heap.size) : Below B0 w0 w' :=
 h.trans (hg.below (fun b hb => by rw [List.mem_singleton.1 hb]; exact hM) hs)
set_option maxRecDepth 100000 in
set_option maxHeartbeats 12800000 in
theorem handedOn_some (b off : Nat) (vl vc mb : Nat) (q x0 x1 x2 x3 er en m y0 y1 y2 y3 : Int) (l : List ActM) (xs : List Int) (ts : List ActT) (g : ActT) (k F V H M n : Nat) (cs : List Value) (S : DataW Unit → Prop) (D : DataW Unit) (w0 w : World)
  (h1 : ts.length = vl) (hb : b < w0.heap.size) (hc : ∀ i, i < vl → ActAt w0 b (off + i * 11) (ts.getD i t0)) (hr : ∀ t ∈ ts, t.Reads w0) (hl : vl ≤ 9223372036854775807) (hg : g.Reads w0)
  (hbel : Below w0.heap.size w0 w) (hM : w0.heap.size ≤ M) (hmemo : Memo w F V H M n cs D) (hS : S D) (hn : n + 2 ^ k ≤ 2 ^ 62)
  (hkn : ∀ j, j < vl → knowsM g.a (ts.getD j t0).a = true → j < k)
  (hC : ∀ j, j < k → ∀ W n' D', Below w0.heap.size w0 W → Memo W F V H M n' cs D' → S D' → n' + 2 ^ j ≤ 2 ^ 62 → Calls Tryz.prog 174 #[.int .i64 (j : Int), .pointer (some ⟨F, 0, none⟩), .pointer (some ⟨V, 0, none⟩), .pointer (some ⟨H, 0, none⟩)] W (HoldRet W F V H M n' cs S (holdK l er en xs j) (2 ^ j))) :
  Calls Tryz.prog 181 #[.agg #[.slice (some ⟨b, off, none⟩) vl vc, .map (some mb), .int .i64 q, .int .i64 x0, .int .i64 x1, .int .i64 x2, .int .i64 x3, .int .i64 er, .int .i64 en, .int .i64 m, .int .i64 y0, .int .i64 y1, .int .i64 y2, .int .i64 y3], g.val, .func (.func 174) #[] #[.pointer (some ⟨F, 0, none⟩), .pointer (some ⟨V, 0, none⟩), .pointer (some ⟨H, 0, none⟩)]] w fun e w' => e = .returned (.bool (onM l er en xs g.a 0 (ts.map ActT.a))) ∧ ∃ n' D', Memo w' F V H M n' cs D' ∧ S D' ∧ n' + 1 ≤ n + 2 ^ k ∧ GrOn [M] w w' := by
 obtain ⟨R, hR⟩ : ∃ R, R = onM l er en xs g.a 0 (ts.map ActT.a) := ⟨_, rfl⟩
 rw [← hR]
 have HR : Hid (R = onM l er en xs g.a 0 ((ts.map ActT.a).drop 0)) := hR
 have N1 := Lib.hid h1
 have HC := Lib.hid hc
 have HRd := Lib.hid hr
 have HG := Lib.hid hg
 have HMm := Lib.hid hM
 have ME := Lib.hid hmemo
 have HS := Lib.hid hS
 have HN := Lib.hid hn
 have HKN := Lib.hid hkn
 have HCC := Lib.hid hC
 have b00 := Lib.hid hb
 have GI := Lib.hid (fun (t : ActT) W (h : t.Reads W) => givesTo_any t g.a.actor g.a.bucket W h)
 have KN := Lib.hid (fun (t : ActT) W (h : t.Reads W) (h2 : g.Reads W) => implKnows_any g.val t.val g.a t.a W h2.is h.is)
 have BW := Lib.hid hbel
 have SZ0 := Lib.hid hbel.size
 clear hR h1 hc hr hg hM hmemo hS hn hkn hC hb hbel
 obtain ⟨ga, hga⟩ : ∃ x, x = g.a := ⟨_, rfl⟩
 rw [← hga] at HR HKN GI KN
 have HGA := Lib.hid hga
 clear hga
 obtain ⟨⟨pr, pnn, pdep, pactor, pkind, pdst, pbucket, pmask, pgr, pgn, pups⟩, pvd, pvs⟩ := g
 have phsd := ints_len HG.out.1
 have phsu := ups_len HG.out.2
 simp only at phsd phsu
 obtain ⟨pda, pdc, rfl⟩ := phsd
 obtain ⟨pua, puc, rfl⟩ := phsu
 try simp only [ActT.val] at KN HGA ⊢
 obtain ⟨pdl, phdl⟩ : ∃ x, x = pdep.length := ⟨_, rfl⟩
 obtain ⟨pul, phul⟩ : ∃ x, x = pups.length := ⟨_, rfl⟩
 try rw [← phdl] at HG
 try rw [← phul] at HG
 try rw [← phdl] at KN
 try rw [← phul] at KN
 try rw [← phdl] at HGA
 try rw [← phul] at HGA
 try rw [← phdl]
 try rw [← phul]
 have pHDL := Lib.hid phdl
 clear phdl phul
 obtain ⟨gactor, hgac⟩ : ∃ x, x = ga.actor := ⟨_, rfl⟩
 obtain ⟨gbk, hgbk⟩ : ∃ x, x = ga.bucket := ⟨_, rfl⟩
 obtain ⟨gmask, hgm⟩ : ∃ x, x = ga.mask := ⟨_, rfl⟩
 rw [← hgac, ← hgbk] at GI
 have GAC := Lib.hid (⟨hgac, hgbk, hgm⟩ : gactor = ga.actor ∧ gbk = ga.bucket ∧ gmask = ga.mask)
 have e1 : pactor = gactor := by rw [hgac, HGA.out]
 have e2 : pbucket = gbk := by rw [hgbk, HGA.out]
 have e3 : pmask = gmask := by rw [hgm, HGA.out]
 subst e1
 subst e2
 subst e3
 clear hgac hgbk hgm HGA
 have GR := Lib.hid (GrOn.refl [M] w)
 have MLT := Lib.hid ME.out.own.lt
 go_enter Tryz.func181, Tryz.ntmps181
 have kA := (Blk.new w #[.slice (some ⟨b, off, none⟩) vl vc, .map (some mb), .int .i64 q, .int .i64 x0, .int .i64 x1, .int .i64 x2, .int .i64 x3, .int .i64 er, .int .i64 en, .int .i64 m, .int .i64 y0, .int .i64 y1, .int .i64 y2, .int .i64 y3] 133).alloc (.cells #[.int .i64 pr, .int .i64 pnn, .slice pda pdl pdc, .int .i64 pactor, .int .i64 pkind, .int .i64 pdst, .int .i64 pbucket, .int .i64 pmask, .int .i64 pgr, .int .i64 pgn, .slice pua pul puc] 32)
 have kG := Blk.new (w.alloc (.cells #[.slice (some ⟨b, off, none⟩) vl vc, .map (some mb), .int .i64 q, .int .i64 x0, .int .i64 x1, .int .i64 x2, .int .i64 x3, .int .i64 er, .int .i64 en, .int .i64 m, .int .i64 y0, .int .i64 y1, .int .i64 y2, .int .i64 y3] 133)) #[.int .i64 pr, .int .i64 pnn, .slice pda pdl pdc, .int .i64 pactor, .int .i64 pkind, .int .i64 pdst, .int .i64 pbucket, .int .i64 pmask, .int .i64 pgr, .int .i64 pgn, .slice pua pul puc] 32
 simp only [World.size_alloc] at kG
 have ba := ((Below.refl w.heap.size w).alloc (Nat.le_refl _) (.cells #[.slice (some ⟨b, off, none⟩) vl vc, .map (some mb), .int .i64 q, .int .i64 x0, .int .i64 x1, .int .i64 x2, .int .i64 x3, .int .i64 er, .int .i64 en, .int .i64 m, .int .i64 y0, .int .i64 y1, .int .i64 y2, .int .i64 y3] 133)).alloc (by simp [World.size_alloc]; try omega) (.cells #[.int .i64 pr, .int .i64 pnn, .slice pda pdl pdc, .int .i64 pactor, .int .i64 pkind, .int .i64 pdst, .int .i64 pbucket, .int .i64 pmask, .int .i64 pgr, .int .i64 pgn, .slice pua pul puc] 32)
 obtain ⟨pA, hpA⟩ : ∃ p, p = w.heap.size := ⟨_, rfl⟩
 obtain ⟨pG, hpG⟩ : ∃ p, p = w.heap.size + 1 := ⟨_, rfl⟩
 go_upto_region 1 with (fail)
 rw [← hpG] at kG
 try rw [← hpG]
 rw [← hpA] at kA
 try rw [← hpA]
 obtain ⟨w1, hW⟩ : ∃ W, W = (w.alloc (.cells #[.slice (some ⟨b, off, none⟩) vl vc, .map (some mb), .int .i64 q, .int .i64 x0, .int .i64 x1, .int .i64 x2, .int .i64 x3, .int .i64 er, .int .i64 en, .int .i64 m, .int .i64 y0, .int .i64 y1, .int .i64 y2, .int .i64 y3] 133)).alloc (.cells #[.int .i64 pr, .int .i64 pnn, .slice pda pdl pdc, .int .i64 pactor, .int .i64 pkind, .int .i64 pdst, .int .i64 pbucket, .int .i64 pmask, .int .i64 pgr, .int .i64 pgn, .slice pua pul puc] 32) := ⟨_, rfl⟩
 rw [← hW] at ba kA kG ⊢
 have KA := Lib.hid kA
 have GA := Lib.hid (show w.heap.size ≤ pA by omega)
 have KG := Lib.hid kG
 have GG := Lib.hid (show w.heap.size ≤ pG by omega)
 have NEA_G := Lib.hid (show pA ≠ pG by omega)
 replace BW := Lib.hid (BW.out.trans ((ba).mono BW.out.size))
 replace ME := Lib.hid (ME.out.below (ba))
 replace GR := Lib.hid (GR.out.trans (GrOn.of_below (ba) [M]))
 clear ba hW kA hpA kG hpG
 have NMA := Lib.hid (show pA ≠ M by have := MLT.out; have := GA.out; omega)
 have NMG := Lib.hid (show pG ≠ M by have := MLT.out; have := GG.out; omega)
 have ka0 := KA.out.cell 0
 have ka1 := KA.out.cell 1
 have ka2 := KA.out.cell 2
 have ka3 := KA.out.cell 3
 have ka4 := KA.out.cell 4
 have ka5 := KA.out.cell 5
 have ka6 := KA.out.cell 6
 have ka7 := KA.out.cell 7
 have ka8 := KA.out.cell 8
 have ka9 := KA.out.cell 9
 have ka10 := KA.out.cell 10
 have ka11 := KA.out.cell 11
 have ka12 := KA.out.cell 12
 have ka13 := KA.out.cell 13
 simp only [List.getElem?_cons_zero, List.getElem?_cons_succ] at ka0 ka1 ka2 ka3 ka4 ka5 ka6 ka7 ka8 ka9 ka10 ka11 ka12 ka13
 go_wp2_with fail
 clear ka0 ka1 ka2 ka3 ka4 ka5 ka6 ka7 ka8 ka9 ka10 ka11 ka12 ka13
 go_loopw [13] (fun i wr => ∃ (j n' : Nat) (D' : DataW Unit), j ≤ vl ∧ i = .int .i64 j ∧ Hid (R = onM l er en xs ga j ((ts.map ActT.a).drop j)) ∧ Hid (Memo wr F V H M n' cs D') ∧ Hid (S D') ∧ Hid (n' + 1 ≤ n + 2 ^ (min j k)) ∧ Hid (Blk wr pA [.slice (some ⟨b, off, none⟩) vl vc, .map (some mb), .int .i64 q, .int .i64 x0, .int .i64 x1, .int .i64 x2, .int .i64 x3, .int .i64 er, .int .i64 en, .int .i64 m, .int .i64 y0, .int .i64 y1, .int .i64 y2, .int .i64 y3]) ∧ Hid (Blk wr pG [.int .i64 pr, .int .i64 pnn, .slice pda pdl pdc, .int .i64 pactor, .int .i64 pkind, .int .i64 pdst, .int .i64 pbucket, .int .i64 pmask, .int .i64 pgr, .int .i64 pgn, .slice pua pul puc]) ∧ Hid (GrOn [M] w wr) ∧ Hid (Below w0.heap.size w0 wr)) (fun i _ => vl - (intOf i).toNat)
 case atStart => exact ⟨0, n, D, Nat.zero_le _, rfl, HR.out, ME.out, HS.out, (by show _ ≤ _; simp), KA.out, KG.out, GR.out, BW.out⟩
 case round =>
  obtain ⟨j, n', D', hj, rfl, hg, hme, hs, hn', hka, hkg, hgr, hbel⟩ := hrel
  clear BW KA KG ME GR HR HS
  have BW := hbel
  have KA := hka
  have KG := hkg
  have ME := hme
  have GR := hgr
  have HS := hs
  clear hbel hka hkg hme hgr hs
  by_cases hlt : j < vl
  ·have hlt2 : j < ts.length := by rw [N1.out]; exact hlt
   have hm := getD_mem hlt2
   have AT := Lib.hid ((HC.out j hlt).below BW.out b00.out)
   have HTB := Lib.hid (HRd.out _ hm)
   have hst := hg.out
   rw [drop_ts hlt2, onM] at hst
   have GI1 := GI.out (ts.getD j t0)
   have KN1 := KN.out (ts.getD j t0)
   have HK1 := HKN.out j hlt
   obtain ⟨t, htt⟩ : ∃ t, t = ts.getD j t0 := ⟨_, rfl⟩
   rw [← htt] at AT HTB hst GI1 KN1 HK1
   obtain ⟨X, hX⟩ : ∃ X, X = givesM pactor pbucket t.a := ⟨_, rfl⟩
   obtain ⟨Y, hY⟩ : ∃ Y, Y = knowsM ga t.a := ⟨_, rfl⟩
   obtain ⟨Z, hZ⟩ : ∃ Z, Z = handM t.a.mask pmask := ⟨_, rfl⟩
   obtain ⟨U, hU⟩ : ∃ U, U = holdK l er en xs j := ⟨_, rfl⟩
   rw [← GAC.out.1, ← GAC.out.2.1, ← GAC.out.2.2, ← hX, ← hY, ← hZ, ← hU] at hst
   rw [← hX] at GI1
   rw [← hY] at KN1 HK1
   have MH := Lib.hid (fun W => mayHandOn_any t.a.mask pmask W)
   rw [← hZ] at MH
   have HST := Lib.hid hst
   have GIH := Lib.hid GI1
   have KNH := Lib.hid KN1
   have HKH := Lib.hid HK1
   have HU := Lib.hid hU
   clear hst GI1 KN1 HK1 htt hm hX hY hZ hU hg
   obtain ⟨⟨r, nn, dep, actor, kind, dst, bucket, mask, gr, gn, ups⟩, vd, vs⟩ := t
   have hsd := ints_len HTB.out.1
   have hsu := ups_len HTB.out.2
   simp only at hsd hsu
   obtain ⟨da, dc, rfl⟩ := hsd
   obtain ⟨ua, uc, rfl⟩ := hsu
   try simp only [ActT.val] at GIH KNH MH ⊢
   obtain ⟨dl, hdl⟩ : ∃ x, x = dep.length := ⟨_, rfl⟩
   obtain ⟨ul, hul⟩ : ∃ x, x = ups.length := ⟨_, rfl⟩
   try rw [← hdl] at HTB
   try rw [← hul] at HTB
   try rw [← hdl] at AT
   try rw [← hul] at AT
   try rw [← hdl] at GIH
   try rw [← hul] at GIH
   try rw [← hdl] at KNH
   try rw [← hul] at KNH
   try rw [← hdl] at MH
   try rw [← hul] at MH
   try rw [← hdl]
   try rw [← hul]
   have HDL := Lib.hid hdl
   clear hdl hul
   try simp only at MH
   have c0 := AT.out.c0
   have c1 := AT.out.c1
   have c2 := AT.out.c2
   have c3 := AT.out.c3
   have c4 := AT.out.c4
   have c5 := AT.out.c5
   have c6 := AT.out.c6
   have c7 := AT.out.c7
   have c8 := AT.out.c8
   have c9 := AT.out.c9
   have c10 := AT.out.c10
   simp only at c0 c1 c2 c3 c4 c5 c6 c7 c8 c9 c10
   have i0 : (0 : Int) ≤ (j : Int) := by omega
   have i1 : (j : Int) < (vl : Int) := by omega
   go_upto_region 4 with (fail)
   clear c0 c1 c2 c3 c4 c5 c6 c7 c8 c9 c10
   clear AT i0 i1
   have kC := Blk.new wr #[.int .i64 r, .int .i64 nn, .slice da dl dc, .int .i64 actor, .int .i64 kind, .int .i64 dst, .int .i64 bucket, .int .i64 mask, .int .i64 gr, .int .i64 gn, .slice ua ul uc] 32
   have ba := (Below.refl wr.heap.size wr).alloc (Nat.le_refl _) (.cells #[.int .i64 r, .int .i64 nn, .slice da dl dc, .int .i64 actor, .int .i64 kind, .int .i64 dst, .int .i64 bucket, .int .i64 mask, .int .i64 gr, .int .i64 gn, .slice ua ul uc] 32)
   obtain ⟨pC, hpC⟩ : ∃ p, p = wr.heap.size := ⟨_, rfl⟩
   rw [← hpC] at kC
   try rw [← hpC]
   obtain ⟨w2, hW⟩ : ∃ W, W = wr.alloc (.cells #[.int .i64 r, .int .i64 nn, .slice da dl dc, .int .i64 actor, .int .i64 kind, .int .i64 dst, .int .i64 bucket, .int .i64 mask, .int .i64 gr, .int .i64 gn, .slice ua ul uc] 32) := ⟨_, rfl⟩
   rw [← hW] at ba kC ⊢
   have KC := Lib.hid kC
   have GC := Lib.hid (show wr.heap.size ≤ pC by omega)
   have NEA_C := Lib.hid (show pA ≠ pC by have := KA.out.lt; omega)
   have NEG_C := Lib.hid (show pG ≠ pC by have := KG.out.lt; omega)
   replace BW := Lib.hid (BW.out.trans ((ba).mono BW.out.size))
   replace KA := Lib.hid (KA.out.below (ba) KA.out.lt)
   replace KG := Lib.hid (KG.out.below (ba) KG.out.lt)
   replace ME := Lib.hid (ME.out.below (ba))
   replace GR := Lib.hid (GR.out.trans (GrOn.of_below (ba) [M]))
   clear ba hW kC hpC
   skip
   have kc0 := KC.out.cell 0
   have kc1 := KC.out.cell 1
   have kc2 := KC.out.cell 2
   have kc3 := KC.out.cell 3
   have kc4 := KC.out.cell 4
   have kc5 := KC.out.cell 5
   have kc6 := KC.out.cell 6
   have kc7 := KC.out.cell 7
   have kc8 := KC.out.cell 8
   have kc9 := KC.out.cell 9
   have kc10 := KC.out.cell 10
   simp only [List.getElem?_cons_zero, List.getElem?_cons_succ] at kc0 kc1 kc2 kc3 kc4 kc5 kc6 kc7 kc8 kc9 kc10
   have kg0 := KG.out.cell 0
   have kg1 := KG.out.cell 1
   have kg2 := KG.out.cell 2
   have kg3 := KG.out.cell 3
   have kg4 := KG.out.cell 4
   have kg5 := KG.out.cell 5
   have kg6 := KG.out.cell 6
   have kg7 := KG.out.cell 7
   have kg8 := KG.out.cell 8
   have kg9 := KG.out.cell 9
   have kg10 := KG.out.cell 10
   simp only [List.getElem?_cons_zero, List.getElem?_cons_succ] at kg0 kg1 kg2 kg3 kg4 kg5 kg6 kg7 kg8 kg9 kg10
   go_wp2_with fail
   refine (GIH.out _ (HTB.out.below BW.out)).mono ?_
   rintro e w3 ⟨rfl, b⟩
   clear kc0 kc1 kc2 kc3 kc4 kc5 kc6 kc7 kc8 kc9 kc10 kg0 kg1 kg2 kg3 kg4 kg5 kg6 kg7 kg8 kg9 kg10
   replace BW := Lib.hid (BW.out.trans ((b).mono BW.out.size))
   replace KA := Lib.hid (KA.out.below (b) KA.out.lt)
   replace KG := Lib.hid (KG.out.below (b) KG.out.lt)
   replace ME := Lib.hid (ME.out.below (b))
   replace GR := Lib.hid (GR.out.trans (GrOn.of_below (b) [M]))
   replace KC := Lib.hid (KC.out.below (b) KC.out.lt)
   clear b
   cases X
   ·have HSS := Lib.hid (show R = onM l er en xs ga (j + 1) ((ts.map ActT.a).drop (j + 1)) by rw [HST.out]; simp)
    have HN2 : Hid (n' + 1 ≤ n + 2 ^ (min (j + 1) k)) := by
     have h1 := hn'.out
     have h2 : 2 ^ (min j k) ≤ 2 ^ (min (j + 1) k) := Nat.pow_le_pow_right (by omega) (by omega)
     show _ ≤ _
     omega
    go_wp2_with fail
    go_roundw
    case rel => exact ⟨j + 1, n', D', by omega, by go_num, HSS.out, ME.out, HS.out, HN2.out, KA.out, KG.out, GR.out, BW.out⟩
    case measure => simp [intOf]; omega
   have kc0 := KC.out.cell 0
   have kc1 := KC.out.cell 1
   have kc2 := KC.out.cell 2
   have kc3 := KC.out.cell 3
   have kc4 := KC.out.cell 4
   have kc5 := KC.out.cell 5
   have kc6 := KC.out.cell 6
   have kc7 := KC.out.cell 7
   have kc8 := KC.out.cell 8
   have kc9 := KC.out.cell 9
   have kc10 := KC.out.cell 10
   simp only [List.getElem?_cons_zero, List.getElem?_cons_succ] at kc0 kc1 kc2 kc3 kc4 kc5 kc6 kc7 kc8 kc9 kc10
   have kg0 := KG.out.cell 0
   have kg1 := KG.out.cell 1
   have kg2 := KG.out.cell 2
   have kg3 := KG.out.cell 3
   have kg4 := KG.out.cell 4
   have kg5 := KG.out.cell 5
   have kg6 := KG.out.cell 6
   have kg7 := KG.out.cell 7
   have kg8 := KG.out.cell 8
   have kg9 := KG.out.cell 9
   have kg10 := KG.out.cell 10
   simp only [List.getElem?_cons_zero, List.getElem?_cons_succ] at kg0 kg1 kg2 kg3 kg4 kg5 kg6 kg7 kg8 kg9 kg10
   go_wp2_with fail
   refine (KNH.out _ (HTB.out.below BW.out) (HG.out.below BW.out)).mono ?_
   rintro e w4 ⟨rfl, b⟩
   clear kc0 kc1 kc2 kc3 kc4 kc5 kc6 kc7 kc8 kc9 kc10 kg0 kg1 kg2 kg3 kg4 kg5 kg6 kg7 kg8 kg9 kg10
   replace BW := Lib.hid (BW.out.trans ((b).mono BW.out.size))
   replace KA := Lib.hid (KA.out.below (b) KA.out.lt)
   replace KG := Lib.hid (KG.out.below (b) KG.out.lt)
   replace ME := Lib.hid (ME.out.below (b))
   replace GR := Lib.hid (GR.out.trans (GrOn.of_below (b) [M]))
   replace KC := Lib.hid (KC.out.below (b) KC.out.lt)
   clear b
   cases Y
   ·have HSS := Lib.hid (show R = onM l er en xs ga (j + 1) ((ts.map ActT.a).drop (j + 1)) by rw [HST.out]; simp)
    have HN2 : Hid (n' + 1 ≤ n + 2 ^ (min (j + 1) k)) := by
     have h1 := hn'.out
     have h2 : 2 ^ (min j k) ≤ 2 ^ (min (j + 1) k) := Nat.pow_le_pow_right (by omega) (by omega)
     show _ ≤ _
     omega
    go_wp2_with fail
    go_roundw
    case rel => exact ⟨j + 1, n', D', by omega, by go_num, HSS.out, ME.out, HS.out, HN2.out, KA.out, KG.out, GR.out, BW.out⟩
    case measure => simp [intOf]; omega
   have hjk : j < k := HKH.out rfl
   have kc0 := KC.out.cell 0
   have kc1 := KC.out.cell 1
   have kc2 := KC.out.cell 2
   have kc3 := KC.out.cell 3
   have kc4 := KC.out.cell 4
   have kc5 := KC.out.cell 5
   have kc6 := KC.out.cell 6
   have kc7 := KC.out.cell 7
   have kc8 := KC.out.cell 8
   have kc9 := KC.out.cell 9
   have kc10 := KC.out.cell 10
   simp only [List.getElem?_cons_zero, List.getElem?_cons_succ] at kc0 kc1 kc2 kc3 kc4 kc5 kc6 kc7 kc8 kc9 kc10
   have kg0 := KG.out.cell 0
   have kg1 := KG.out.cell 1
   have kg2 := KG.out.cell 2
   have kg3 := KG.out.cell 3
   have kg4 := KG.out.cell 4
   have kg5 := KG.out.cell 5
   have kg6 := KG.out.cell 6
   have kg7 := KG.out.cell 7
   have kg8 := KG.out.cell 8
   have kg9 := KG.out.cell 9
   have kg10 := KG.out.cell 10
   simp only [List.getElem?_cons_zero, List.getElem?_cons_succ] at kg0 kg1 kg2 kg3 kg4 kg5 kg6 kg7 kg8 kg9 kg10
   go_wp2_with fail
   refine (MH.out _).mono ?_
   rintro e w5 ⟨rfl, rfl⟩
   clear kc0 kc1 kc2 kc3 kc4 kc5 kc6 kc7 kc8 kc9 kc10 kg0 kg1 kg2 kg3 kg4 kg5 kg6 kg7 kg8 kg9 kg10
   cases Z
   ·have HSS := Lib.hid (show R = onM l er en xs ga (j + 1) ((ts.map ActT.a).drop (j + 1)) by rw [HST.out]; simp)
    have HN2 : Hid (n' + 1 ≤ n + 2 ^ (min (j + 1) k)) := by
     have h1 := hn'.out
     have h2 : 2 ^ (min j k) ≤ 2 ^ (min (j + 1) k) := Nat.pow_le_pow_right (by omega) (by omega)
     show _ ≤ _
     omega
    go_wp2_with fail
    go_roundw
    case rel => exact ⟨j + 1, n', D', by omega, by go_num, HSS.out, ME.out, HS.out, HN2.out, KA.out, KG.out, GR.out, BW.out⟩
    case measure => simp [intOf]; omega
   have HB : Hid (n' + 2 ^ j ≤ 2 ^ 62) := by
    have h1 := hn'.out
    have h2 := HN.out
    rw [Nat.min_eq_left (by omega)] at h1
    have h3 : 2 ^ (j + 1) ≤ 2 ^ k := Nat.pow_le_pow_right (by omega) (by omega)
    rw [Nat.pow_succ] at h3
    show _ ≤ _
    omega
   have CC := Lib.hid (HCC.out j hjk _ n' D' BW.out ME.out HS.out HB.out)
   rw [← HU.out] at CC
   have NA := Lib.hid (show pA ≠ M from NMA.out)
   have SZ := Lib.hid BW.out.size
   go_wp2_with fail
   refine CC.out.mono ?_
   rintro e w6 ⟨rfl, n2, D2, m6, s6, h6, g6⟩
   have hN1 := hn'.out
   rw [Nat.min_eq_left (by omega)] at hN1
   have HN2 : Hid (n2 + 1 ≤ n + 2 ^ (min (j + 1) k)) := by
    rw [Nat.min_eq_left (by omega), Nat.pow_succ]
    show _ ≤ _
    omega
   have KA6 := Lib.hid (on_gr KA.out g6 NMA.out)
   have KG6 := Lib.hid (on_gr KG.out g6 NMG.out)
   have GR6 := Lib.hid (GR.out.trans g6)
   have BW6 := Lib.hid (bel_gr BW.out g6 HMm.out (Nat.le_trans SZ0.out GR.out.size))
   have ME6 := Lib.hid m6
   have HS6 := Lib.hid s6
   clear m6 s6 g6 hN1 h6 ME HS KA KG GR BW KC CC
   cases U
   ·have HSS := Lib.hid (show R = onM l er en xs ga (j + 1) ((ts.map ActT.a).drop (j + 1)) by rw [HST.out]; simp)
    go_wp2_with fail
    go_roundw
    case rel => exact ⟨j + 1, n2, D2, by omega, by go_num, HSS.out, ME6.out, HS6.out, HN2.out, KA6.out, KG6.out, GR6.out, BW6.out⟩
    case measure => simp [intOf]; omega
   ·have HSS := Lib.hid (show R = true by rw [HST.out]; simp)
    have HN3 : Hid (n2 + 1 ≤ n + 2 ^ k) := by
     have h1 := HN2.out
     have h2 : 2 ^ (min (j + 1) k) ≤ 2 ^ k := Nat.pow_le_pow_right (by omega) (by omega)
     show _ ≤ _
     omega
    go_wp2_with fail
    go_ret
    exact ⟨ret_bool HSS.out.symm, n2, D2, ME6.out, HS6.out, HN3.out, GR6.out⟩
  ·have HSS := Lib.hid (show R = false by rw [hg.out, drop_end (by rw [List.length_map, N1.out]; omega)]; rfl)
   have HN3 : Hid (n' + 1 ≤ n + 2 ^ k) := by
    have h1 := hn'.out
    have h2 : 2 ^ (min j k) ≤ 2 ^ k := Nat.pow_le_pow_right (by omega) (by omega)
    show _ ≤ _
    omega
   go_wp2_with fail
   go_ret
   exact ⟨ret_bool HSS.out.symm, n', D', ME.out, HS.out, HN3.out, GR.out⟩
set_option linter.unusedSimpArgs false
set_option maxRecDepth 100000 in
set_option maxHeartbeats 12800000 in
theorem isHolding_some (b off : Nat) (vl vc mb : Nat) (q x0 x1 x2 x3 er en m y0 y1 y2 y3 : Int) (l : List ActM) (xs : List Int) (ts : List ActT) (g : ActT) (k F V H M n : Nat) (cs : List Value) (S : DataW Unit → Prop) (D : DataW Unit) (w0 w : World)
  (hll : l = ts.map ActT.a) (h1 : ts.length = vl) (hb : b < w0.heap.size) (hc : ∀ i, i < vl → ActAt w0 b (off + i * 11) (ts.getD i t0)) (hts : ActsT w0 (.slice (some ⟨b, off, none⟩) vl vc) ts) (hl : vl ≤ 9223372036854775807) (hg : g.Reads w0)
  (hbel : Below w0.heap.size w0 w) (hM : w0.heap.size ≤ M) (hmemo : Memo w F V H M n cs D) (hS : S D) (hn : n + 2 ^ k ≤ 2 ^ 62)
  (hkn : ∀ j, j < vl → knowsM g.a (ts.getD j t0).a = true → j < k)
  (hC : ∀ j, j < k → ∀ W n' D', Below w0.heap.size w0 W → Memo W F V H M n' cs D' → S D' → n' + 2 ^ j ≤ 2 ^ 62 → Calls Tryz.prog 174 #[.int .i64 (j : Int), .pointer (some ⟨F, 0, none⟩), .pointer (some ⟨V, 0, none⟩), .pointer (some ⟨H, 0, none⟩)] W (HoldRet W F V H M n' cs S (holdK l er en xs j) (2 ^ j)))
  (h0 : 0 ≤ g.a.r) (h4 : g.a.r < 4) (hy : [y0, y1, y2, y3].getD g.a.r.toNat 0 = xs.getD g.a.r.toNat 0) (he : ∀ t ∈ ts, er < t.a.dep.length)
  (hP : holdK l er en xs k = (decide (g.a.kind = 1) && pastM xs g.a && !tkbM l er en g.a && (decide (g.a.actor = 0) || onM l er en xs g.a 0 l))) :
  Calls Tryz.prog 175 #[.agg #[.slice (some ⟨b, off, none⟩) vl vc, .map (some mb), .int .i64 q, .int .i64 x0, .int .i64 x1, .int .i64 x2, .int .i64 x3, .int .i64 er, .int .i64 en, .int .i64 m, .int .i64 y0, .int .i64 y1, .int .i64 y2, .int .i64 y3], g.val, .func (.func 174) #[] #[.pointer (some ⟨F, 0, none⟩), .pointer (some ⟨V, 0, none⟩), .pointer (some ⟨H, 0, none⟩)]] w fun e w' => e = .returned (.bool (holdK l er en xs k)) ∧ ∃ n' D', Memo w' F V H M n' cs D' ∧ S D' ∧ n' + 1 ≤ n + 2 ^ k ∧ GrOn [M] w w' := by
 subst hll
 have HO := Lib.hid (fun W (hW : Below w0.heap.size w0 W) (hm : Memo W F V H M n cs D) => handedOn_some b off vl vc mb q x0 x1 x2 x3 er en m y0 y1 y2 y3 (ts.map ActT.a) xs ts g k F V H M n cs S D w0 W h1 hb hc hts.1 hl hg hW hM hm hS hn hkn hC)
 have PA := Lib.hid (fun W (h : g.Reads W) => isPast_any (some ⟨b, off, none⟩) vl vc mb q x0 x1 x2 x3 er en m y0 y1 y2 y3 xs g W h h0 h4 hy)
 have TB := Lib.hid (fun W (hW : Below w0.heap.size w0 W) => isTakenBack_any (some ⟨b, off, none⟩) vl vc mb q x0 x1 x2 x3 er en m y0 y1 y2 y3 ts g W (hts.below hW) (hg.below hW) he)
 obtain ⟨R, hR⟩ : ∃ R, R = holdK (ts.map ActT.a) er en xs k := ⟨_, rfl⟩
 rw [← hR] at hP ⊢
 obtain ⟨Y, hY⟩ : ∃ Y, Y = pastM xs g.a := ⟨_, rfl⟩
 obtain ⟨Z, hZ⟩ : ∃ Z, Z = tkbM (ts.map ActT.a) er en g.a := ⟨_, rfl⟩
 obtain ⟨U, hU⟩ : ∃ U, U = onM (ts.map ActT.a) er en xs g.a 0 (ts.map ActT.a) := ⟨_, rfl⟩
 rw [← hY] at PA hP
 rw [← hZ] at TB hP
 rw [← hU] at HO hP
 have HP := Lib.hid hP
 have HG := Lib.hid hg
 have ME := Lib.hid hmemo
 have HS := Lib.hid hS
 have BW := Lib.hid hbel
 have SZ0 := Lib.hid hbel.size
 have HMm := Lib.hid hM
 have HP1 : Hid (n + 1 ≤ n + 2 ^ k) := by
  have := Nat.one_le_two_pow (n := k)
  show _ ≤ _
  omega
 have GR := Lib.hid (GrOn.refl [M] w)
 have MLT := Lib.hid ME.out.own.lt
 clear h1 hb hc hts hl hg hbel hM hmemo hS hn hkn hC h0 h4 hy he hP hR hY hZ hU
 obtain ⟨⟨r, nn, dep, actor, kind, dst, bucket, mask, gr, gn, ups⟩, vd, vs⟩ := g
 have hsd := ints_len HG.out.1
 have hsu := ups_len HG.out.2
 simp only at hsd hsu
 obtain ⟨da, dc, rfl⟩ := hsd
 obtain ⟨ua, uc, rfl⟩ := hsu
 try simp only [ActT.val] at HO PA TB HP ⊢
 obtain ⟨dl, hdl⟩ : ∃ x, x = dep.length := ⟨_, rfl⟩
 obtain ⟨ul, hul⟩ : ∃ x, x = ups.length := ⟨_, rfl⟩
 try rw [← hdl] at HG
 try rw [← hul] at HG
 try rw [← hdl] at HO
 try rw [← hul] at HO
 try rw [← hdl] at PA
 try rw [← hul] at PA
 try rw [← hdl] at TB
 try rw [← hul] at TB
 try rw [← hdl] at HP
 try rw [← hul] at HP
 try rw [← hdl]
 try rw [← hul]
 have HDL := Lib.hid hdl
 clear hdl hul
 try simp only at HP
 by_cases q1 : kind = 1
 rotate_left
 ·have e1 : (kind == 1) = false := by simp [q1]
  have HRF := Lib.hid (show R = false by rw [HP.out]; simp [q1])
  clear q1
  go_enter Tryz.func175, Tryz.ntmps175
  have kA := (Blk.new w #[.slice (some ⟨b, off, none⟩) vl vc, .map (some mb), .int .i64 q, .int .i64 x0, .int .i64 x1, .int .i64 x2, .int .i64 x3, .int .i64 er, .int .i64 en, .int .i64 m, .int .i64 y0, .int .i64 y1, .int .i64 y2, .int .i64 y3] 133).alloc (.cells #[.int .i64 r, .int .i64 nn, .slice da dl dc, .int .i64 actor, .int .i64 kind, .int .i64 dst, .int .i64 bucket, .int .i64 mask, .int .i64 gr, .int .i64 gn, .slice ua ul uc] 32)
  have kB := Blk.new (w.alloc (.cells #[.slice (some ⟨b, off, none⟩) vl vc, .map (some mb), .int .i64 q, .int .i64 x0, .int .i64 x1, .int .i64 x2, .int .i64 x3, .int .i64 er, .int .i64 en, .int .i64 m, .int .i64 y0, .int .i64 y1, .int .i64 y2, .int .i64 y3] 133)) #[.int .i64 r, .int .i64 nn, .slice da dl dc, .int .i64 actor, .int .i64 kind, .int .i64 dst, .int .i64 bucket, .int .i64 mask, .int .i64 gr, .int .i64 gn, .slice ua ul uc] 32
  simp only [World.size_alloc] at kB
  have ba := ((Below.refl w.heap.size w).alloc (Nat.le_refl _) (.cells #[.slice (some ⟨b, off, none⟩) vl vc, .map (some mb), .int .i64 q, .int .i64 x0, .int .i64 x1, .int .i64 x2, .int .i64 x3, .int .i64 er, .int .i64 en, .int .i64 m, .int .i64 y0, .int .i64 y1, .int .i64 y2, .int .i64 y3] 133)).alloc (by simp [World.size_alloc]; try omega) (.cells #[.int .i64 r, .int .i64 nn, .slice da dl dc, .int .i64 actor, .int .i64 kind, .int .i64 dst, .int .i64 bucket, .int .i64 mask, .int .i64 gr, .int .i64 gn, .slice ua ul uc] 32)
  obtain ⟨pA, hpA⟩ : ∃ p, p = w.heap.size := ⟨_, rfl⟩
  obtain ⟨pB, hpB⟩ : ∃ p, p = w.heap.size + 1 := ⟨_, rfl⟩
  go_upto_region 1 with (fail)
  rw [← hpB] at kB
  try rw [← hpB]
  rw [← hpA] at kA
  try rw [← hpA]
  obtain ⟨w1, hW⟩ : ∃ W, W = (w.alloc (.cells #[.slice (some ⟨b, off, none⟩) vl vc, .map (some mb), .int .i64 q, .int .i64 x0, .int .i64 x1, .int .i64 x2, .int .i64 x3, .int .i64 er, .int .i64 en, .int .i64 m, .int .i64 y0, .int .i64 y1, .int .i64 y2, .int .i64 y3] 133)).alloc (.cells #[.int .i64 r, .int .i64 nn, .slice da dl dc, .int .i64 actor, .int .i64 kind, .int .i64 dst, .int .i64 bucket, .int .i64 mask, .int .i64 gr, .int .i64 gn, .slice ua ul uc] 32) := ⟨_, rfl⟩
  rw [← hW] at ba kA kB ⊢
  have KA := Lib.hid kA
  have GA := Lib.hid (show w.heap.size ≤ pA by omega)
  have KB := Lib.hid kB
  have GB := Lib.hid (show w.heap.size ≤ pB by omega)
  have NEA_B := Lib.hid (show pA ≠ pB by omega)
  replace BW := Lib.hid (BW.out.trans ((ba).mono BW.out.size))
  replace ME := Lib.hid (ME.out.below (ba))
  replace GR := Lib.hid (GR.out.trans (GrOn.of_below (ba) [M]))
  clear ba hW kA hpA kB hpB
  have kb0 := KB.out.cell 0
  have kb1 := KB.out.cell 1
  have kb2 := KB.out.cell 2
  have kb3 := KB.out.cell 3
  have kb4 := KB.out.cell 4
  have kb5 := KB.out.cell 5
  have kb6 := KB.out.cell 6
  have kb7 := KB.out.cell 7
  have kb8 := KB.out.cell 8
  have kb9 := KB.out.cell 9
  have kb10 := KB.out.cell 10
  simp only [List.getElem?_cons_zero, List.getElem?_cons_succ] at kb0 kb1 kb2 kb3 kb4 kb5 kb6 kb7 kb8 kb9 kb10
  go_wp2_with fail
  go_ret
  exact ⟨ret_bool HRF.out.symm, n, D, ME.out, HS.out, HP1.out, GR.out⟩
 have e1 : (kind == 1) = true := by simp [q1]
 have HPP := Lib.hid (show R = (Y && !Z && (decide (actor = 0) || U)) by rw [HP.out, q1]; simp)
 clear q1 HP
 by_cases q2 : actor = 0
 ·have e2 : (actor == 0) = true := by simp [q2]
  have HR2 := Lib.hid (show R = (Y && !Z) by rw [HPP.out]; simp [q2])
  clear q2 HPP
  go_enter Tryz.func175, Tryz.ntmps175
  have kA := (Blk.new w #[.slice (some ⟨b, off, none⟩) vl vc, .map (some mb), .int .i64 q, .int .i64 x0, .int .i64 x1, .int .i64 x2, .int .i64 x3, .int .i64 er, .int .i64 en, .int .i64 m, .int .i64 y0, .int .i64 y1, .int .i64 y2, .int .i64 y3] 133).alloc (.cells #[.int .i64 r, .int .i64 nn, .slice da dl dc, .int .i64 actor, .int .i64 kind, .int .i64 dst, .int .i64 bucket, .int .i64 mask, .int .i64 gr, .int .i64 gn, .slice ua ul uc] 32)
  have kB := Blk.new (w.alloc (.cells #[.slice (some ⟨b, off, none⟩) vl vc, .map (some mb), .int .i64 q, .int .i64 x0, .int .i64 x1, .int .i64 x2, .int .i64 x3, .int .i64 er, .int .i64 en, .int .i64 m, .int .i64 y0, .int .i64 y1, .int .i64 y2, .int .i64 y3] 133)) #[.int .i64 r, .int .i64 nn, .slice da dl dc, .int .i64 actor, .int .i64 kind, .int .i64 dst, .int .i64 bucket, .int .i64 mask, .int .i64 gr, .int .i64 gn, .slice ua ul uc] 32
  simp only [World.size_alloc] at kB
  have ba := ((Below.refl w.heap.size w).alloc (Nat.le_refl _) (.cells #[.slice (some ⟨b, off, none⟩) vl vc, .map (some mb), .int .i64 q, .int .i64 x0, .int .i64 x1, .int .i64 x2, .int .i64 x3, .int .i64 er, .int .i64 en, .int .i64 m, .int .i64 y0, .int .i64 y1, .int .i64 y2, .int .i64 y3] 133)).alloc (by simp [World.size_alloc]; try omega) (.cells #[.int .i64 r, .int .i64 nn, .slice da dl dc, .int .i64 actor, .int .i64 kind, .int .i64 dst, .int .i64 bucket, .int .i64 mask, .int .i64 gr, .int .i64 gn, .slice ua ul uc] 32)
  obtain ⟨pA, hpA⟩ : ∃ p, p = w.heap.size := ⟨_, rfl⟩
  obtain ⟨pB, hpB⟩ : ∃ p, p = w.heap.size + 1 := ⟨_, rfl⟩
  go_upto_region 1 with (fail)
  rw [← hpB] at kB
  try rw [← hpB]
  rw [← hpA] at kA
  try rw [← hpA]
  obtain ⟨w1, hW⟩ : ∃ W, W = (w.alloc (.cells #[.slice (some ⟨b, off, none⟩) vl vc, .map (some mb), .int .i64 q, .int .i64 x0, .int .i64 x1, .int .i64 x2, .int .i64 x3, .int .i64 er, .int .i64 en, .int .i64 m, .int .i64 y0, .int .i64 y1, .int .i64 y2, .int .i64 y3] 133)).alloc (.cells #[.int .i64 r, .int .i64 nn, .slice da dl dc, .int .i64 actor, .int .i64 kind, .int .i64 dst, .int .i64 bucket, .int .i64 mask, .int .i64 gr, .int .i64 gn, .slice ua ul uc] 32) := ⟨_, rfl⟩
  rw [← hW] at ba kA kB ⊢
  have KA := Lib.hid kA
  have GA := Lib.hid (show w.heap.size ≤ pA by omega)
  have KB := Lib.hid kB
  have GB := Lib.hid (show w.heap.size ≤ pB by omega)
  have NEA_B := Lib.hid (show pA ≠ pB by omega)
  replace BW := Lib.hid (BW.out.trans ((ba).mono BW.out.size))
  replace ME := Lib.hid (ME.out.below (ba))
  replace GR := Lib.hid (GR.out.trans (GrOn.of_below (ba) [M]))
  clear ba hW kA hpA kB hpB
  have kb0 := KB.out.cell 0
  have kb1 := KB.out.cell 1
  have kb2 := KB.out.cell 2
  have kb3 := KB.out.cell 3
  have kb4 := KB.out.cell 4
  have kb5 := KB.out.cell 5
  have kb6 := KB.out.cell 6
  have kb7 := KB.out.cell 7
  have kb8 := KB.out.cell 8
  have kb9 := KB.out.cell 9
  have kb10 := KB.out.cell 10
  simp only [List.getElem?_cons_zero, List.getElem?_cons_succ] at kb0 kb1 kb2 kb3 kb4 kb5 kb6 kb7 kb8 kb9 kb10
  have ka0 := KA.out.cell 0
  have ka1 := KA.out.cell 1
  have ka2 := KA.out.cell 2
  have ka3 := KA.out.cell 3
  have ka4 := KA.out.cell 4
  have ka5 := KA.out.cell 5
  have ka6 := KA.out.cell 6
  have ka7 := KA.out.cell 7
  have ka8 := KA.out.cell 8
  have ka9 := KA.out.cell 9
  have ka10 := KA.out.cell 10
  have ka11 := KA.out.cell 11
  have ka12 := KA.out.cell 12
  have ka13 := KA.out.cell 13
  simp only [List.getElem?_cons_zero, List.getElem?_cons_succ] at ka0 ka1 ka2 ka3 ka4 ka5 ka6 ka7 ka8 ka9 ka10 ka11 ka12 ka13
  go_wp2_with fail
  refine (PA.out _ (HG.out.below BW.out)).mono ?_
  rintro e w2 ⟨rfl, b⟩
  clear kb0 kb1 kb2 kb3 kb4 kb5 kb6 kb7 kb8 kb9 kb10 ka0 ka1 ka2 ka3 ka4 ka5 ka6 ka7 ka8 ka9 ka10 ka11 ka12 ka13
  replace BW := Lib.hid (BW.out.trans ((b).mono BW.out.size))
  replace ME := Lib.hid (ME.out.below (b))
  replace GR := Lib.hid (GR.out.trans (GrOn.of_below (b) [M]))
  replace KA := Lib.hid (KA.out.below (b) KA.out.lt)
  replace KB := Lib.hid (KB.out.below (b) KB.out.lt)
  clear b
  cases Y
  ·go_wp2_with fail
   go_ret
   exact ⟨ret_bool (by rw [HR2.out]; simp), n, D, ME.out, HS.out, HP1.out, GR.out⟩
  have kb0 := KB.out.cell 0
  have kb1 := KB.out.cell 1
  have kb2 := KB.out.cell 2
  have kb3 := KB.out.cell 3
  have kb4 := KB.out.cell 4
  have kb5 := KB.out.cell 5
  have kb6 := KB.out.cell 6
  have kb7 := KB.out.cell 7
  have kb8 := KB.out.cell 8
  have kb9 := KB.out.cell 9
  have kb10 := KB.out.cell 10
  simp only [List.getElem?_cons_zero, List.getElem?_cons_succ] at kb0 kb1 kb2 kb3 kb4 kb5 kb6 kb7 kb8 kb9 kb10
  have ka0 := KA.out.cell 0
  have ka1 := KA.out.cell 1
  have ka2 := KA.out.cell 2
  have ka3 := KA.out.cell 3
  have ka4 := KA.out.cell 4
  have ka5 := KA.out.cell 5
  have ka6 := KA.out.cell 6
  have ka7 := KA.out.cell 7
  have ka8 := KA.out.cell 8
  have ka9 := KA.out.cell 9
  have ka10 := KA.out.cell 10
  have ka11 := KA.out.cell 11
  have ka12 := KA.out.cell 12
  have ka13 := KA.out.cell 13
  simp only [List.getElem?_cons_zero, List.getElem?_cons_succ] at ka0 ka1 ka2 ka3 ka4 ka5 ka6 ka7 ka8 ka9 ka10 ka11 ka12 ka13
  go_wp2_with fail
  refine (TB.out _ BW.out).mono ?_
  rintro e w3 ⟨rfl, b⟩
  clear kb0 kb1 kb2 kb3 kb4 kb5 kb6 kb7 kb8 kb9 kb10 ka0 ka1 ka2 ka3 ka4 ka5 ka6 ka7 ka8 ka9 ka10 ka11 ka12 ka13
  replace BW := Lib.hid (BW.out.trans ((b).mono BW.out.size))
  replace ME := Lib.hid (ME.out.below (b))
  replace GR := Lib.hid (GR.out.trans (GrOn.of_below (b) [M]))
  replace KA := Lib.hid (KA.out.below (b) KA.out.lt)
  replace KB := Lib.hid (KB.out.below (b) KB.out.lt)
  clear b
  cases Z
  rotate_left
  ·go_wp2_with fail
   go_ret
   exact ⟨ret_bool (by rw [HR2.out]; simp), n, D, ME.out, HS.out, HP1.out, GR.out⟩
  have kb0 := KB.out.cell 0
  have kb1 := KB.out.cell 1
  have kb2 := KB.out.cell 2
  have kb3 := KB.out.cell 3
  have kb4 := KB.out.cell 4
  have kb5 := KB.out.cell 5
  have kb6 := KB.out.cell 6
  have kb7 := KB.out.cell 7
  have kb8 := KB.out.cell 8
  have kb9 := KB.out.cell 9
  have kb10 := KB.out.cell 10
  simp only [List.getElem?_cons_zero, List.getElem?_cons_succ] at kb0 kb1 kb2 kb3 kb4 kb5 kb6 kb7 kb8 kb9 kb10
  have ka0 := KA.out.cell 0
  have ka1 := KA.out.cell 1
  have ka2 := KA.out.cell 2
  have ka3 := KA.out.cell 3
  have ka4 := KA.out.cell 4
  have ka5 := KA.out.cell 5
  have ka6 := KA.out.cell 6
  have ka7 := KA.out.cell 7
  have ka8 := KA.out.cell 8
  have ka9 := KA.out.cell 9
  have ka10 := KA.out.cell 10
  have ka11 := KA.out.cell 11
  have ka12 := KA.out.cell 12
  have ka13 := KA.out.cell 13
  simp only [List.getElem?_cons_zero, List.getElem?_cons_succ] at ka0 ka1 ka2 ka3 ka4 ka5 ka6 ka7 ka8 ka9 ka10 ka11 ka12 ka13
  go_wp2_with fail
  go_ret
  exact ⟨ret_bool (by rw [HR2.out]; simp), n, D, ME.out, HS.out, HP1.out, GR.out⟩
 ·have e2 : (actor == 0) = false := by simp [q2]
  have HR2 := Lib.hid (show R = (Y && !Z && U) by rw [HPP.out]; simp [q2])
  clear q2 HPP
  go_enter Tryz.func175, Tryz.ntmps175
  have kA := (Blk.new w #[.slice (some ⟨b, off, none⟩) vl vc, .map (some mb), .int .i64 q, .int .i64 x0, .int .i64 x1, .int .i64 x2, .int .i64 x3, .int .i64 er, .int .i64 en, .int .i64 m, .int .i64 y0, .int .i64 y1, .int .i64 y2, .int .i64 y3] 133).alloc (.cells #[.int .i64 r, .int .i64 nn, .slice da dl dc, .int .i64 actor, .int .i64 kind, .int .i64 dst, .int .i64 bucket, .int .i64 mask, .int .i64 gr, .int .i64 gn, .slice ua ul uc] 32)
  have kB := Blk.new (w.alloc (.cells #[.slice (some ⟨b, off, none⟩) vl vc, .map (some mb), .int .i64 q, .int .i64 x0, .int .i64 x1, .int .i64 x2, .int .i64 x3, .int .i64 er, .int .i64 en, .int .i64 m, .int .i64 y0, .int .i64 y1, .int .i64 y2, .int .i64 y3] 133)) #[.int .i64 r, .int .i64 nn, .slice da dl dc, .int .i64 actor, .int .i64 kind, .int .i64 dst, .int .i64 bucket, .int .i64 mask, .int .i64 gr, .int .i64 gn, .slice ua ul uc] 32
  simp only [World.size_alloc] at kB
  have ba := ((Below.refl w.heap.size w).alloc (Nat.le_refl _) (.cells #[.slice (some ⟨b, off, none⟩) vl vc, .map (some mb), .int .i64 q, .int .i64 x0, .int .i64 x1, .int .i64 x2, .int .i64 x3, .int .i64 er, .int .i64 en, .int .i64 m, .int .i64 y0, .int .i64 y1, .int .i64 y2, .int .i64 y3] 133)).alloc (by simp [World.size_alloc]; try omega) (.cells #[.int .i64 r, .int .i64 nn, .slice da dl dc, .int .i64 actor, .int .i64 kind, .int .i64 dst, .int .i64 bucket, .int .i64 mask, .int .i64 gr, .int .i64 gn, .slice ua ul uc] 32)
  obtain ⟨pA, hpA⟩ : ∃ p, p = w.heap.size := ⟨_, rfl⟩
  obtain ⟨pB, hpB⟩ : ∃ p, p = w.heap.size + 1 := ⟨_, rfl⟩
  go_upto_region 1 with (fail)
  rw [← hpB] at kB
  try rw [← hpB]
  rw [← hpA] at kA
  try rw [← hpA]
  obtain ⟨w1, hW⟩ : ∃ W, W = (w.alloc (.cells #[.slice (some ⟨b, off, none⟩) vl vc, .map (some mb), .int .i64 q, .int .i64 x0, .int .i64 x1, .int .i64 x2, .int .i64 x3, .int .i64 er, .int .i64 en, .int .i64 m, .int .i64 y0, .int .i64 y1, .int .i64 y2, .int .i64 y3] 133)).alloc (.cells #[.int .i64 r, .int .i64 nn, .slice da dl dc, .int .i64 actor, .int .i64 kind, .int .i64 dst, .int .i64 bucket, .int .i64 mask, .int .i64 gr, .int .i64 gn, .slice ua ul uc] 32) := ⟨_, rfl⟩
  rw [← hW] at ba kA kB ⊢
  have KA := Lib.hid kA
  have GA := Lib.hid (show w.heap.size ≤ pA by omega)
  have KB := Lib.hid kB
  have GB := Lib.hid (show w.heap.size ≤ pB by omega)
  have NEA_B := Lib.hid (show pA ≠ pB by omega)
  replace BW := Lib.hid (BW.out.trans ((ba).mono BW.out.size))
  replace ME := Lib.hid (ME.out.below (ba))
  replace GR := Lib.hid (GR.out.trans (GrOn.of_below (ba) [M]))
  clear ba hW kA hpA kB hpB
  have kb0 := KB.out.cell 0
  have kb1 := KB.out.cell 1
  have kb2 := KB.out.cell 2
  have kb3 := KB.out.cell 3
  have kb4 := KB.out.cell 4
  have kb5 := KB.out.cell 5
  have kb6 := KB.out.cell 6
  have kb7 := KB.out.cell 7
  have kb8 := KB.out.cell 8
  have kb9 := KB.out.cell 9
  have kb10 := KB.out.cell 10
  simp only [List.getElem?_cons_zero, List.getElem?_cons_succ] at kb0 kb1 kb2 kb3 kb4 kb5 kb6 kb7 kb8 kb9 kb10
  have ka0 := KA.out.cell 0
  have ka1 := KA.out.cell 1
  have ka2 := KA.out.cell 2
  have ka3 := KA.out.cell 3
  have ka4 := KA.out.cell 4
  have ka5 := KA.out.cell 5
  have ka6 := KA.out.cell 6
  have ka7 := KA.out.cell 7
  have ka8 := KA.out.cell 8
  have ka9 := KA.out.cell 9
  have ka10 := KA.out.cell 10
  have ka11 := KA.out.cell 11
  have ka12 := KA.out.cell 12
  have ka13 := KA.out.cell 13
  simp only [List.getElem?_cons_zero, List.getElem?_cons_succ] at ka0 ka1 ka2 ka3 ka4 ka5 ka6 ka7 ka8 ka9 ka10 ka11 ka12 ka13
  go_wp2_with fail
  refine (PA.out _ (HG.out.below BW.out)).mono ?_
  rintro e w2 ⟨rfl, b⟩
  clear kb0 kb1 kb2 kb3 kb4 kb5 kb6 kb7 kb8 kb9 kb10 ka0 ka1 ka2 ka3 ka4 ka5 ka6 ka7 ka8 ka9 ka10 ka11 ka12 ka13
  replace BW := Lib.hid (BW.out.trans ((b).mono BW.out.size))
  replace ME := Lib.hid (ME.out.below (b))
  replace GR := Lib.hid (GR.out.trans (GrOn.of_below (b) [M]))
  replace KA := Lib.hid (KA.out.below (b) KA.out.lt)
  replace KB := Lib.hid (KB.out.below (b) KB.out.lt)
  clear b
  cases Y
  ·go_wp2_with fail
   go_ret
   exact ⟨ret_bool (by rw [HR2.out]; simp), n, D, ME.out, HS.out, HP1.out, GR.out⟩
  have kb0 := KB.out.cell 0
  have kb1 := KB.out.cell 1
  have kb2 := KB.out.cell 2
  have kb3 := KB.out.cell 3
  have kb4 := KB.out.cell 4
  have kb5 := KB.out.cell 5
  have kb6 := KB.out.cell 6
  have kb7 := KB.out.cell 7
  have kb8 := KB.out.cell 8
  have kb9 := KB.out.cell 9
  have kb10 := KB.out.cell 10
  simp only [List.getElem?_cons_zero, List.getElem?_cons_succ] at kb0 kb1 kb2 kb3 kb4 kb5 kb6 kb7 kb8 kb9 kb10
  have ka0 := KA.out.cell 0
  have ka1 := KA.out.cell 1
  have ka2 := KA.out.cell 2
  have ka3 := KA.out.cell 3
  have ka4 := KA.out.cell 4
  have ka5 := KA.out.cell 5
  have ka6 := KA.out.cell 6
  have ka7 := KA.out.cell 7
  have ka8 := KA.out.cell 8
  have ka9 := KA.out.cell 9
  have ka10 := KA.out.cell 10
  have ka11 := KA.out.cell 11
  have ka12 := KA.out.cell 12
  have ka13 := KA.out.cell 13
  simp only [List.getElem?_cons_zero, List.getElem?_cons_succ] at ka0 ka1 ka2 ka3 ka4 ka5 ka6 ka7 ka8 ka9 ka10 ka11 ka12 ka13
  go_wp2_with fail
  refine (TB.out _ BW.out).mono ?_
  rintro e w3 ⟨rfl, b⟩
  clear kb0 kb1 kb2 kb3 kb4 kb5 kb6 kb7 kb8 kb9 kb10 ka0 ka1 ka2 ka3 ka4 ka5 ka6 ka7 ka8 ka9 ka10 ka11 ka12 ka13
  replace BW := Lib.hid (BW.out.trans ((b).mono BW.out.size))
  replace ME := Lib.hid (ME.out.below (b))
  replace GR := Lib.hid (GR.out.trans (GrOn.of_below (b) [M]))
  replace KA := Lib.hid (KA.out.below (b) KA.out.lt)
  replace KB := Lib.hid (KB.out.below (b) KB.out.lt)
  clear b
  cases Z
  rotate_left
  ·go_wp2_with fail
   go_ret
   exact ⟨ret_bool (by rw [HR2.out]; simp), n, D, ME.out, HS.out, HP1.out, GR.out⟩
  have kb0 := KB.out.cell 0
  have kb1 := KB.out.cell 1
  have kb2 := KB.out.cell 2
  have kb3 := KB.out.cell 3
  have kb4 := KB.out.cell 4
  have kb5 := KB.out.cell 5
  have kb6 := KB.out.cell 6
  have kb7 := KB.out.cell 7
  have kb8 := KB.out.cell 8
  have kb9 := KB.out.cell 9
  have kb10 := KB.out.cell 10
  simp only [List.getElem?_cons_zero, List.getElem?_cons_succ] at kb0 kb1 kb2 kb3 kb4 kb5 kb6 kb7 kb8 kb9 kb10
  have ka0 := KA.out.cell 0
  have ka1 := KA.out.cell 1
  have ka2 := KA.out.cell 2
  have ka3 := KA.out.cell 3
  have ka4 := KA.out.cell 4
  have ka5 := KA.out.cell 5
  have ka6 := KA.out.cell 6
  have ka7 := KA.out.cell 7
  have ka8 := KA.out.cell 8
  have ka9 := KA.out.cell 9
  have ka10 := KA.out.cell 10
  have ka11 := KA.out.cell 11
  have ka12 := KA.out.cell 12
  have ka13 := KA.out.cell 13
  simp only [List.getElem?_cons_zero, List.getElem?_cons_succ] at ka0 ka1 ka2 ka3 ka4 ka5 ka6 ka7 ka8 ka9 ka10 ka11 ka12 ka13
  go_wp2_with fail
  refine (HO.out _ BW.out ME.out).mono ?_
  rintro e w6 ⟨rfl, n2, D2, m6, s6, h6, g6⟩
  clear kb0 kb1 kb2 kb3 kb4 kb5 kb6 kb7 kb8 kb9 kb10 ka0 ka1 ka2 ka3 ka4 ka5 ka6 ka7 ka8 ka9 ka10 ka11 ka12 ka13
  have ME6 := Lib.hid m6
  have HS6 := Lib.hid s6
  have HP6 := Lib.hid h6
  have GR6 := Lib.hid (GR.out.trans g6)
  clear m6 s6 h6 g6
  go_wp2_with fail
  go_ret
  exact ⟨ret_bool (by rw [HR2.out]; simp), n2, D2, ME6.out, HS6.out, HP6.out, GR6.out⟩
set_option linter.unusedSimpArgs false
def SoundM (len : Nat) (f : Nat → Bool) (D : DataW Unit) : Prop := ∀ j : Nat, j < len → Maps.has D (.int .i64 (j : Int)) = true → D.atKey (.int .i64 (j : Int)) (.lit (.bool false)) = .lit (.bool (f j))
theorem sound_put {len : Nat} {f : Nat → Bool} {D : DataW Unit} (h : SoundM len f D) (hD : Maps.IsMap D) (k : Nat) : SoundM len f (D.put (.int .i64 (k : Int)) (.lit (.bool (f k)))) := by
 intro j hj hh
 by_cases e : j = k
 ·subst e
  exact Maps.atKey_put_same hD (show WideAt.IsKeyLit (.int .i64 (j : Int)) from trivial) _ _
 ·have hne : Lit.int .i64 (j : Int) ≠ .int .i64 (k : Int) := by
   intro h2
   have h3 : (j : Int) = k := by simpa using h2
   exact e (by omega)
  rw [Maps.has_put_other hne] at hh
  rw [Maps.atKey_put_other hne]
  exact h j hj hh
theorem sound_nil (len : Nat) (f : Nat → Bool) : SoundM len f (.map []) := fun j _ hh => by cases hh
theorem memo_inv {v : Value} {d : DataW Unit} {ps : List MemPlace} (h : memoR v = some (d, ps)) : ∃ bb, v = .bool bb ∧ d = .lit (.bool bb) := by
 unfold memoR at h
 split at h
 ·rename_i bb
  simp only [Option.some.injEq, Prod.mk.injEq] at h
  exact ⟨bb, rfl, h.1.symm⟩
 ·cases h
theorem intKeyed : Maps.Keyed Tryz.prog 3 := Maps.int_keyed Tryz.underlying3
theorem intKey (k : Nat) (h : k ≤ 9223372036854775807) : keyOf Tryz.prog 3 (.int .i64 (k : Int)) = some (.int .i64 (k : Int)) := by
 rw [keyOf_int Tryz.underlying3]
 have hw : (Lit.int .i64 (k : Int)).wf = true := by simp [Lit.wf, IntKind.min, IntKind.max, IntKind.signed, IntKind.bits]; omega
 simp [mapKey, Tryz.underlying3, hw]
set_option maxRecDepth 100000 in
set_option maxHeartbeats 12800000 in
theorem holdC (b off : Nat) (vl vc mb : Nat) (q x0 x1 x2 x3 er en m y0 y1 y2 y3 : Int) (l : List ActM) (xs : List Int) (ts : List ActT) (F V H M : Nat) (w0 : World)
  (hll : l = ts.map ActT.a) (h1 : ts.length = vl) (hb : b < w0.heap.size) (hc : ∀ i, i < vl → ActAt w0 b (off + i * 11) (ts.getD i t0)) (hts : ActsT w0 (.slice (some ⟨b, off, none⟩) vl vc) ts) (hl : vl ≤ 60) (hM : w0.heap.size ≤ M)
  (hkn : ∀ k j, k < vl → j < vl → knowsM (ts.getD k t0).a (ts.getD j t0).a = true → j < k)
  (hy : ∀ t ∈ ts, 0 ≤ t.a.r ∧ t.a.r < 4 ∧ [y0, y1, y2, y3].getD t.a.r.toNat 0 = xs.getD t.a.r.toNat 0) (he : ∀ t ∈ ts, er < t.a.dep.length)
  (hP : ∀ k, k < vl → holdK l er en xs k = (decide ((ts.getD k t0).a.kind = 1) && pastM xs (ts.getD k t0).a && !tkbM l er en (ts.getD k t0).a && (decide ((ts.getD k t0).a.actor = 0) || onM l er en xs (ts.getD k t0).a 0 l))) :
  ∀ k, k < vl → ∀ (w : World) (n : Nat) (D : DataW Unit), Below w0.heap.size w0 w → Memo w F V H M n [.slice (some ⟨b, off, none⟩) vl vc, .map (some mb), .int .i64 q, .int .i64 x0, .int .i64 x1, .int .i64 x2, .int .i64 x3, .int .i64 er, .int .i64 en, .int .i64 m, .int .i64 y0, .int .i64 y1, .int .i64 y2, .int .i64 y3] D → SoundM vl (holdK l er en xs) D → n + 2 ^ k ≤ 2 ^ 62 →
   Calls Tryz.prog 174 #[.int .i64 (k : Int), .pointer (some ⟨F, 0, none⟩), .pointer (some ⟨V, 0, none⟩), .pointer (some ⟨H, 0, none⟩)] w (HoldRet w F V H M n [.slice (some ⟨b, off, none⟩) vl vc, .map (some mb), .int .i64 q, .int .i64 x0, .int .i64 x1, .int .i64 x2, .int .i64 x3, .int .i64 er, .int .i64 en, .int .i64 m, .int .i64 y0, .int .i64 y1, .int .i64 y2, .int .i64 y3] (SoundM vl (holdK l er en xs)) (holdK l er en xs k) (2 ^ k)) := by
 intro k
 induction k using Nat.strongRecOn with
 | ind k ih =>
  intro hk w n D hbel hm hS hn
  have hm0 := getD_mem (ts := ts) (i := k) (by omega)
  have HG0 := hts.1 _ hm0
  have AT0 := hc k hk
  have IH := Lib.hid (fun W (hW : Below w0.heap.size w0 W) (hmm : Memo W F V H M n [.slice (some ⟨b, off, none⟩) vl vc, .map (some mb), .int .i64 q, .int .i64 x0, .int .i64 x1, .int .i64 x2, .int .i64 x3, .int .i64 er, .int .i64 en, .int .i64 m, .int .i64 y0, .int .i64 y1, .int .i64 y2, .int .i64 y3] D) => isHolding_some b off vl vc mb q x0 x1 x2 x3 er en m y0 y1 y2 y3 l xs ts (ts.getD k t0) k F V H M n [.slice (some ⟨b, off, none⟩) vl vc, .map (some mb), .int .i64 q, .int .i64 x0, .int .i64 x1, .int .i64 x2, .int .i64 x3, .int .i64 er, .int .i64 en, .int .i64 m, .int .i64 y0, .int .i64 y1, .int .i64 y2, .int .i64 y3] (SoundM vl (holdK l er en xs)) D w0 W hll h1 hb hc hts (by omega) HG0 hW hM hmm hS hn (fun j hj => hkn k j hk hj)
   (fun j hj W' n' D' hW' hm' hS' hn' => ih j hj (by omega) W' n' D' hW' hm' hS' hn') (hy _ hm0).1 (hy _ hm0).2.1 (hy _ hm0).2.2 he (hP k hk))
  clear ih
  obtain ⟨R, hR⟩ : ∃ R, R = holdK l er en xs k := ⟨_, rfl⟩
  rw [← hR] at IH ⊢
  have HSD := Lib.hid hS
  have HR := Lib.hid hR
  have HMm := Lib.hid hM
  have ME := Lib.hid hm
  have BW := Lib.hid hbel
  have b00 := Lib.hid hb
  have HN := Lib.hid hn
  have HKY := Lib.hid (intKey k (by omega))
  have HZ := Lib.hid (fun W : World => (show (zeroValue 4).run Tryz.prog W = .ok (.bool false) W from by kernel_rfl))
  obtain ⟨t, htt⟩ : ∃ t, t = ts.getD k t0 := ⟨_, rfl⟩
  rw [← htt] at IH HG0 AT0
  have HG := Lib.hid HG0
  have AT := Lib.hid AT0
  have HL : Hid (vl ≤ 60) := hl
  have cF := hm.kF.cell 0
  simp only [List.getElem?_cons_zero] at cF
  clear hll h1 hb hc hts hM hkn hy he hP hm0 HG0 AT0 hS hR hm hbel hn htt
  unfold HoldRet
  cases hX : Maps.has D (.int .i64 (k : Int))
  ·have HX := Lib.hid hX
   clear hX
   obtain ⟨⟨r, nn, dep, actor, kind, dst, bucket, mask, gr, gn, ups⟩, vd, vs⟩ := t
   have hsd := ints_len HG.out.1
   have hsu := ups_len HG.out.2
   simp only at hsd hsu
   obtain ⟨da, dc, rfl⟩ := hsd
   obtain ⟨ua, uc, rfl⟩ := hsu
   try simp only [ActT.val] at IH ⊢
   obtain ⟨dl, hdl⟩ : ∃ x, x = dep.length := ⟨_, rfl⟩
   obtain ⟨ul, hul⟩ : ∃ x, x = ups.length := ⟨_, rfl⟩
   try rw [← hdl] at HG
   try rw [← hul] at HG
   try rw [← hdl] at AT
   try rw [← hul] at AT
   try rw [← hdl] at IH
   try rw [← hul] at IH
   try rw [← hdl]
   try rw [← hul]
   have HDL := Lib.hid hdl
   clear hdl hul
   go_enter Tryz.func174, Tryz.ntmps174
   go_wp2_with (at_lookup; refine wpList_lookup_own_ok _ rfl (.tmp 9) (.tmp 10) 216 rfl 3 4 intKeyed Tryz.underlying216 memoR (HZ.out _) (.lit (.bool false)) [] rfl M n D rfl ME.out.own (.int .i64 (k : Int)) (.int .i64 (k : Int)) rfl HKY.out ?_; intro v ps hv; obtain ⟨bb, hvb, hat⟩ := memo_inv hv; subst hvb; have HAT := Lib.hid hat; clear hv hat; rw [HX.out])
   clear cF HAT
   have M0 := Lib.hid (ME.out.below ((Below.refl w.heap.size w).drew))
   have B0 := Lib.hid (BW.out.trans (((Below.refl w.heap.size w).drew).mono BW.out.size))
   have AT1 := Lib.hid (AT.out.below BW.out b00.out)
   have kv := ME.out.kV
   have kh := ME.out.kH
   have v0 := kv.cell 0
   have v1 := kv.cell 1
   have v2 := kv.cell 2
   have v3 := kv.cell 3
   have v4 := kv.cell 4
   have v5 := kv.cell 5
   have v6 := kv.cell 6
   have v7 := kv.cell 7
   have v8 := kv.cell 8
   have v9 := kv.cell 9
   have v10 := kv.cell 10
   have v11 := kv.cell 11
   have v12 := kv.cell 12
   have v13 := kv.cell 13
   have h0 := kh.cell 0
   simp only [List.getElem?_cons_zero, List.getElem?_cons_succ] at h0 v0 v1 v2 v3 v4 v5 v6 v7 v8 v9 v10 v11 v12 v13
   have c0 := AT1.out.c0
   have c1 := AT1.out.c1
   have c2 := AT1.out.c2
   have c3 := AT1.out.c3
   have c4 := AT1.out.c4
   have c5 := AT1.out.c5
   have c6 := AT1.out.c6
   have c7 := AT1.out.c7
   have c8 := AT1.out.c8
   have c9 := AT1.out.c9
   have c10 := AT1.out.c10
   simp only at c0 c1 c2 c3 c4 c5 c6 c7 c8 c9 c10
   have i0 : (0 : Int) ≤ (k : Int) := by omega
   have i1 : (k : Int) < (vl : Int) := by omega
   clear kv kh
   refine wp_region_still_tail 8 (by kernel_rfl) (by kernel_rfl) ?_
   simp only [List.take_succ_cons, List.take_zero, List.drop_succ_cons, List.drop_zero]
   change wpStill _ _ w.drew _ _ _
   repeat still_step
   refine wpStill_nil ?_
   change wpList _ _ _ _ _ w.drew
   clear i0 i1 h0 v0 v1 v2 v3 v4 v5 v6 v7 v8 v9 v10 v11 v12 v13
   clear c0 c1 c2 c3 c4 c5 c6 c7 c8 c9 c10
   have GD := Lib.hid (GrOn.of_below ((Below.refl w.heap.size w).drew) [M])
   have SZ := Lib.hid BW.out.size
   generalize w.drew = W7 at M0 B0 GD ⊢
   clear AT1
   go_wp2_with fail
   refine (IH.out W7 B0.out M0.out).mono ?_
   rintro e w8 ⟨rfl, n2, D2, m8, s8, h8, g8⟩
   have cF := m8.kF.cell 0
   simp only [List.getElem?_cons_zero] at cF
   have M8 := Lib.hid m8
   have S8 := Lib.hid s8
   have H8 := Lib.hid h8
   have G8 := Lib.hid (GD.out.trans g8)
   clear m8 s8 h8 g8
   go_wp2_with (at_mapUpdate; refine wpList_mapUpdate_own _ rfl (.tmp 25) (.tmp 26) (.tmp 27) 216 rfl 3 4 intKeyed Tryz.underlying216 memoR M n2 D2 rfl M8.out.own (by have := H8.out; have := HN.out; unfold maxLen; omega) (.int .i64 (k : Int)) (.bool R) (.int .i64 (k : Int)) rfl rfl HKY.out (.lit (.bool R)) [] rfl ?_; intro w9 o9 g9; have G9 := Lib.hid (GrOn.of_grown g9); have O9 := Lib.hid o9; clear g9 o9 cF)
   go_ret
   refine ⟨rfl, n2 + 1, _, ⟨on_gr M8.out.kF G9.out M8.out.nF, on_gr M8.out.kV G9.out M8.out.nV, on_gr M8.out.kH G9.out M8.out.nH, O9.out, M8.out.nF, M8.out.nV, M8.out.nH⟩, ?_, H8.out, G8.out.trans G9.out⟩
   rw [HR.out]
   exact sound_put S8.out M8.out.own.isMap k
  ·have HX := Lib.hid hX
   have HB := Lib.hid (HSD.out k hk hX)
   clear hX IH
   go_enter Tryz.func174, Tryz.ntmps174
   go_wp2_with (at_lookup; refine wpList_lookup_own_ok _ rfl (.tmp 9) (.tmp 10) 216 rfl 3 4 intKeyed Tryz.underlying216 memoR (HZ.out _) (.lit (.bool false)) [] rfl M n D rfl ME.out.own (.int .i64 (k : Int)) (.int .i64 (k : Int)) rfl HKY.out ?_; intro v ps hv; obtain ⟨bb, hvb, hat⟩ := memo_inv hv; subst hvb; have HAT := Lib.hid hat; clear hv hat; rw [HX.out])
   go_ret
   have hbb : bb = R := by
    have h1 := HB.out
    have h2 := HAT.out
    rw [h1] at h2
    rw [HR.out]
    simpa using h2.symm
   exact ⟨ret_bool hbb, n, D, ME.out, HSD.out, Nat.le_add_right _ _, GrOn.refl _ _⟩
set_option linter.unusedSimpArgs false
def HoldMade (w : World) (cs : List Value) (e : Ending) (w' : World) : Prop := ∃ F V H M, e = .returned (.func (.func 174) #[] #[.pointer (some ⟨F, 0, none⟩), .pointer (some ⟨V, 0, none⟩), .pointer (some ⟨H, 0, none⟩)]) ∧ w.heap.size ≤ M ∧ Memo w' F V H M 0 cs (.map []) ∧ Below w.heap.size w w'
set_option maxRecDepth 100000 in
set_option maxHeartbeats 3200000 in
theorem holding_any (va : Option Addr) (vl vc mb : Nat) (q x0 x1 x2 x3 er en m y0 y1 y2 y3 : Int) (w : World) : Calls Tryz.prog 167 #[.agg #[.slice va vl vc, .map (some mb), .int .i64 q, .int .i64 x0, .int .i64 x1, .int .i64 x2, .int .i64 x3, .int .i64 er, .int .i64 en, .int .i64 m, .int .i64 y0, .int .i64 y1, .int .i64 y2, .int .i64 y3]] w (HoldMade w [.slice va vl vc, .map (some mb), .int .i64 q, .int .i64 x0, .int .i64 x1, .int .i64 x2, .int .i64 x3, .int .i64 er, .int .i64 en, .int .i64 m, .int .i64 y0, .int .i64 y1, .int .i64 y2, .int .i64 y3]) := by
 have hmm := @run_makeMap Tryz.prog
 have kV := (((Blk.new w #[.slice va vl vc, .map (some mb), .int .i64 q, .int .i64 x0, .int .i64 x1, .int .i64 x2, .int .i64 x3, .int .i64 er, .int .i64 en, .int .i64 m, .int .i64 y0, .int .i64 y1, .int .i64 y2, .int .i64 y3] 133).alloc (.map #[] 0)).alloc (.cells #[.map (some (w.heap.size + 1))] 216)).alloc (.cells #[.nilFunc] 77)
 have own := ((World.ownsMap_made (w.alloc (.cells #[.slice va vl vc, .map (some mb), .int .i64 q, .int .i64 x0, .int .i64 x1, .int .i64 x2, .int .i64 x3, .int .i64 er, .int .i64 en, .int .i64 m, .int .i64 y0, .int .i64 y1, .int .i64 y2, .int .i64 y3] 133)) Tryz.prog 3 memoR).alloc (.cells #[.map (some (w.heap.size + 1))] 216)).alloc (.cells #[.nilFunc] 77)
 have kF := (Blk.new ((w.alloc (.cells #[.slice va vl vc, .map (some mb), .int .i64 q, .int .i64 x0, .int .i64 x1, .int .i64 x2, .int .i64 x3, .int .i64 er, .int .i64 en, .int .i64 m, .int .i64 y0, .int .i64 y1, .int .i64 y2, .int .i64 y3] 133)).alloc (.map #[] 0)) #[.map (some (w.heap.size + 1))] 216).alloc (.cells #[.nilFunc] 77)
 have kH := Blk.new (((w.alloc (.cells #[.slice va vl vc, .map (some mb), .int .i64 q, .int .i64 x0, .int .i64 x1, .int .i64 x2, .int .i64 x3, .int .i64 er, .int .i64 en, .int .i64 m, .int .i64 y0, .int .i64 y1, .int .i64 y2, .int .i64 y3] 133)).alloc (.map #[] 0)).alloc (.cells #[.map (some (w.heap.size + 1))] 216)) #[.nilFunc] 77
 have ba := ((((Below.refl w.heap.size w).alloc (Nat.le_refl _) (.cells #[.slice va vl vc, .map (some mb), .int .i64 q, .int .i64 x0, .int .i64 x1, .int .i64 x2, .int .i64 x3, .int .i64 er, .int .i64 en, .int .i64 m, .int .i64 y0, .int .i64 y1, .int .i64 y2, .int .i64 y3] 133)).alloc (by simp) (.map #[] 0)).alloc (by simp; try omega) (.cells #[.map (some (w.heap.size + 1))] 216)).alloc (by simp; try omega) (.cells #[.nilFunc] 77)
 simp only [World.size_alloc] at kV own kF kH
 go_enter Tryz.func167, Tryz.ntmps167
 go_upto_region 3 with (fail)
 obtain ⟨W, hW⟩ : ∃ W, W = (((w.alloc (.cells #[.slice va vl vc, .map (some mb), .int .i64 q, .int .i64 x0, .int .i64 x1, .int .i64 x2, .int .i64 x3, .int .i64 er, .int .i64 en, .int .i64 m, .int .i64 y0, .int .i64 y1, .int .i64 y2, .int .i64 y3] 133)).alloc (.map #[] 0)).alloc (.cells #[.map (some (w.heap.size + 1))] 216)).alloc (.cells #[.nilFunc] 77) := ⟨_, rfl⟩
 rw [← hW] at kV own kF kH ba ⊢
 obtain ⟨q0, h0⟩ : ∃ q, q = w.heap.size := ⟨_, rfl⟩
 obtain ⟨q1, h1⟩ : ∃ q, q = w.heap.size + 1 := ⟨_, rfl⟩
 obtain ⟨q2, h2⟩ : ∃ q, q = w.heap.size + 1 + 1 := ⟨_, rfl⟩
 obtain ⟨q3, h3⟩ : ∃ q, q = w.heap.size + 1 + 1 + 1 := ⟨_, rfl⟩
 rw [← h3] at kH ⊢
 rw [← h2] at kF ⊢
 rw [← h1] at own kF ⊢
 rw [← h0] at kV
 rw [show (Value.pointer (some ⟨w.heap.size, 0, none⟩)) = .pointer (some ⟨q0, 0, none⟩) by rw [h0]]
 have HQ := Lib.hid (⟨h0, h1, h2, h3⟩ : q0 = w.heap.size ∧ q1 = w.heap.size + 1 ∧ q2 = w.heap.size + 1 + 1 ∧ q3 = w.heap.size + 1 + 1 + 1)
 clear h0 h1 h2 h3
 have KV := Lib.hid kV
 have KF := Lib.hid kF
 have KH := Lib.hid kH
 have OWN := Lib.hid own
 have BA := Lib.hid ba
 have fH := kH.free
 have cH := kH.cell 0
 simp only [List.getElem?_cons_zero] at cH
 have hst := run_store Tryz.prog W ⟨q3, 0, none⟩ (.func (.func 174) #[] #[.pointer (some ⟨q2, 0, none⟩), .pointer (some ⟨q0, 0, none⟩), .pointer (some ⟨q3, 0, none⟩)])
 have hst0 := fun m => hst m rfl
 clear hst
 clear kV own kF kH ba hW hmm
 go_wp2
 go_ret
 obtain ⟨h0, h1, h2, h3⟩ := HQ.out
 refine ⟨q2, q0, q3, q1, rfl, by omega, ⟨KF.out.other (by simp; omega) _, KV.out.other (by simp; omega) _, KH.out.set (j := 0) (by simp) _, OWN.out.setCell (by simp; omega) _, by omega, by omega, by omega⟩, BA.out.setCell (by simp; omega) _⟩
def holdsM (l : List ActM) (n k er en : Int) (xs : List Int) : Bool := goodM l n er xs && inB k 0 ((l.length : Int) - 1) && holdK l er en xs k.toNat
end Go.Proofs.YtghgiefciijoeaaGreatDoor
