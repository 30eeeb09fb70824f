/- Rights: what the grants that hold give; the program's granted, rightsOf, Rights. -/
import Derived.Test.YtghgiefciijoeaaGreatDoorQW
import Derived.Test.YtghgiefciijoeaaGreatDoorQE
import Derived.Deep.DeepCutAuto

namespace Go.Proofs.YtghgiefciijoeaaGreatDoor
open Go.RowKit
set_option linter.unusedVariables false
set_option linter.unusedSimpArgs false
def grantF (l : List ActM) (er en : Int) (xs : List Int) (ac bk : Int) : Nat → List ActM → Int → Int
 | _, [], m => m
 | k, a :: t, m => grantF l er en xs ac bk (k + 1) t (if (holdK l er en xs k && decide (a.to = ac) && decide (a.bucket = bk)) = true then bits .or .i64 m a.mask else m)
def rightsM (l : List ActM) (n ac bk er en : Int) (xs : List Int) : Int :=
 if goodM l n er xs = true then (if (inB ac 0 5 && inB bk 0 2) = true then (if ac = 0 then 15 else bits .and .i64 (grantF l er en xs ac bk 0 l 0) (ceilM l bk er en xs)) else 0) else 0
theorem gives_hold {l : List ActM} {er en : Int} {xs : List Int} {k : Nat} {a : ActM} (ha : l.getD k act0 = a) (ac bk : Int) : (givesM ac bk a && holdK l er en xs k) = (holdK l er en xs k && decide (a.to = ac) && decide (a.bucket = bk)) := by
 cases h : holdK l er en xs k
 ·simp
 ·have := holdK_kind h
  rw [ha] at this
  simp [givesM, this]
set_option maxRecDepth 100000 in
set_option maxHeartbeats 12800000 in
theorem granted_some (b off : Nat) (vl vc mb : Nat) (q x0 x1 x2 x3 er en m y0 y1 y2 y3 : Int) (ac bk : Int) (l : List ActM) (xs : List Int) (ts : List ActT) (w : World)
  (hll : l = ts.map ActT.a) (h1 : ts.length = vl) (hb : b < w.heap.size) (hc : ∀ i, i < vl → ActAt w b (off + i * 11) (ts.getD i t0)) (hts : ActsT w (.slice (some ⟨b, off, none⟩) vl vc) ts) (hl : vl ≤ 60)
  (hkn : ∀ k j, k < vl → j < vl → knowsM (ts.getD k t0).a (ts.getD j t0).a = true → j < k)
  (hy : ∀ t ∈ ts, 0 ≤ t.a.r ∧ t.a.r < 4 ∧ [y0, y1, y2, y3].getD t.a.r.toNat 0 = xs.getD t.a.r.toNat 0) (he : ∀ t ∈ ts, er < t.a.dep.length)
  (hP : ∀ k, k < vl → holdK l er en xs k = (decide ((ts.getD k t0).a.kind = 1) && pastM xs (ts.getD k t0).a && !tkbM l er en (ts.getD k t0).a && (decide ((ts.getD k t0).a.actor = 0) || onM l er en xs (ts.getD k t0).a 0 l))) :
  Calls Tryz.prog 160 #[.agg #[.slice (some ⟨b, off, none⟩) vl vc, .map (some mb), .int .i64 q, .int .i64 x0, .int .i64 x1, .int .i64 x2, .int .i64 x3, .int .i64 er, .int .i64 en, .int .i64 m, .int .i64 y0, .int .i64 y1, .int .i64 y2, .int .i64 y3], .int .i64 ac, .int .i64 bk] w fun e w' => e = .returned (.int .i64 (grantF l er en xs ac bk 0 l 0)) ∧ Below w.heap.size w w' := by
 have HLD := Lib.hid (fun W => holding_any (some ⟨b, off, none⟩) vl vc mb q x0 x1 x2 x3 er en m y0 y1 y2 y3 W)
 have HCC := Lib.hid (fun F V H M (hM : w.heap.size ≤ M) => holdC b off vl vc mb q x0 x1 x2 x3 er en m y0 y1 y2 y3 l xs ts F V H M w hll h1 hb hc hts hl hM hkn hy he hP)
 have HGT := Lib.hid (fun j (hj : j < vl) => (show l.getD j act0 = (ts.getD j t0).a by rw [hll]; exact getD_map (by omega)))
 have HLL := Lib.hid hll
 have GI := Lib.hid (fun (t : ActT) W (h : t.Reads W) => givesTo_any t ac bk W h)
 obtain ⟨R, hR⟩ : ∃ R, R = grantF l er en xs ac bk 0 l 0 := ⟨_, rfl⟩
 rw [← hR]
 have HR : Hid (R = grantF l er en xs ac bk 0 ((ts.map ActT.a).drop 0) 0) := by
  show _ = _
  rw [hR, List.drop_zero, hll]
 have N1 := Lib.hid h1
 have HC := Lib.hid hc
 have HRd := Lib.hid hts.1
 have b00 := Lib.hid hb
 have hl60 : vl ≤ 60 := hl
 clear hR h1 hc hts hb hkn hy he hP hll hl
 have BW := Lib.hid (Below.refl w.heap.size w)
 go_enter Tryz.func160, Tryz.ntmps160
 have kA := Blk.new w #[.slice (some ⟨b, off, none⟩) vl vc, .map (some mb), .int .i64 q, .int .i64 x0, .int .i64 x1, .int .i64 x2, .int .i64 x3, .int .i64 er, .int .i64 en, .int .i64 m, .int .i64 y0, .int .i64 y1, .int .i64 y2, .int .i64 y3] 133
 have ba := (Below.refl w.heap.size w).alloc (Nat.le_refl _) (.cells #[.slice (some ⟨b, off, none⟩) vl vc, .map (some mb), .int .i64 q, .int .i64 x0, .int .i64 x1, .int .i64 x2, .int .i64 x3, .int .i64 er, .int .i64 en, .int .i64 m, .int .i64 y0, .int .i64 y1, .int .i64 y2, .int .i64 y3] 133)
 obtain ⟨pA, hpA⟩ : ∃ p, p = w.heap.size := ⟨_, rfl⟩
 go_upto_region 2 with (fail)
 rw [← hpA] at kA
 try rw [← hpA]
 obtain ⟨w1, hW⟩ : ∃ W, W = w.alloc (.cells #[.slice (some ⟨b, off, none⟩) vl vc, .map (some mb), .int .i64 q, .int .i64 x0, .int .i64 x1, .int .i64 x2, .int .i64 x3, .int .i64 er, .int .i64 en, .int .i64 m, .int .i64 y0, .int .i64 y1, .int .i64 y2, .int .i64 y3] 133) := ⟨_, rfl⟩
 rw [← hW] at ba kA ⊢
 have KA := Lib.hid kA
 have GA := Lib.hid (show w.heap.size ≤ pA by omega)
 replace BW := Lib.hid (BW.out.trans ((ba).mono BW.out.size))
 clear ba hW kA hpA
 have ka0 := KA.out.cell 0
 have ka1 := KA.out.cell 1
 have ka2 := KA.out.cell 2
 have ka3 := KA.out.cell 3
 have ka4 := KA.out.cell 4
 have ka5 := KA.out.cell 5
 have ka6 := KA.out.cell 6
 have ka7 := KA.out.cell 7
 have ka8 := KA.out.cell 8
 have ka9 := KA.out.cell 9
 have ka10 := KA.out.cell 10
 have ka11 := KA.out.cell 11
 have ka12 := KA.out.cell 12
 have ka13 := KA.out.cell 13
 simp only [List.getElem?_cons_zero, List.getElem?_cons_succ] at ka0 ka1 ka2 ka3 ka4 ka5 ka6 ka7 ka8 ka9 ka10 ka11 ka12 ka13
 go_wp2_with fail
 refine (HLD.out _).mono ?_
 rintro e w2 ⟨F, V, H, M, rfl, hM, hm, b2⟩
 clear ka0 ka1 ka2 ka3 ka4 ka5 ka6 ka7 ka8 ka9 ka10 ka11 ka12 ka13
 have hMb : w.heap.size ≤ M := Nat.le_trans BW.out.size hM
 have HMm := Lib.hid hMb
 have NMA := Lib.hid (show pA ≠ M by have := KA.out.lt; omega)
 have HC1 := Lib.hid (HCC.out F V H M hMb)
 have ME := Lib.hid hm
 replace BW := Lib.hid (BW.out.trans ((b2).mono BW.out.size))
 replace KA := Lib.hid (KA.out.below (b2) KA.out.lt)
 clear b2 hm hM hMb HLD HCC
 have ka0 := KA.out.cell 0
 have ka1 := KA.out.cell 1
 have ka2 := KA.out.cell 2
 have ka3 := KA.out.cell 3
 have ka4 := KA.out.cell 4
 have ka5 := KA.out.cell 5
 have ka6 := KA.out.cell 6
 have ka7 := KA.out.cell 7
 have ka8 := KA.out.cell 8
 have ka9 := KA.out.cell 9
 have ka10 := KA.out.cell 10
 have ka11 := KA.out.cell 11
 have ka12 := KA.out.cell 12
 have ka13 := KA.out.cell 13
 simp only [List.getElem?_cons_zero, List.getElem?_cons_succ] at ka0 ka1 ka2 ka3 ka4 ka5 ka6 ka7 ka8 ka9 ka10 ka11 ka12 ka13
 go_wp2_with fail
 clear ka0 ka1 ka2 ka3 ka4 ka5 ka6 ka7 ka8 ka9 ka10 ka11 ka12 ka13
 go_loopw [7, 17] (fun m' i wr => ∃ (j n' : Nat) (mm : Int) (D' : DataW Unit), j ≤ vl ∧ m' = .int .i64 mm ∧ i = .int .i64 j ∧ Hid (R = grantF l er en xs ac bk j ((ts.map ActT.a).drop j) mm) ∧ Hid (Memo wr F V H M n' [.slice (some ⟨b, off, none⟩) vl vc, .map (some mb), .int .i64 q, .int .i64 x0, .int .i64 x1, .int .i64 x2, .int .i64 x3, .int .i64 er, .int .i64 en, .int .i64 m, .int .i64 y0, .int .i64 y1, .int .i64 y2, .int .i64 y3] D') ∧ Hid (SoundM vl (holdK l er en xs) D') ∧ Hid (n' + 1 ≤ 2 ^ j) ∧ Hid (Blk wr pA [.slice (some ⟨b, off, none⟩) vl vc, .map (some mb), .int .i64 q, .int .i64 x0, .int .i64 x1, .int .i64 x2, .int .i64 x3, .int .i64 er, .int .i64 en, .int .i64 m, .int .i64 y0, .int .i64 y1, .int .i64 y2, .int .i64 y3]) ∧ Hid (Below w.heap.size w wr)) (fun _ i _ => vl - (intOf i).toNat)
 case atStart => exact ⟨0, 0, 0, .map [], Nat.zero_le _, rfl, rfl, HR.out, ME.out, sound_nil _ _, (by show _ ≤ _; simp), KA.out, BW.out⟩
 case round =>
  obtain ⟨j, n', mm, D', hj, rfl, rfl, hg, hme, hs, hn', hka, hbel⟩ := hrel
  clear BW KA ME HR
  have BW := hbel
  have KA := hka
  have ME := hme
  have HS := hs
  clear hbel hka hme hs
  by_cases hlt : j < vl
  ·have hlt2 : j < ts.length := by rw [N1.out]; exact hlt
   have hm := getD_mem hlt2
   have AT := Lib.hid ((HC.out j hlt).below BW.out b00.out)
   have HTB := Lib.hid (HRd.out _ hm)
   have hst := hg.out
   rw [drop_ts hlt2, grantF] at hst
   have hgh := gives_hold (l := l) (er := er) (en := en) (xs := xs) (HGT.out j hlt) ac bk
   have GI1 := GI.out (ts.getD j t0)
   obtain ⟨t, htt⟩ : ∃ t, t = ts.getD j t0 := ⟨_, rfl⟩
   rw [← htt] at AT HTB hst GI1 hgh
   obtain ⟨X, hX⟩ : ∃ X, X = givesM ac bk t.a := ⟨_, rfl⟩
   obtain ⟨U, hU⟩ : ∃ U, U = holdK l er en xs j := ⟨_, rfl⟩
   rw [← hgh, ← hX, ← hU] at hst
   rw [← hX] at GI1
   obtain ⟨M1, hM1⟩ : ∃ x, x = t.a.mask := ⟨_, rfl⟩
   rw [← hM1] at hst
   have HST := Lib.hid hst
   have GIH := Lib.hid GI1
   have HU := Lib.hid hU
   clear hst GI1 htt hm hX hU hg hgh
   obtain ⟨⟨r, nn, dep, actor, kind, dst, bucket, mask, gr, gn, ups⟩, vd, vs⟩ := t
   have hsd := ints_len HTB.out.1
   have hsu := ups_len HTB.out.2
   simp only at hsd hsu
   obtain ⟨da, dc, rfl⟩ := hsd
   obtain ⟨ua, uc, rfl⟩ := hsu
   try simp only [ActT.val] at GIH ⊢
   obtain ⟨dl, hdl⟩ : ∃ x, x = dep.length := ⟨_, rfl⟩
   obtain ⟨ul, hul⟩ : ∃ x, x = ups.length := ⟨_, rfl⟩
   try rw [← hdl] at HTB
   try rw [← hul] at HTB
   try rw [← hdl] at AT
   try rw [← hul] at AT
   try rw [← hdl] at GIH
   try rw [← hul] at GIH
   try rw [← hdl]
   try rw [← hul]
   have HDL := Lib.hid hdl
   clear hdl hul
   simp only at hM1
   replace hM1 := hM1.symm
   subst hM1
   have c0 := AT.out.c0
   have c1 := AT.out.c1
   have c2 := AT.out.c2
   have c3 := AT.out.c3
   have c4 := AT.out.c4
   have c5 := AT.out.c5
   have c6 := AT.out.c6
   have c7 := AT.out.c7
   have c8 := AT.out.c8
   have c9 := AT.out.c9
   have c10 := AT.out.c10
   simp only at c0 c1 c2 c3 c4 c5 c6 c7 c8 c9 c10
   have i0 : (0 : Int) ≤ (j : Int) := by omega
   have i1 : (j : Int) < (vl : Int) := by omega
   go_upto_region 6 with (fail)
   clear c0 c1 c2 c3 c4 c5 c6 c7 c8 c9 c10
   clear AT i0 i1
   have MLT := Lib.hid ME.out.own.lt
   have kC := Blk.new wr #[.int .i64 r, .int .i64 nn, .slice da dl dc, .int .i64 actor, .int .i64 kind, .int .i64 dst, .int .i64 bucket, .int .i64 mask, .int .i64 gr, .int .i64 gn, .slice ua ul uc] 32
   have ba := (Below.refl wr.heap.size wr).alloc (Nat.le_refl _) (.cells #[.int .i64 r, .int .i64 nn, .slice da dl dc, .int .i64 actor, .int .i64 kind, .int .i64 dst, .int .i64 bucket, .int .i64 mask, .int .i64 gr, .int .i64 gn, .slice ua ul uc] 32)
   obtain ⟨pC, hpC⟩ : ∃ p, p = wr.heap.size := ⟨_, rfl⟩
   rw [← hpC] at kC
   try rw [← hpC]
   obtain ⟨w3, hW⟩ : ∃ W, W = wr.alloc (.cells #[.int .i64 r, .int .i64 nn, .slice da dl dc, .int .i64 actor, .int .i64 kind, .int .i64 dst, .int .i64 bucket, .int .i64 mask, .int .i64 gr, .int .i64 gn, .slice ua ul uc] 32) := ⟨_, rfl⟩
   rw [← hW] at ba kC ⊢
   have KC := Lib.hid kC
   have GC := Lib.hid (show wr.heap.size ≤ pC by omega)
   have NEA_C := Lib.hid (show pA ≠ pC by have := KA.out.lt; omega)
   replace BW := Lib.hid (BW.out.trans ((ba).mono BW.out.size))
   replace KA := Lib.hid (KA.out.below (ba) KA.out.lt)
   replace ME := Lib.hid (ME.out.below (ba))
   clear ba hW kC hpC
   have hMC := Lib.hid (show pC ≠ M by have := MLT.out; have := GC.out; omega)
   have kc0 := KC.out.cell 0
   have kc1 := KC.out.cell 1
   have kc2 := KC.out.cell 2
   have kc3 := KC.out.cell 3
   have kc4 := KC.out.cell 4
   have kc5 := KC.out.cell 5
   have kc6 := KC.out.cell 6
   have kc7 := KC.out.cell 7
   have kc8 := KC.out.cell 8
   have kc9 := KC.out.cell 9
   have kc10 := KC.out.cell 10
   simp only [List.getElem?_cons_zero, List.getElem?_cons_succ] at kc0 kc1 kc2 kc3 kc4 kc5 kc6 kc7 kc8 kc9 kc10
   go_wp2_with fail
   refine (GIH.out _ (HTB.out.below BW.out)).mono ?_
   rintro e w4 ⟨rfl, b⟩
   clear kc0 kc1 kc2 kc3 kc4 kc5 kc6 kc7 kc8 kc9 kc10
   replace BW := Lib.hid (BW.out.trans ((b).mono BW.out.size))
   replace KA := Lib.hid (KA.out.below (b) KA.out.lt)
   replace ME := Lib.hid (ME.out.below (b))
   replace KC := Lib.hid (KC.out.below (b) KC.out.lt)
   clear b
   cases X
   ·have HSS := Lib.hid (show R = grantF l er en xs ac bk (j + 1) ((ts.map ActT.a).drop (j + 1)) mm by rw [HST.out]; simp)
    have HN2 : Hid (n' + 1 ≤ 2 ^ (j + 1)) := by
     have h1 := hn'.out
     have h2 : 2 ^ j ≤ 2 ^ (j + 1) := Nat.pow_le_pow_right (by omega) (by omega)
     show _ ≤ _
     omega
    go_wp2_with fail
    go_roundw
    case rel => exact ⟨j + 1, n', mm, D', by omega, rfl, by go_num, HSS.out, ME.out, HS.out, HN2.out, KA.out, BW.out⟩
    case measure => simp [intOf]; omega
   have HB : Hid (n' + 2 ^ j ≤ 2 ^ 62) := by
    have h1 := hn'.out
    have h3 : 2 ^ (j + 1) ≤ 2 ^ 62 := Nat.pow_le_pow_right (by omega) (by omega)
    rw [Nat.pow_succ] at h3
    show _ ≤ _
    omega
   have CC := Lib.hid (HC1.out j hlt _ n' D' BW.out ME.out HS.out HB.out)
   rw [← HU.out] at CC
   have kc0 := KC.out.cell 0
   have kc1 := KC.out.cell 1
   have kc2 := KC.out.cell 2
   have kc3 := KC.out.cell 3
   have kc4 := KC.out.cell 4
   have kc5 := KC.out.cell 5
   have kc6 := KC.out.cell 6
   have kc7 := KC.out.cell 7
   have kc8 := KC.out.cell 8
   have kc9 := KC.out.cell 9
   have kc10 := KC.out.cell 10
   simp only [List.getElem?_cons_zero, List.getElem?_cons_succ] at kc0 kc1 kc2 kc3 kc4 kc5 kc6 kc7 kc8 kc9 kc10
   go_wp2_with fail
   refine CC.out.mono ?_
   rintro e w6 ⟨rfl, n2, D2, m6, s6, h6, g6⟩
   clear kc0 kc1 kc2 kc3 kc4 kc5 kc6 kc7 kc8 kc9 kc10
   have HN2 : Hid (n2 + 1 ≤ 2 ^ (j + 1)) := by
    have h1 := hn'.out
    rw [Nat.pow_succ]
    show _ ≤ _
    omega
   have KA6 := Lib.hid (on_gr KA.out g6 NMA.out)
   have KC6 := Lib.hid (on_gr KC.out g6 hMC.out)
   have BW6 := Lib.hid (bel_gr BW.out g6 HMm.out BW.out.size)
   have ME6 := Lib.hid m6
   have HS6 := Lib.hid s6
   clear m6 s6 g6 h6 ME HS KA KC BW CC
   cases U
   ·have HSS := Lib.hid (show R = grantF l er en xs ac bk (j + 1) ((ts.map ActT.a).drop (j + 1)) mm by rw [HST.out]; simp)
    go_wp2_with fail
    go_roundw
    case rel => exact ⟨j + 1, n2, mm, D2, by omega, rfl, by go_num, HSS.out, ME6.out, HS6.out, HN2.out, KA6.out, BW6.out⟩
    case measure => simp [intOf]; omega
   have HSS := Lib.hid (show R = grantF l er en xs ac bk (j + 1) ((ts.map ActT.a).drop (j + 1)) (bits .or .i64 mm mask) by rw [HST.out]; simp)
   have kc0 := KC6.out.cell 0
   have kc1 := KC6.out.cell 1
   have kc2 := KC6.out.cell 2
   have kc3 := KC6.out.cell 3
   have kc4 := KC6.out.cell 4
   have kc5 := KC6.out.cell 5
   have kc6 := KC6.out.cell 6
   have kc7 := KC6.out.cell 7
   have kc8 := KC6.out.cell 8
   have kc9 := KC6.out.cell 9
   have kc10 := KC6.out.cell 10
   simp only [List.getElem?_cons_zero, List.getElem?_cons_succ] at kc0 kc1 kc2 kc3 kc4 kc5 kc6 kc7 kc8 kc9 kc10
   go_wp2_with fail
   refine (withR_any _ _ _).mono ?_
   rintro e w7 ⟨rfl, rfl⟩
   go_wp2_with fail
   go_roundw
   case rel => exact ⟨j + 1, n2, _, D2, by omega, rfl, by go_num, HSS.out, ME6.out, HS6.out, HN2.out, KA6.out, BW6.out⟩
   case measure => simp [intOf]; omega
  ·have HSS := Lib.hid (show R = mm by rw [hg.out, drop_end (by rw [List.length_map, N1.out]; omega)]; rfl)
   go_wp2_with fail
   go_ret
   exact ⟨ret_int HSS.out.symm, BW.out⟩
set_option maxRecDepth 100000 in
set_option maxHeartbeats 3200000 in
theorem granted_nil (va : Option Addr) (vl vc mb : Nat) (q x0 x1 x2 x3 er en m y0 y1 y2 y3 : Int) (ac bk : Int) (w : World) :
  Calls Tryz.prog 160 #[.agg #[.slice va 0 vc, .map (some mb), .int .i64 q, .int .i64 x0, .int .i64 x1, .int .i64 x2, .int .i64 x3, .int .i64 er, .int .i64 en, .int .i64 m, .int .i64 y0, .int .i64 y1, .int .i64 y2, .int .i64 y3], .int .i64 ac, .int .i64 bk] w fun e w' => e = .returned (.int .i64 0) ∧ Below w.heap.size w w' := by
 have HLD := Lib.hid (fun W => holding_any va 0 vc mb q x0 x1 x2 x3 er en m y0 y1 y2 y3 W)
 have BW := Lib.hid (Below.refl w.heap.size w)
 go_enter Tryz.func160, Tryz.ntmps160
 have kA := Blk.new w #[.slice va 0 vc, .map (some mb), .int .i64 q, .int .i64 x0, .int .i64 x1, .int .i64 x2, .int .i64 x3, .int .i64 er, .int .i64 en, .int .i64 m, .int .i64 y0, .int .i64 y1, .int .i64 y2, .int .i64 y3] 133
 have ba := (Below.refl w.heap.size w).alloc (Nat.le_refl _) (.cells #[.slice va 0 vc, .map (some mb), .int .i64 q, .int .i64 x0, .int .i64 x1, .int .i64 x2, .int .i64 x3, .int .i64 er, .int .i64 en, .int .i64 m, .int .i64 y0, .int .i64 y1, .int .i64 y2, .int .i64 y3] 133)
 obtain ⟨pA, hpA⟩ : ∃ p, p = w.heap.size := ⟨_, rfl⟩
 go_upto_region 2 with (fail)
 rw [← hpA] at kA
 try rw [← hpA]
 obtain ⟨w1, hW⟩ : ∃ W, W = w.alloc (.cells #[.slice va 0 vc, .map (some mb), .int .i64 q, .int .i64 x0, .int .i64 x1, .int .i64 x2, .int .i64 x3, .int .i64 er, .int .i64 en, .int .i64 m, .int .i64 y0, .int .i64 y1, .int .i64 y2, .int .i64 y3] 133) := ⟨_, rfl⟩
 rw [← hW] at ba kA ⊢
 have KA := Lib.hid kA
 have GA := Lib.hid (show w.heap.size ≤ pA by omega)
 replace BW := Lib.hid (BW.out.trans ((ba).mono BW.out.size))
 clear ba hW kA hpA
 have ka0 := KA.out.cell 0
 have ka1 := KA.out.cell 1
 have ka2 := KA.out.cell 2
 have ka3 := KA.out.cell 3
 have ka4 := KA.out.cell 4
 have ka5 := KA.out.cell 5
 have ka6 := KA.out.cell 6
 have ka7 := KA.out.cell 7
 have ka8 := KA.out.cell 8
 have ka9 := KA.out.cell 9
 have ka10 := KA.out.cell 10
 have ka11 := KA.out.cell 11
 have ka12 := KA.out.cell 12
 have ka13 := KA.out.cell 13
 simp only [List.getElem?_cons_zero, List.getElem?_cons_succ] at ka0 ka1 ka2 ka3 ka4 ka5 ka6 ka7 ka8 ka9 ka10 ka11 ka12 ka13
 go_wp2_with fail
 refine (HLD.out _).mono ?_
 rintro e w2 ⟨F, V, H, M, rfl, hM, hm, b2⟩
 clear ka0 ka1 ka2 ka3 ka4 ka5 ka6 ka7 ka8 ka9 ka10 ka11 ka12 ka13
 replace BW := Lib.hid (BW.out.trans ((b2).mono BW.out.size))
 replace KA := Lib.hid (KA.out.below (b2) KA.out.lt)
 have ka0 := KA.out.cell 0
 have ka1 := KA.out.cell 1
 have ka2 := KA.out.cell 2
 have ka3 := KA.out.cell 3
 have ka4 := KA.out.cell 4
 have ka5 := KA.out.cell 5
 have ka6 := KA.out.cell 6
 have ka7 := KA.out.cell 7
 have ka8 := KA.out.cell 8
 have ka9 := KA.out.cell 9
 have ka10 := KA.out.cell 10
 have ka11 := KA.out.cell 11
 have ka12 := KA.out.cell 12
 have ka13 := KA.out.cell 13
 simp only [List.getElem?_cons_zero, List.getElem?_cons_succ] at ka0 ka1 ka2 ka3 ka4 ka5 ka6 ka7 ka8 ka9 ka10 ka11 ka12 ka13
 go_wp2_with fail
 go_loop [7, 17] (fun m' i => m' = .int .i64 0 ∧ i = .int .i64 0) (fun _ _ => 0)
 case atStart => exact ⟨rfl, rfl⟩
 case round =>
  obtain ⟨rfl, rfl⟩ := hrel
  go_wp2
  go_ret
  exact ⟨rfl, BW.out⟩
theorem granted_good {a : Option Addr} {cap : Nat} {ts : List ActT} {n er : Int} {xs : List Int} (en ac bk : Int) (mb : Nat) (w : World) (h : ActsT w (.slice a ts.length cap) ts) (hg : goodM (ts.map ActT.a) n er xs = true) :
  Calls Tryz.prog 160 #[.agg #[.slice a ts.length cap, .map (some mb), .int .i64 n, .int .i64 (cntM (ts.map ActT.a) 0), .int .i64 (cntM (ts.map ActT.a) 1), .int .i64 (cntM (ts.map ActT.a) 2), .int .i64 (cntM (ts.map ActT.a) 3), .int .i64 er, .int .i64 en, .int .i64 (cn xs), .int .i64 (cx xs 0), .int .i64 (cx xs 1), .int .i64 (cx xs 2), .int .i64 (cx xs 3)], .int .i64 ac, .int .i64 bk] w fun e w' => e = .returned (.int .i64 (grantF (ts.map ActT.a) er en xs ac bk 0 (ts.map ActT.a) 0)) ∧ Below w.heap.size w w' := by
 have hs := (cutB_set (good_parts hg).1).1
 have h60 : ts.length ≤ 60 := by have := (setOk_all hs).2.2.1; simpa using this
 by_cases h0 : 0 < ts.length
 ·obtain ⟨hu, b, off, ha, hb, hc⟩ := actsT_at h h0
  subst ha
  have gd : ∀ j, j < ts.length → (ts.map ActT.a).getD j act0 = (ts.getD j t0).a := fun j hj => getD_map hj
  exact granted_some b off ts.length cap mb n (cntM (ts.map ActT.a) 0) (cntM (ts.map ActT.a) 1) (cntM (ts.map ActT.a) 2) (cntM (ts.map ActT.a) 3) er en (cn xs) (cx xs 0) (cx xs 1) (cx xs 2) (cx xs 3) ac bk (ts.map ActT.a) xs ts w rfl rfl hb hc h h60
   (fun i j hi hj hk => knows_before hs (by simpa using hi) (by simpa using hj) (by rw [gd i hi, gd j hj]; exact hk))
   (fun t ht => by obtain ⟨h1, h2, h3, h4⟩ := view_acts hg t.a (List.mem_map_of_mem ht); exact ⟨h1, h2, h4⟩) (fun t ht => (view_acts hg t.a (List.mem_map_of_mem ht)).2.2.1)
   (fun i hi => by have := hold_prog hs (er := er) (en := en) (xs := xs) (k := i) (by simpa using hi); rw [gd i hi] at this; exact this)
 ·obtain rfl : ts = [] := List.eq_nil_of_length_eq_zero (by omega)
  exact granted_nil a 0 cap mb n (cntM ([] : List ActM) 0) (cntM ([] : List ActM) 1) (cntM ([] : List ActM) 2) (cntM ([] : List ActM) 3) er en (cn xs) (cx xs 0) (cx xs 1) (cx xs 2) (cx xs 3) ac bk w
set_option maxRecDepth 100000 in
set_option maxHeartbeats 6400000 in
theorem rightsOf_any (a : Option Addr) (K cap mb : Nat) (n c0 c1 c2 c3 er en y y0 y1 y2 y3 ac bk G C : Int) (w : World)
  (hG : ∀ W, Below w.heap.size w W → Calls Tryz.prog 160 #[.agg #[.slice a K cap, .map (some mb), .int .i64 n, .int .i64 c0, .int .i64 c1, .int .i64 c2, .int .i64 c3, .int .i64 er, .int .i64 en, .int .i64 y, .int .i64 y0, .int .i64 y1, .int .i64 y2, .int .i64 y3], .int .i64 ac, .int .i64 bk] W fun e w' => e = .returned (.int .i64 G) ∧ Below W.heap.size W w')
  (hC : ∀ W, Below w.heap.size w W → Calls Tryz.prog 162 #[.agg #[.slice a K cap, .map (some mb), .int .i64 n, .int .i64 c0, .int .i64 c1, .int .i64 c2, .int .i64 c3, .int .i64 er, .int .i64 en, .int .i64 y, .int .i64 y0, .int .i64 y1, .int .i64 y2, .int .i64 y3], .int .i64 bk] W fun e w' => e = .returned (.int .i64 C) ∧ Below W.heap.size W w') :
  Calls Tryz.prog 138 #[.agg #[.slice a K cap, .map (some mb), .int .i64 n, .int .i64 c0, .int .i64 c1, .int .i64 c2, .int .i64 c3, .int .i64 er, .int .i64 en, .int .i64 y, .int .i64 y0, .int .i64 y1, .int .i64 y2, .int .i64 y3], .int .i64 ac, .int .i64 bk] w fun e w' => e = .returned (.int .i64 (if (inB ac 0 5 && inB bk 0 2) = true then (if ac = 0 then 15 else bits .and .i64 G C) else 0)) ∧ Below w.heap.size w w' := by
 have HG := Lib.hid hG
 have HCC := Lib.hid hC
 have I1 := Lib.hid (fun W => isIn_any ac 0 5 W)
 have I2 := Lib.hid (fun W => isIn_any bk 0 2 W)
 obtain ⟨X, hX⟩ : ∃ X, X = inB ac 0 5 := ⟨_, rfl⟩
 obtain ⟨Y, hY⟩ : ∃ Y, Y = inB bk 0 2 := ⟨_, rfl⟩
 rw [← hX] at I1 ⊢
 rw [← hY] at I2 ⊢
 clear hG hC hX hY
 have BW := Lib.hid (Below.refl w.heap.size w)
 obtain ⟨RES, hRES⟩ : ∃ x, x = (if (X && Y) = true then (if ac = 0 then 15 else bits .and .i64 G C) else 0) := ⟨_, rfl⟩
 rw [← hRES]
 have HR := Lib.hid hRES
 clear hRES
 go_enter Tryz.func138, Tryz.ntmps138
 have kA := Blk.new w #[.slice a K cap, .map (some mb), .int .i64 n, .int .i64 c0, .int .i64 c1, .int .i64 c2, .int .i64 c3, .int .i64 er, .int .i64 en, .int .i64 y, .int .i64 y0, .int .i64 y1, .int .i64 y2, .int .i64 y3] 133
 have ba := (Below.refl w.heap.size w).alloc (Nat.le_refl _) (.cells #[.slice a K cap, .map (some mb), .int .i64 n, .int .i64 c0, .int .i64 c1, .int .i64 c2, .int .i64 c3, .int .i64 er, .int .i64 en, .int .i64 y, .int .i64 y0, .int .i64 y1, .int .i64 y2, .int .i64 y3] 133)
 obtain ⟨pA, hpA⟩ : ∃ p, p = w.heap.size := ⟨_, rfl⟩
 go_upto_region 1 with (fail)
 rw [← hpA] at kA
 try rw [← hpA]
 obtain ⟨w1, hW⟩ : ∃ W, W = w.alloc (.cells #[.slice a K cap, .map (some mb), .int .i64 n, .int .i64 c0, .int .i64 c1, .int .i64 c2, .int .i64 c3, .int .i64 er, .int .i64 en, .int .i64 y, .int .i64 y0, .int .i64 y1, .int .i64 y2, .int .i64 y3] 133) := ⟨_, rfl⟩
 rw [← hW] at ba kA ⊢
 have KA := Lib.hid kA
 have GA := Lib.hid (show w.heap.size ≤ pA by omega)
 replace BW := Lib.hid (BW.out.trans ((ba).mono BW.out.size))
 clear ba hW kA hpA
 go_wp2_with fail
 refine (I1.out _).mono ?_
 rintro e w2 ⟨rfl, rfl⟩
 cases X
 ·go_wp2_with fail
  go_ret
  exact ⟨ret_int (by rw [HR.out]; rfl), BW.out⟩
 go_wp2_with fail
 refine (I2.out _).mono ?_
 rintro e w2 ⟨rfl, rfl⟩
 cases Y
 ·go_wp2_with fail
  go_ret
  exact ⟨ret_int (by rw [HR.out]; rfl), BW.out⟩
 by_cases h0 : ac = 0
 ·have e0 : (ac == 0) = true := by simp [h0]
  have HR2 := Lib.hid (show RES = 15 by rw [HR.out]; simp [h0])
  clear h0
  go_wp2_with fail
  go_ret
  exact ⟨ret_int HR2.out.symm, BW.out⟩
 have e0 : (ac == 0) = false := by simp [h0]
 have HR2 := Lib.hid (show RES = bits .and .i64 G C by rw [HR.out]; simp [h0])
 clear h0
 go_upto_region 5 with (fail)
 skip
 obtain ⟨wq, hwq⟩ : ∃ x, x = pA := ⟨_, rfl⟩
 clear hwq wq
 refine wp_region_held_drew (S := fun w' => Below w2.heap.size w2 w') (by kernel_rfl) ((Below.refl w2.heap.size w2).drew) (fun hHeld => ?_)
 refine held_take (i := 0) (d := some 19) (v := ?_) rfl (by kernel_rfl) (by kernel_rfl) (by kernel_rfl) (by kernel_rfl) (fun _ _ _ h => h) (by kernel_rfl) ?_ hHeld ?_
 rotate_left
 ·intro w' hSw
  have gA := KA.out.below hSw KA.out.lt
  have va0 := gA.cell 0
  have va1 := gA.cell 1
  have va2 := gA.cell 2
  have va3 := gA.cell 3
  have va4 := gA.cell 4
  have va5 := gA.cell 5
  have va6 := gA.cell 6
  have va7 := gA.cell 7
  have va8 := gA.cell 8
  have va9 := gA.cell 9
  have va10 := gA.cell 10
  have va11 := gA.cell 11
  have va12 := gA.cell 12
  have va13 := gA.cell 13
  simp only [List.getElem?_cons_zero, List.getElem?_cons_succ] at va0 va1 va2 va3 va4 va5 va6 va7 va8 va9 va10 va11 va12 va13
  go_simp
  first | done | with_reducible rfl
 simp only [Act.put, List.setIfInBounds_toArray, List.set_cons_zero, List.set_cons_succ]
 refine held_take (i := 1) (d := some 20) (v := ?_) rfl (by kernel_rfl) (by kernel_rfl) (by kernel_rfl) (by kernel_rfl) (fun _ _ _ h => h) (by kernel_rfl) ?_ hHeld ?_
 rotate_left
 ·intro w' hSw
  go_simp
  first | done | with_reducible rfl
 simp only [Act.put, List.setIfInBounds_toArray, List.set_cons_zero, List.set_cons_succ]
 refine held_take (i := 2) (d := some 21) (v := ?_) rfl (by kernel_rfl) (by kernel_rfl) (by kernel_rfl) (by kernel_rfl) (fun _ _ _ h => h) (by kernel_rfl) ?_ hHeld ?_
 rotate_left
 ·intro w' hSw
  go_simp
  first | done | with_reducible rfl
 simp only [Act.put, List.setIfInBounds_toArray, List.set_cons_zero, List.set_cons_succ]
 refine held_take (i := 4) (d := some 23) (v := ?_) rfl (by kernel_rfl) (by kernel_rfl) (by kernel_rfl) (by kernel_rfl) (fun _ _ _ h => h) (by kernel_rfl) ?_ hHeld ?_
 rotate_left
 ·intro w' hSw
  have gA := KA.out.below hSw KA.out.lt
  have va0 := gA.cell 0
  have va1 := gA.cell 1
  have va2 := gA.cell 2
  have va3 := gA.cell 3
  have va4 := gA.cell 4
  have va5 := gA.cell 5
  have va6 := gA.cell 6
  have va7 := gA.cell 7
  have va8 := gA.cell 8
  have va9 := gA.cell 9
  have va10 := gA.cell 10
  have va11 := gA.cell 11
  have va12 := gA.cell 12
  have va13 := gA.cell 13
  simp only [List.getElem?_cons_zero, List.getElem?_cons_succ] at va0 va1 va2 va3 va4 va5 va6 va7 va8 va9 va10 va11 va12 va13
  go_simp
  first | done | with_reducible rfl
 simp only [Act.put, List.setIfInBounds_toArray, List.set_cons_zero, List.set_cons_succ]
 refine held_take (i := 5) (d := some 24) (v := ?_) rfl (by kernel_rfl) (by kernel_rfl) (by kernel_rfl) (by kernel_rfl) (fun _ _ _ h => h) (by kernel_rfl) ?_ hHeld ?_
 rotate_left
 ·intro w' hSw
  go_simp
  first | done | with_reducible rfl
 simp only [Act.put, List.setIfInBounds_toArray, List.set_cons_zero, List.set_cons_succ]
 refine wpAnyH_ready (rs := [3]) (by kernel_rfl) (by simp) ?_
 refine AllReadyH.cons rfl (fun K hK => ?_) AllReadyH.nil
 go_simp
 refine (HG.out _ (BW.out.trans (hHeld.mono BW.out.size))).mono ?_
 rintro e w5 ⟨rfl, b5⟩
 have D5 := hHeld.trans (b5.mono hHeld.size)
 go_simp
 refine hK.out _ _ (D5) (fun hHeld => ?_)
 clear hK K
 try simp only [Act.put, List.setIfInBounds_toArray, List.set_cons_zero, List.set_cons_succ]
 refine wpAnyH_ready (rs := [6]) (by kernel_rfl) (by simp) ?_
 refine AllReadyH.cons rfl (fun K hK => ?_) AllReadyH.nil
 go_simp
 refine (HCC.out _ (BW.out.trans (hHeld.mono BW.out.size))).mono ?_
 rintro e w6 ⟨rfl, b6⟩
 have D6 := hHeld.trans (b6.mono hHeld.size)
 go_simp
 refine hK.out _ _ (D6) (fun hHeld => ?_)
 clear hK K
 try simp only [Act.put, List.setIfInBounds_toArray, List.set_cons_zero, List.set_cons_succ]
 refine wpAnyH_ready (rs := [7]) (by kernel_rfl) (by simp) ?_
 refine AllReadyH.cons rfl (fun K hK => ?_) AllReadyH.nil
 go_simp
 refine (within_any _ _ _).mono ?_
 rintro e w7 ⟨rfl, rfl⟩
 go_simp
 refine hK.out _ _ (hHeld) (fun hHeld => ?_)
 clear hK K
 try simp only [Act.put, List.setIfInBounds_toArray, List.set_cons_zero, List.set_cons_succ]
 refine held_take (i := 8) (d := some 6) (v := ?_) rfl (by kernel_rfl) (by kernel_rfl) (by kernel_rfl) (by kernel_rfl) (fun _ _ _ h => h) (by kernel_rfl) ?_ hHeld ?_
 rotate_left
 ·intro w' hSw
  go_simp
  first | done | with_reducible rfl
 simp only [Act.put, List.setIfInBounds_toArray, List.set_cons_zero, List.set_cons_succ]
 refine wpAnyH_done (by kernel_rfl) ?_ _
 have BZ := Lib.hid (BW.out.trans (hHeld.mono BW.out.size))
 clear hHeld
 go_wp2_with fail
 go_ret
 exact ⟨ret_int HR2.out.symm, BZ.out⟩
end Go.Proofs.YtghgiefciijoeaaGreatDoor
