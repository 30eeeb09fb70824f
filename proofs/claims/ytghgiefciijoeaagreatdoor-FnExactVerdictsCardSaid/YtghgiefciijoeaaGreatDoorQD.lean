/- isReplaced: the program's closure, slices.ContainsFunc. -/
import Derived.Test.YtghgiefciijoeaaGreatDoorQC
import Derived.Test.YtghgiefciijoeaaGreatDoorBG
import Derived.Deep.DeepCutAuto

namespace Go.Proofs.YtghgiefciijoeaaGreatDoor
open Go.RowKit
set_option linter.unusedVariables false
set_option linter.unusedSimpArgs false
def idxG (f : ActM → Bool) : List ActM → Nat → Int
 | [], _ => -1
 | b :: l, i => if f b = true then i else idxG f l (i + 1)
theorem idxG_any (f : ActM → Bool) : ∀ (l : List ActM) (i : Nat), decide (0 ≤ idxG f l i) = l.any f
 | [], i => rfl
 | b :: l, i => by
  rw [idxG, List.any_cons]
  cases h : f b
  ·simpa using idxG_any f l (i + 1)
  ·simp
set_option maxRecDepth 100000 in
set_option maxHeartbeats 3200000 in
theorem repl1_any (pO pV : Nat) (va : Option Addr) (vl vc mb : Nat) (q x0 x1 x2 x3 er en m y0 y1 y2 y3 : Int) (xs : List Int) (o t : ActT) (w : World) (kO : Blk w pO o.cells) (ho : o.Reads w) (kV : Blk w pV [.slice va vl vc, .map (some mb), .int .i64 q, .int .i64 x0, .int .i64 x1, .int .i64 x2, .int .i64 x3, .int .i64 er, .int .i64 en, .int .i64 m, .int .i64 y0, .int .i64 y1, .int .i64 y2, .int .i64 y3]) (ht : t.Reads w) (h0 : 0 ≤ t.a.r) (h4 : t.a.r < 4) (hy : [y0, y1, y2, y3].getD t.a.r.toNat 0 = xs.getD t.a.r.toNat 0) :
  Calls Tryz.prog 177 #[t.val, .pointer (some ⟨pO, 0, none⟩), .pointer (some ⟨pV, 0, none⟩)] w fun e w' => e = .returned (.bool (ceilIs o.a.bucket t.a && pastM xs t.a && knowsM t.a o.a)) ∧ Below w.heap.size w w' := by
 have LM := Lib.hid (fun W (h : t.Reads W) => limits_any t o.a.bucket W h)
 have PA := Lib.hid (fun W (h : t.Reads W) => isPast_any va vl vc mb q x0 x1 x2 x3 er en m y0 y1 y2 y3 xs t W h h0 h4 hy)
 have KN := Lib.hid (fun W (h : t.Reads W) (h2 : o.Reads W) => implKnows_any t.val o.val t.a o.a W h.is h2.is)
 obtain ⟨X, hX⟩ : ∃ X, X = ceilIs o.a.bucket t.a := ⟨_, rfl⟩
 obtain ⟨Y, hY⟩ : ∃ Y, Y = pastM xs t.a := ⟨_, rfl⟩
 obtain ⟨Z, hZ⟩ : ∃ Z, Z = knowsM t.a o.a := ⟨_, rfl⟩
 rw [← hX] at LM ⊢
 rw [← hY] at PA ⊢
 rw [← hZ] at KN ⊢
 have HT := Lib.hid ht
 have HO := Lib.hid ho
 have KO := Lib.hid kO
 have KV := Lib.hid kV
 clear ht ho kO kV hX hY hZ hy h0 h4
 obtain ⟨⟨r, nn, dep, actor, kind, dst, bucket, mask, gr, gn, ups⟩, vd, vs⟩ := t
 have hsd := ints_len HT.out.1
 have hsu := ups_len HT.out.2
 simp only at hsd hsu
 obtain ⟨da, dc, rfl⟩ := hsd
 obtain ⟨ua, uc, rfl⟩ := hsu
 try simp only [ActT.val] at LM PA KN ⊢
 obtain ⟨dl, hdl⟩ : ∃ x, x = dep.length := ⟨_, rfl⟩
 obtain ⟨ul, hul⟩ : ∃ x, x = ups.length := ⟨_, rfl⟩
 try rw [← hdl] at HT
 try rw [← hul] at HT
 try rw [← hdl] at LM
 try rw [← hul] at LM
 try rw [← hdl] at PA
 try rw [← hul] at PA
 try rw [← hdl] at KN
 try rw [← hul] at KN
 try rw [← hdl]
 try rw [← hul]
 have HDL := Lib.hid hdl
 clear hdl hul
 obtain ⟨⟨pr, pnn, pdep, pactor, pkind, pdst, pbucket, pmask, pgr, pgn, pups⟩, pvd, pvs⟩ := o
 have phsd := ints_len HO.out.1
 have phsu := ups_len HO.out.2
 simp only at phsd phsu
 obtain ⟨pda, pdc, rfl⟩ := phsd
 obtain ⟨pua, puc, rfl⟩ := phsu
 try simp only [ActT.val] at LM PA KN KO ⊢
 obtain ⟨pdl, phdl⟩ : ∃ x, x = pdep.length := ⟨_, rfl⟩
 obtain ⟨pul, phul⟩ : ∃ x, x = pups.length := ⟨_, rfl⟩
 try rw [← phdl] at HO
 try rw [← phul] at HO
 try rw [← phdl] at LM
 try rw [← phul] at LM
 try rw [← phdl] at PA
 try rw [← phul] at PA
 try rw [← phdl] at KN
 try rw [← phul] at KN
 try rw [← phdl] at KO
 try rw [← phul] at KO
 try rw [← phdl]
 try rw [← phul]
 have pHDL := Lib.hid phdl
 clear phdl phul
 simp only [ActT.cells] at KO
 skip
 have BW := Lib.hid (Below.refl w.heap.size w)
 go_enter Tryz.func177, Tryz.ntmps177
 have kT := Blk.new w #[.int .i64 r, .int .i64 nn, .slice da dl dc, .int .i64 actor, .int .i64 kind, .int .i64 dst, .int .i64 bucket, .int .i64 mask, .int .i64 gr, .int .i64 gn, .slice ua ul uc] 32
 have ba := (Below.refl w.heap.size w).alloc (Nat.le_refl _) (.cells #[.int .i64 r, .int .i64 nn, .slice da dl dc, .int .i64 actor, .int .i64 kind, .int .i64 dst, .int .i64 bucket, .int .i64 mask, .int .i64 gr, .int .i64 gn, .slice ua ul uc] 32)
 obtain ⟨pT, hpT⟩ : ∃ p, p = w.heap.size := ⟨_, rfl⟩
 go_upto_region 1 with (fail)
 rw [← hpT] at kT
 try rw [← hpT]
 obtain ⟨w1, hW⟩ : ∃ W, W = w.alloc (.cells #[.int .i64 r, .int .i64 nn, .slice da dl dc, .int .i64 actor, .int .i64 kind, .int .i64 dst, .int .i64 bucket, .int .i64 mask, .int .i64 gr, .int .i64 gn, .slice ua ul uc] 32) := ⟨_, rfl⟩
 rw [← hW] at ba kT ⊢
 have KT := Lib.hid kT
 have GT := Lib.hid (show w.heap.size ≤ pT by omega)
 have NEO_T := Lib.hid (show pO ≠ pT by have := KO.out.lt; omega)
 have NEV_T := Lib.hid (show pV ≠ pT by have := KV.out.lt; omega)
 replace BW := Lib.hid (BW.out.trans ((ba).mono BW.out.size))
 replace HT := Lib.hid (HT.out.below (ba))
 replace HO := Lib.hid (HO.out.below (ba))
 replace KO := Lib.hid (KO.out.below (ba) KO.out.lt)
 replace KV := Lib.hid (KV.out.below (ba) KV.out.lt)
 clear ba hW kT hpT
 have t0 := KT.out.cell 0
 have t1 := KT.out.cell 1
 have t2 := KT.out.cell 2
 have t3 := KT.out.cell 3
 have t4 := KT.out.cell 4
 have t5 := KT.out.cell 5
 have t6 := KT.out.cell 6
 have t7 := KT.out.cell 7
 have t8 := KT.out.cell 8
 have t9 := KT.out.cell 9
 have t10 := KT.out.cell 10
 simp only [List.getElem?_cons_zero, List.getElem?_cons_succ] at t0 t1 t2 t3 t4 t5 t6 t7 t8 t9 t10
 have o0 := KO.out.cell 0
 have o1 := KO.out.cell 1
 have o2 := KO.out.cell 2
 have o3 := KO.out.cell 3
 have o4 := KO.out.cell 4
 have o5 := KO.out.cell 5
 have o6 := KO.out.cell 6
 have o7 := KO.out.cell 7
 have o8 := KO.out.cell 8
 have o9 := KO.out.cell 9
 have o10 := KO.out.cell 10
 simp only [List.getElem?_cons_zero, List.getElem?_cons_succ] at o0 o1 o2 o3 o4 o5 o6 o7 o8 o9 o10
 have v0 := KV.out.cell 0
 have v1 := KV.out.cell 1
 have v2 := KV.out.cell 2
 have v3 := KV.out.cell 3
 have v4 := KV.out.cell 4
 have v5 := KV.out.cell 5
 have v6 := KV.out.cell 6
 have v7 := KV.out.cell 7
 have v8 := KV.out.cell 8
 have v9 := KV.out.cell 9
 have v10 := KV.out.cell 10
 have v11 := KV.out.cell 11
 have v12 := KV.out.cell 12
 have v13 := KV.out.cell 13
 simp only [List.getElem?_cons_zero, List.getElem?_cons_succ] at v0 v1 v2 v3 v4 v5 v6 v7 v8 v9 v10 v11 v12 v13
 go_wp2_with fail
 refine (LM.out _ HT.out).mono ?_
 rintro e w2 ⟨rfl, b⟩
 clear t0 t1 t2 t3 t4 t5 t6 t7 t8 t9 t10 o0 o1 o2 o3 o4 o5 o6 o7 o8 o9 o10 v0 v1 v2 v3 v4 v5 v6 v7 v8 v9 v10 v11 v12 v13
 replace BW := Lib.hid (BW.out.trans ((b).mono BW.out.size))
 replace HT := Lib.hid (HT.out.below (b))
 replace HO := Lib.hid (HO.out.below (b))
 replace KO := Lib.hid (KO.out.below (b) KO.out.lt)
 replace KV := Lib.hid (KV.out.below (b) KV.out.lt)
 replace KT := Lib.hid (KT.out.below (b) KT.out.lt)
 clear b
 cases X
 ·go_wp2_with fail
  go_ret
  exact ⟨rfl, BW.out⟩
 have t0 := KT.out.cell 0
 have t1 := KT.out.cell 1
 have t2 := KT.out.cell 2
 have t3 := KT.out.cell 3
 have t4 := KT.out.cell 4
 have t5 := KT.out.cell 5
 have t6 := KT.out.cell 6
 have t7 := KT.out.cell 7
 have t8 := KT.out.cell 8
 have t9 := KT.out.cell 9
 have t10 := KT.out.cell 10
 simp only [List.getElem?_cons_zero, List.getElem?_cons_succ] at t0 t1 t2 t3 t4 t5 t6 t7 t8 t9 t10
 have o0 := KO.out.cell 0
 have o1 := KO.out.cell 1
 have o2 := KO.out.cell 2
 have o3 := KO.out.cell 3
 have o4 := KO.out.cell 4
 have o5 := KO.out.cell 5
 have o6 := KO.out.cell 6
 have o7 := KO.out.cell 7
 have o8 := KO.out.cell 8
 have o9 := KO.out.cell 9
 have o10 := KO.out.cell 10
 simp only [List.getElem?_cons_zero, List.getElem?_cons_succ] at o0 o1 o2 o3 o4 o5 o6 o7 o8 o9 o10
 have v0 := KV.out.cell 0
 have v1 := KV.out.cell 1
 have v2 := KV.out.cell 2
 have v3 := KV.out.cell 3
 have v4 := KV.out.cell 4
 have v5 := KV.out.cell 5
 have v6 := KV.out.cell 6
 have v7 := KV.out.cell 7
 have v8 := KV.out.cell 8
 have v9 := KV.out.cell 9
 have v10 := KV.out.cell 10
 have v11 := KV.out.cell 11
 have v12 := KV.out.cell 12
 have v13 := KV.out.cell 13
 simp only [List.getElem?_cons_zero, List.getElem?_cons_succ] at v0 v1 v2 v3 v4 v5 v6 v7 v8 v9 v10 v11 v12 v13
 go_wp2_with fail
 refine (PA.out _ HT.out).mono ?_
 rintro e w3 ⟨rfl, b⟩
 clear t0 t1 t2 t3 t4 t5 t6 t7 t8 t9 t10 o0 o1 o2 o3 o4 o5 o6 o7 o8 o9 o10 v0 v1 v2 v3 v4 v5 v6 v7 v8 v9 v10 v11 v12 v13
 replace BW := Lib.hid (BW.out.trans ((b).mono BW.out.size))
 replace HT := Lib.hid (HT.out.below (b))
 replace HO := Lib.hid (HO.out.below (b))
 replace KO := Lib.hid (KO.out.below (b) KO.out.lt)
 replace KV := Lib.hid (KV.out.below (b) KV.out.lt)
 replace KT := Lib.hid (KT.out.below (b) KT.out.lt)
 clear b
 cases Y
 ·go_wp2_with fail
  go_ret
  exact ⟨rfl, BW.out⟩
 have t0 := KT.out.cell 0
 have t1 := KT.out.cell 1
 have t2 := KT.out.cell 2
 have t3 := KT.out.cell 3
 have t4 := KT.out.cell 4
 have t5 := KT.out.cell 5
 have t6 := KT.out.cell 6
 have t7 := KT.out.cell 7
 have t8 := KT.out.cell 8
 have t9 := KT.out.cell 9
 have t10 := KT.out.cell 10
 simp only [List.getElem?_cons_zero, List.getElem?_cons_succ] at t0 t1 t2 t3 t4 t5 t6 t7 t8 t9 t10
 have o0 := KO.out.cell 0
 have o1 := KO.out.cell 1
 have o2 := KO.out.cell 2
 have o3 := KO.out.cell 3
 have o4 := KO.out.cell 4
 have o5 := KO.out.cell 5
 have o6 := KO.out.cell 6
 have o7 := KO.out.cell 7
 have o8 := KO.out.cell 8
 have o9 := KO.out.cell 9
 have o10 := KO.out.cell 10
 simp only [List.getElem?_cons_zero, List.getElem?_cons_succ] at o0 o1 o2 o3 o4 o5 o6 o7 o8 o9 o10
 have v0 := KV.out.cell 0
 have v1 := KV.out.cell 1
 have v2 := KV.out.cell 2
 have v3 := KV.out.cell 3
 have v4 := KV.out.cell 4
 have v5 := KV.out.cell 5
 have v6 := KV.out.cell 6
 have v7 := KV.out.cell 7
 have v8 := KV.out.cell 8
 have v9 := KV.out.cell 9
 have v10 := KV.out.cell 10
 have v11 := KV.out.cell 11
 have v12 := KV.out.cell 12
 have v13 := KV.out.cell 13
 simp only [List.getElem?_cons_zero, List.getElem?_cons_succ] at v0 v1 v2 v3 v4 v5 v6 v7 v8 v9 v10 v11 v12 v13
 go_wp2_with fail
 refine (KN.out _ HT.out HO.out).mono ?_
 rintro e w4 ⟨rfl, b⟩
 clear t0 t1 t2 t3 t4 t5 t6 t7 t8 t9 t10 o0 o1 o2 o3 o4 o5 o6 o7 o8 o9 o10 v0 v1 v2 v3 v4 v5 v6 v7 v8 v9 v10 v11 v12 v13
 replace BW := Lib.hid (BW.out.trans ((b).mono BW.out.size))
 replace HT := Lib.hid (HT.out.below (b))
 replace HO := Lib.hid (HO.out.below (b))
 replace KO := Lib.hid (KO.out.below (b) KO.out.lt)
 replace KV := Lib.hid (KV.out.below (b) KV.out.lt)
 replace KT := Lib.hid (KT.out.below (b) KT.out.lt)
 clear b
 go_wp2_with fail
 go_ret
 exact ⟨ret_bool (by simp), BW.out⟩
set_option maxRecDepth 100000 in
set_option maxHeartbeats 3200000 in
theorem replIdx_some (b off cap len : Nat) (OB VB : Nat) (f : ActM → Bool) (ts : List ActT) (w : World) (h1 : ts.length = len) (hl : len ≤ 9223372036854775807) (hb : b < w.heap.size) (hr : ∀ t ∈ ts, t.Reads w) (hc : ∀ i, i < len → ActAt w b (off + i * 11) (ts.getD i t0))
  (PU : ∀ t ∈ ts, ∀ W, Below w.heap.size w W → t.Reads W → Calls Tryz.prog 177 #[t.val, .pointer (some ⟨OB, 0, none⟩), .pointer (some ⟨VB, 0, none⟩)] W fun e w' => e = .returned (.bool (f t.a)) ∧ Below W.heap.size W w') :
  Calls Tryz.prog 143 #[.slice (some ⟨b, off, none⟩) len cap, .func (.func 177) #[] #[.pointer (some ⟨OB, 0, none⟩), .pointer (some ⟨VB, 0, none⟩)]] w fun e w' => e = .returned (.int .i64 (idxG f (ts.map ActT.a) 0)) ∧ Below w.heap.size w w' := by
 obtain ⟨R, hR⟩ : ∃ R, R = idxG f (ts.map ActT.a) 0 := ⟨_, rfl⟩
 rw [← hR]
 have HR := Lib.hid hR
 have N1 := Lib.hid h1
 have HC := Lib.hid hc
 have HRd := Lib.hid hr
 have PUH := Lib.hid PU
 clear hR h1 hc hr PU
 go_enter Tryz.func143, Tryz.ntmps143
 go_wp2
 go_loopw [8] (fun i wr => ∃ k : Nat, k ≤ len ∧ i = .int .i64 k ∧ Hid (R = idxG f ((ts.map ActT.a).drop k) k) ∧ Hid (Below w.heap.size w wr)) (fun i _ => len - (intOf i).toNat)
 case atStart => exact ⟨0, Nat.zero_le _, rfl, HR.out, Below.refl _ _⟩
 case round =>
  obtain ⟨k, hk, rfl, hg, hbel⟩ := hrel
  by_cases hlt : k < len
  ·have hlt2 : k < ts.length := by rw [N1.out]; exact hlt
   have AT := Lib.hid ((HC.out k hlt).below hbel.out hb)
   have HT := Lib.hid ((HRd.out _ (getD_mem hlt2)).below hbel.out)
   have hst := hg.out
   rw [drop_ts hlt2, idxG] at hst
   have PT0 := PUH.out _ (getD_mem hlt2)
   obtain ⟨t, htt⟩ : ∃ t, t = ts.getD k t0 := ⟨_, rfl⟩
   rw [← htt] at AT HT hst PT0
   have PT := Lib.hid (PT0 wr hbel.out HT.out)
   obtain ⟨X, hX⟩ : ∃ X, X = f t.a := ⟨_, rfl⟩
   rw [← hX] at PT hst
   have HST := Lib.hid hst
   clear htt hst hX hg PT0
   obtain ⟨⟨r, nn, dep, actor, kind, dst, bucket, mask, gr, gn, ups⟩, vd, vs⟩ := t
   have hsd := ints_len HT.out.1
   have hsu := ups_len HT.out.2
   simp only at hsd hsu
   obtain ⟨da, dc, rfl⟩ := hsd
   obtain ⟨ua, uc, rfl⟩ := hsu
   try simp only [ActT.val] at PT ⊢
   obtain ⟨dl, hdl⟩ : ∃ x, x = dep.length := ⟨_, rfl⟩
   obtain ⟨ul, hul⟩ : ∃ x, x = ups.length := ⟨_, rfl⟩
   try rw [← hdl] at HT
   try rw [← hul] at HT
   try rw [← hdl] at AT
   try rw [← hul] at AT
   try rw [← hdl] at PT
   try rw [← hul] at PT
   try rw [← hdl]
   try rw [← hul]
   have HDL := Lib.hid hdl
   clear hdl hul
   have c0 := AT.out.c0
   have c1 := AT.out.c1
   have c2 := AT.out.c2
   have c3 := AT.out.c3
   have c4 := AT.out.c4
   have c5 := AT.out.c5
   have c6 := AT.out.c6
   have c7 := AT.out.c7
   have c8 := AT.out.c8
   have c9 := AT.out.c9
   have c10 := AT.out.c10
   simp only at c0 c1 c2 c3 c4 c5 c6 c7 c8 c9 c10
   clear AT
   go_wp2_with fail
   refine PT.out.mono ?_
   rintro e w2 ⟨rfl, b2⟩
   have B2 := Lib.hid (hbel.out.trans (b2.mono hbel.out.size))
   clear b2 c0 c1 c2 c3 c4 c5 c6 c7 c8 c9 c10
   cases X
   ·have HRT := Lib.hid (show R = idxG f ((ts.map ActT.a).drop (k + 1)) (k + 1) by rw [HST.out]; rfl)
    go_wp2_with fail
    go_roundw
    case rel => exact ⟨k + 1, by omega, by go_num, HRT.out, B2.out⟩
    case measure => simp [intOf]; omega
   ·have HRT := Lib.hid (show R = (k : Int) by rw [HST.out]; rfl)
    go_wp2_with fail
    go_ret
    exact ⟨ret_int HRT.out.symm, B2.out⟩
  ·have HRT := Lib.hid (show R = -1 by rw [hg.out, drop_end (by rw [List.length_map, N1.out]; omega)]; rfl)
   go_wp2_with fail
   go_ret
   exact ⟨ret_int HRT.out.symm, hbel.out⟩
theorem replIdx_any (v : Value) (OB VB : Nat) (f : ActM → Bool) (ts : List ActT) (w : World) (h : ActsT w v ts)
  (PU : ∀ t ∈ ts, ∀ W, Below w.heap.size w W → t.Reads W → Calls Tryz.prog 177 #[t.val, .pointer (some ⟨OB, 0, none⟩), .pointer (some ⟨VB, 0, none⟩)] W fun e w' => e = .returned (.bool (f t.a)) ∧ Below W.heap.size W w') :
  Calls Tryz.prog 143 #[v, .func (.func 177) #[] #[.pointer (some ⟨OB, 0, none⟩), .pointer (some ⟨VB, 0, none⟩)]] w fun e w' => e = .returned (.int .i64 (idxG f (ts.map ActT.a) 0)) ∧ Below w.heap.size w w' := by
 have hm := actsT_max h
 rcases h.2 with ⟨a, cap, rfl, rfl⟩ | ⟨b, off, cap, rfl, q1, q2, q3, q4⟩
 ·go_enter Tryz.func143, Tryz.ntmps143
  go_wp2
  go_loop [8] (fun i => i = .int .i64 0) (fun _ => 0)
  case atStart => exact rfl
  case round =>
   obtain rfl := hrel
   go_wp2
   go_ret
   exact ⟨rfl, Below.refl _ _⟩
 ·exact replIdx_some b off cap _ OB VB f ts w rfl hm q1 h.1 q4 PU
set_option maxHeartbeats 800000 in
theorem replAny_any (v : Value) (OB VB : Nat) (f : ActM → Bool) (ts : List ActT) (w : World) (h : ActsT w v ts)
  (PU : ∀ t ∈ ts, ∀ W, Below w.heap.size w W → t.Reads W → Calls Tryz.prog 177 #[t.val, .pointer (some ⟨OB, 0, none⟩), .pointer (some ⟨VB, 0, none⟩)] W fun e w' => e = .returned (.bool (f t.a)) ∧ Below W.heap.size W w') :
  Calls Tryz.prog 176 #[v, .func (.func 177) #[] #[.pointer (some ⟨OB, 0, none⟩), .pointer (some ⟨VB, 0, none⟩)]] w fun e w' => e = .returned (.bool ((ts.map ActT.a).any f)) ∧ Below w.heap.size w w' := by
 have IX := Lib.hid (replIdx_any v OB VB f ts w h PU)
 rw [← idxG_any]
 obtain ⟨a, cap, rfl⟩ := actsT_len h
 obtain ⟨R, hR⟩ : ∃ x, x = idxG f (ts.map ActT.a) 0 := ⟨_, rfl⟩
 rw [← hR] at IX ⊢
 clear hR
 clear h PU
 by_cases hR : 0 ≤ R
 ·have e1 : decide (R ≥ 0) = true := by simp; omega
  have e2 : decide (0 ≤ R) = true := by simpa using hR
  go_enter Tryz.func176, Tryz.ntmps176
  go_wp2_with fail
  refine IX.out.mono ?_
  rintro e w2 ⟨rfl, b2⟩
  have B2 := Lib.hid b2
  clear b2
  go_wp2
  go_ret
  exact ⟨ret_bool (by simp [hR]), B2.out⟩
 ·have e1 : decide (R ≥ 0) = false := by simp; omega
  have e2 : decide (0 ≤ R) = false := by simpa using hR
  go_enter Tryz.func176, Tryz.ntmps176
  go_wp2_with fail
  refine IX.out.mono ?_
  rintro e w2 ⟨rfl, b2⟩
  have B2 := Lib.hid b2
  clear b2
  go_wp2
  go_ret
  exact ⟨ret_bool (by simp [hR]), B2.out⟩
set_option maxRecDepth 100000 in
set_option maxHeartbeats 3200000 in
theorem isReplaced_any (va : Option Addr) (vl vc mb : Nat) (q x0 x1 x2 x3 er en m y0 y1 y2 y3 : Int) (xs : List Int) (ts : List ActT) (o : ActT) (w : World) (hts : ActsT w (.slice va vl vc) ts) (ho : o.Reads w) (hy : ∀ t ∈ ts, 0 ≤ t.a.r ∧ t.a.r < 4 ∧ [y0, y1, y2, y3].getD t.a.r.toNat 0 = xs.getD t.a.r.toNat 0) :
  Calls Tryz.prog 172 #[.agg #[.slice va vl vc, .map (some mb), .int .i64 q, .int .i64 x0, .int .i64 x1, .int .i64 x2, .int .i64 x3, .int .i64 er, .int .i64 en, .int .i64 m, .int .i64 y0, .int .i64 y1, .int .i64 y2, .int .i64 y3], o.val] w fun e w' => e = .returned (.bool (overM (ts.map ActT.a) o.a.bucket xs o.a)) ∧ Below w.heap.size w w' := by
 have PU := Lib.hid (fun OB VB W (hts : ActsT W (.slice va vl vc) ts) (kO : Blk W OB o.cells) (kV : Blk W VB [.slice va vl vc, .map (some mb), .int .i64 q, .int .i64 x0, .int .i64 x1, .int .i64 x2, .int .i64 x3, .int .i64 er, .int .i64 en, .int .i64 m, .int .i64 y0, .int .i64 y1, .int .i64 y2, .int .i64 y3]) (ho : o.Reads W) => replAny_any (.slice va vl vc) OB VB (fun d => ceilIs o.a.bucket d && pastM xs d && knowsM d o.a) ts W hts
  (fun t ht W' hb hr => repl1_any OB VB va vl vc mb q x0 x1 x2 x3 er en m y0 y1 y2 y3 xs o t W' (kO.below hb kO.lt) (ho.below hb) (kV.below hb kV.lt) hr (hy t ht).1 (hy t ht).2.1 (hy t ht).2.2))
 obtain ⟨R, hR⟩ : ∃ R, R = overM (ts.map ActT.a) o.a.bucket xs o.a := ⟨_, rfl⟩
 have hR2 : (ts.map ActT.a).any (fun d => ceilIs o.a.bucket d && pastM xs d && knowsM d o.a) = R := hR.symm
 rw [hR2] at PU
 rw [← hR]
 have HTS := Lib.hid hts
 have HO := Lib.hid ho
 clear hts ho hy hR hR2
 obtain ⟨⟨r, nn, dep, actor, kind, dst, bucket, mask, gr, gn, ups⟩, vd, vs⟩ := o
 have hsd := ints_len HO.out.1
 have hsu := ups_len HO.out.2
 simp only at hsd hsu
 obtain ⟨da, dc, rfl⟩ := hsd
 obtain ⟨ua, uc, rfl⟩ := hsu
 try simp only [ActT.val] at PU ⊢
 obtain ⟨dl, hdl⟩ : ∃ x, x = dep.length := ⟨_, rfl⟩
 obtain ⟨ul, hul⟩ : ∃ x, x = ups.length := ⟨_, rfl⟩
 try rw [← hdl] at HO
 try rw [← hul] at HO
 try rw [← hdl] at PU
 try rw [← hul] at PU
 try rw [← hdl]
 try rw [← hul]
 have HDL := Lib.hid hdl
 clear hdl hul
 simp only [ActT.cells] at PU
 try rw [← HDL.out] at PU
 have BW := Lib.hid (Below.refl w.heap.size w)
 go_enter Tryz.func172, Tryz.ntmps172
 have kV := (Blk.new w #[.slice va vl vc, .map (some mb), .int .i64 q, .int .i64 x0, .int .i64 x1, .int .i64 x2, .int .i64 x3, .int .i64 er, .int .i64 en, .int .i64 m, .int .i64 y0, .int .i64 y1, .int .i64 y2, .int .i64 y3] 133).alloc (.cells #[.int .i64 r, .int .i64 nn, .slice da dl dc, .int .i64 actor, .int .i64 kind, .int .i64 dst, .int .i64 bucket, .int .i64 mask, .int .i64 gr, .int .i64 gn, .slice ua ul uc] 32)
 have kO := Blk.new (w.alloc (.cells #[.slice va vl vc, .map (some mb), .int .i64 q, .int .i64 x0, .int .i64 x1, .int .i64 x2, .int .i64 x3, .int .i64 er, .int .i64 en, .int .i64 m, .int .i64 y0, .int .i64 y1, .int .i64 y2, .int .i64 y3] 133)) #[.int .i64 r, .int .i64 nn, .slice da dl dc, .int .i64 actor, .int .i64 kind, .int .i64 dst, .int .i64 bucket, .int .i64 mask, .int .i64 gr, .int .i64 gn, .slice ua ul uc] 32
 simp only [World.size_alloc] at kO
 have ba := ((Below.refl w.heap.size w).alloc (Nat.le_refl _) (.cells #[.slice va vl vc, .map (some mb), .int .i64 q, .int .i64 x0, .int .i64 x1, .int .i64 x2, .int .i64 x3, .int .i64 er, .int .i64 en, .int .i64 m, .int .i64 y0, .int .i64 y1, .int .i64 y2, .int .i64 y3] 133)).alloc (by simp [World.size_alloc]; try omega) (.cells #[.int .i64 r, .int .i64 nn, .slice da dl dc, .int .i64 actor, .int .i64 kind, .int .i64 dst, .int .i64 bucket, .int .i64 mask, .int .i64 gr, .int .i64 gn, .slice ua ul uc] 32)
 obtain ⟨pV, hpV⟩ : ∃ p, p = w.heap.size := ⟨_, rfl⟩
 obtain ⟨pO, hpO⟩ : ∃ p, p = w.heap.size + 1 := ⟨_, rfl⟩
 go_upto_region 1 with (fail)
 rw [← hpO] at kO
 try rw [← hpO]
 rw [← hpV] at kV
 try rw [← hpV]
 obtain ⟨w1, hW⟩ : ∃ W, W = (w.alloc (.cells #[.slice va vl vc, .map (some mb), .int .i64 q, .int .i64 x0, .int .i64 x1, .int .i64 x2, .int .i64 x3, .int .i64 er, .int .i64 en, .int .i64 m, .int .i64 y0, .int .i64 y1, .int .i64 y2, .int .i64 y3] 133)).alloc (.cells #[.int .i64 r, .int .i64 nn, .slice da dl dc, .int .i64 actor, .int .i64 kind, .int .i64 dst, .int .i64 bucket, .int .i64 mask, .int .i64 gr, .int .i64 gn, .slice ua ul uc] 32) := ⟨_, rfl⟩
 rw [← hW] at ba kV kO ⊢
 have KV := Lib.hid kV
 have GV := Lib.hid (show w.heap.size ≤ pV by omega)
 have KO := Lib.hid kO
 have GO := Lib.hid (show w.heap.size ≤ pO by omega)
 have NEV_O := Lib.hid (show pV ≠ pO by omega)
 replace BW := Lib.hid (BW.out.trans ((ba).mono BW.out.size))
 replace HTS := Lib.hid (HTS.out.below (ba))
 replace HO := Lib.hid (HO.out.below (ba))
 clear ba hW kV hpV kO hpO
 have v0 := KV.out.cell 0
 have v1 := KV.out.cell 1
 have v2 := KV.out.cell 2
 have v3 := KV.out.cell 3
 have v4 := KV.out.cell 4
 have v5 := KV.out.cell 5
 have v6 := KV.out.cell 6
 have v7 := KV.out.cell 7
 have v8 := KV.out.cell 8
 have v9 := KV.out.cell 9
 have v10 := KV.out.cell 10
 have v11 := KV.out.cell 11
 have v12 := KV.out.cell 12
 have v13 := KV.out.cell 13
 simp only [List.getElem?_cons_zero, List.getElem?_cons_succ] at v0 v1 v2 v3 v4 v5 v6 v7 v8 v9 v10 v11 v12 v13
 go_wp2_with fail
 refine (PU.out _ _ _ HTS.out KO.out KV.out HO.out).mono ?_
 rintro e w2 ⟨rfl, b⟩
 clear v0 v1 v2 v3 v4 v5 v6 v7 v8 v9 v10 v11 v12 v13
 replace BW := Lib.hid (BW.out.trans ((b).mono BW.out.size))
 replace HTS := Lib.hid (HTS.out.below (b))
 replace HO := Lib.hid (HO.out.below (b))
 replace KV := Lib.hid (KV.out.below (b) KV.out.lt)
 replace KO := Lib.hid (KO.out.below (b) KO.out.lt)
 clear b
 go_wp2_with fail
 go_ret
 exact ⟨rfl, BW.out⟩
end Go.Proofs.YtghgiefciijoeaaGreatDoor
