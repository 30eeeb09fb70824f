/- The program's readView, ceilingOf, Ceiling. -/
import Derived.Test.YtghgiefciijoeaaGreatDoorQD
import Derived.Test.YtghgiefciijoeaaGreatDoorKG
import Derived.Deep.DeepCutAuto

namespace Go.Proofs.YtghgiefciijoeaaGreatDoor
open Go.RowKit
set_option linter.unusedVariables false
set_option linter.unusedSimpArgs false
def ViewRead (w : World) (v : Value) (l : List ActM) (n er en : Int) (xs : List Int) (e : Ending) (w' : World) : Prop := Below w.heap.size w w' ∧
 ((goodM l n er xs = true ∧ ∃ mb, e = .returned (.tuple #[.agg #[v, .map (some mb), .int .i64 n, .int .i64 (cntM l 0), .int .i64 (cntM l 1), .int .i64 (cntM l 2), .int .i64 (cntM l 3), .int .i64 er, .int .i64 en, .int .i64 (cn xs), .int .i64 (cx xs 0), .int .i64 (cx xs 1), .int .i64 (cx xs 2), .int .i64 (cx xs 3)], .bool true])) ∨
   (goodM l n er xs = false ∧ e = .returned (.tuple #[.agg #[.slice none 0 0, .map none, .int .i64 0, .int .i64 0, .int .i64 0, .int .i64 0, .int .i64 0, .int .i64 0, .int .i64 0, .int .i64 0, .int .i64 0, .int .i64 0, .int .i64 0, .int .i64 0], .bool false])))
set_option maxRecDepth 100000 in
set_option maxHeartbeats 6400000 in
theorem ceilingOf_some (b off : Nat) (vl vc mb : Nat) (q x0 x1 x2 x3 er en m y0 y1 y2 y3 : Int) (bk : Int) (xs : List Int) (ts : List ActT) (w : World) (h1 : ts.length = vl) (hb : b < w.heap.size) (hc : ∀ i, i < vl → ActAt w b (off + i * 11) (ts.getD i t0)) (hts : ActsT w (.slice (some ⟨b, off, none⟩) vl vc) ts)
  (hy : ∀ t ∈ ts, 0 ≤ t.a.r ∧ t.a.r < 4 ∧ [y0, y1, y2, y3].getD t.a.r.toNat 0 = xs.getD t.a.r.toNat 0) (he : ∀ t ∈ ts, er < t.a.dep.length) :
  Calls Tryz.prog 162 #[.agg #[.slice (some ⟨b, off, none⟩) vl vc, .map (some mb), .int .i64 q, .int .i64 x0, .int .i64 x1, .int .i64 x2, .int .i64 x3, .int .i64 er, .int .i64 en, .int .i64 m, .int .i64 y0, .int .i64 y1, .int .i64 y2, .int .i64 y3], .int .i64 bk] w fun e w' => e = .returned (.int .i64 (ceilM (ts.map ActT.a) bk er en xs)) ∧ Below w.heap.size w w' := by
 have hl := actsT_max hts
 rw [h1] at hl
 obtain ⟨R, hR⟩ : ∃ R, R = ceilM (ts.map ActT.a) bk er en xs := ⟨_, rfl⟩
 rw [← hR]
 have HR : Hid (R = ((ts.map ActT.a).drop 0).foldl (ceilStep (ts.map ActT.a) bk er en xs) 15) := hR
 have N1 := Lib.hid h1
 have HC := Lib.hid hc
 have HRd := Lib.hid hts.1
 have LM := Lib.hid (fun t W (h : t.Reads W) => limits_any t bk W h)
 have LA := Lib.hid (fun t (ht : t ∈ ts) W (h : t.Reads W) => isLater_any (some ⟨b, off, none⟩) vl vc mb q x0 x1 x2 x3 er en m y0 y1 y2 y3 t W h (he t ht))
 have RP := Lib.hid (fun t W (hW : Below w.heap.size w W) (h : t.Reads W) => isReplaced_any (some ⟨b, off, none⟩) vl vc mb q x0 x1 x2 x3 er en m y0 y1 y2 y3 xs ts t W (hts.below hW) h hy)
 have b00 := Lib.hid hb
 clear hR h1 hc hts hy he hb
 have BW := Lib.hid (Below.refl w.heap.size w)
 go_enter Tryz.func162, Tryz.ntmps162
 have kV := Blk.new w #[.slice (some ⟨b, off, none⟩) vl vc, .map (some mb), .int .i64 q, .int .i64 x0, .int .i64 x1, .int .i64 x2, .int .i64 x3, .int .i64 er, .int .i64 en, .int .i64 m, .int .i64 y0, .int .i64 y1, .int .i64 y2, .int .i64 y3] 133
 have ba := (Below.refl w.heap.size w).alloc (Nat.le_refl _) (.cells #[.slice (some ⟨b, off, none⟩) vl vc, .map (some mb), .int .i64 q, .int .i64 x0, .int .i64 x1, .int .i64 x2, .int .i64 x3, .int .i64 er, .int .i64 en, .int .i64 m, .int .i64 y0, .int .i64 y1, .int .i64 y2, .int .i64 y3] 133)
 obtain ⟨pV, hpV⟩ : ∃ p, p = w.heap.size := ⟨_, rfl⟩
 go_upto_region 1 with (fail)
 rw [← hpV] at kV
 try rw [← hpV]
 obtain ⟨w1, hW⟩ : ∃ W, W = w.alloc (.cells #[.slice (some ⟨b, off, none⟩) vl vc, .map (some mb), .int .i64 q, .int .i64 x0, .int .i64 x1, .int .i64 x2, .int .i64 x3, .int .i64 er, .int .i64 en, .int .i64 m, .int .i64 y0, .int .i64 y1, .int .i64 y2, .int .i64 y3] 133) := ⟨_, rfl⟩
 rw [← hW] at ba kV ⊢
 have KV := Lib.hid kV
 have GV := Lib.hid (show w.heap.size ≤ pV by omega)
 replace BW := Lib.hid (BW.out.trans ((ba).mono BW.out.size))
 clear ba hW kV hpV
 have v0 := KV.out.cell 0
 have v1 := KV.out.cell 1
 have v2 := KV.out.cell 2
 have v3 := KV.out.cell 3
 have v4 := KV.out.cell 4
 have v5 := KV.out.cell 5
 have v6 := KV.out.cell 6
 have v7 := KV.out.cell 7
 have v8 := KV.out.cell 8
 have v9 := KV.out.cell 9
 have v10 := KV.out.cell 10
 have v11 := KV.out.cell 11
 have v12 := KV.out.cell 12
 have v13 := KV.out.cell 13
 simp only [List.getElem?_cons_zero, List.getElem?_cons_succ] at v0 v1 v2 v3 v4 v5 v6 v7 v8 v9 v10 v11 v12 v13
 go_wp2_with fail
 clear v0 v1 v2 v3 v4 v5 v6 v7 v8 v9 v10 v11 v12 v13
 go_loopw [5, 12] (fun m' i wr => ∃ (k : Nat) (mm : Int), k ≤ vl ∧ m' = .int .i64 mm ∧ i = .int .i64 k ∧ Hid (R = ((ts.map ActT.a).drop k).foldl (ceilStep (ts.map ActT.a) bk er en xs) mm) ∧ Hid (Blk wr pV [.slice (some ⟨b, off, none⟩) vl vc, .map (some mb), .int .i64 q, .int .i64 x0, .int .i64 x1, .int .i64 x2, .int .i64 x3, .int .i64 er, .int .i64 en, .int .i64 m, .int .i64 y0, .int .i64 y1, .int .i64 y2, .int .i64 y3]) ∧ Hid (Below w.heap.size w wr)) (fun _ i _ => vl - (intOf i).toNat)
 case atStart => exact ⟨0, 15, Nat.zero_le _, rfl, rfl, HR.out, KV.out, BW.out⟩
 case round =>
  obtain ⟨k, mm, hk, rfl, rfl, hg, hkv, hbel⟩ := hrel
  clear BW KV HR
  have BW := hbel
  have KV := hkv
  clear hbel hkv
  by_cases hlt : k < vl
  ·have hlt2 : k < ts.length := by rw [N1.out]; exact hlt
   have hm := getD_mem hlt2
   have AT := Lib.hid ((HC.out k hlt).below BW.out b00.out)
   have HT := Lib.hid ((HRd.out _ hm).below BW.out)
   have hst := hg.out
   rw [fold_step hlt2] at hst
   have LA1 := LA.out _ hm
   have LM1 := LM.out (ts.getD k t0)
   have RP1 := RP.out (ts.getD k t0)
   obtain ⟨t, htt⟩ : ∃ t, t = ts.getD k t0 := ⟨_, rfl⟩
   rw [← htt] at AT HT hst LA1 LM1 RP1
   obtain ⟨X, hX⟩ : ∃ X, X = ceilIs bk t.a := ⟨_, rfl⟩
   obtain ⟨Y, hY⟩ : ∃ Y, Y = laterM t.a er en := ⟨_, rfl⟩
   obtain ⟨Z, hZ⟩ : ∃ Z, Z = overM (ts.map ActT.a) t.a.bucket xs t.a := ⟨_, rfl⟩
   obtain ⟨M1, hM1⟩ : ∃ x, x = t.a.mask := ⟨_, rfl⟩
   have hstep : ceilStep (ts.map ActT.a) bk er en xs mm t.a = (if (X && !Y && !Z) = true then bits .and .i64 mm M1 else mm) := by
    unfold ceilStep
    rw [← hX, ← hY, ← hM1, hZ]
    cases X
    ·rfl
    ·have hbk : t.a.bucket = bk := by
      have := hX.symm
      simp only [ceilIs, Bool.and_eq_true, decide_eq_true_eq] at this
      exact this.2
     rw [hbk]
   rw [hstep] at hst
   rw [← hX] at LM1
   rw [← hY] at LA1
   rw [← hZ] at RP1
   have HST := Lib.hid hst
   have LMH := Lib.hid LM1
   have LAH := Lib.hid LA1
   have RPH := Lib.hid RP1
   clear hst hstep LM1 LA1 RP1 htt hm hX hY hZ hg
   obtain ⟨⟨r, nn, dep, actor, kind, dst, bucket, mask, gr, gn, ups⟩, vd, vs⟩ := t
   have hsd := ints_len HT.out.1
   have hsu := ups_len HT.out.2
   simp only at hsd hsu
   obtain ⟨da, dc, rfl⟩ := hsd
   obtain ⟨ua, uc, rfl⟩ := hsu
   try simp only [ActT.val] at LMH LAH RPH ⊢
   obtain ⟨dl, hdl⟩ : ∃ x, x = dep.length := ⟨_, rfl⟩
   obtain ⟨ul, hul⟩ : ∃ x, x = ups.length := ⟨_, rfl⟩
   try rw [← hdl] at HT
   try rw [← hul] at HT
   try rw [← hdl] at AT
   try rw [← hul] at AT
   try rw [← hdl] at LMH
   try rw [← hul] at LMH
   try rw [← hdl] at LAH
   try rw [← hul] at LAH
   try rw [← hdl] at RPH
   try rw [← hul] at RPH
   try rw [← hdl]
   try rw [← hul]
   have HDL := Lib.hid hdl
   clear hdl hul
   simp only at hM1
   replace hM1 := hM1.symm
   subst hM1
   have c0 := AT.out.c0
   have c1 := AT.out.c1
   have c2 := AT.out.c2
   have c3 := AT.out.c3
   have c4 := AT.out.c4
   have c5 := AT.out.c5
   have c6 := AT.out.c6
   have c7 := AT.out.c7
   have c8 := AT.out.c8
   have c9 := AT.out.c9
   have c10 := AT.out.c10
   simp only at c0 c1 c2 c3 c4 c5 c6 c7 c8 c9 c10
   have i0 : (0 : Int) ≤ (k : Int) := by omega
   have i1 : (k : Int) < (vl : Int) := by omega
   go_upto_region 5 with (fail)
   clear c0 c1 c2 c3 c4 c5 c6 c7 c8 c9 c10
   clear AT i0 i1
   have kC := Blk.new wr #[.int .i64 r, .int .i64 nn, .slice da dl dc, .int .i64 actor, .int .i64 kind, .int .i64 dst, .int .i64 bucket, .int .i64 mask, .int .i64 gr, .int .i64 gn, .slice ua ul uc] 32
   have ba := (Below.refl wr.heap.size wr).alloc (Nat.le_refl _) (.cells #[.int .i64 r, .int .i64 nn, .slice da dl dc, .int .i64 actor, .int .i64 kind, .int .i64 dst, .int .i64 bucket, .int .i64 mask, .int .i64 gr, .int .i64 gn, .slice ua ul uc] 32)
   obtain ⟨pC, hpC⟩ : ∃ p, p = wr.heap.size := ⟨_, rfl⟩
   rw [← hpC] at kC
   try rw [← hpC]
   obtain ⟨w2, hW⟩ : ∃ W, W = wr.alloc (.cells #[.int .i64 r, .int .i64 nn, .slice da dl dc, .int .i64 actor, .int .i64 kind, .int .i64 dst, .int .i64 bucket, .int .i64 mask, .int .i64 gr, .int .i64 gn, .slice ua ul uc] 32) := ⟨_, rfl⟩
   rw [← hW] at ba kC ⊢
   have KC := Lib.hid kC
   have GC := Lib.hid (show wr.heap.size ≤ pC by omega)
   have NEV_C := Lib.hid (show pV ≠ pC by have := KV.out.lt; omega)
   replace BW := Lib.hid (BW.out.trans ((ba).mono BW.out.size))
   replace HT := Lib.hid (HT.out.below (ba))
   replace KV := Lib.hid (KV.out.below (ba) KV.out.lt)
   clear ba hW kC hpC
   have kc0 := KC.out.cell 0
   have kc1 := KC.out.cell 1
   have kc2 := KC.out.cell 2
   have kc3 := KC.out.cell 3
   have kc4 := KC.out.cell 4
   have kc5 := KC.out.cell 5
   have kc6 := KC.out.cell 6
   have kc7 := KC.out.cell 7
   have kc8 := KC.out.cell 8
   have kc9 := KC.out.cell 9
   have kc10 := KC.out.cell 10
   simp only [List.getElem?_cons_zero, List.getElem?_cons_succ] at kc0 kc1 kc2 kc3 kc4 kc5 kc6 kc7 kc8 kc9 kc10
   go_wp2_with fail
   refine (LMH.out _ HT.out).mono ?_
   rintro e w3 ⟨rfl, b⟩
   clear kc0 kc1 kc2 kc3 kc4 kc5 kc6 kc7 kc8 kc9 kc10
   replace BW := Lib.hid (BW.out.trans ((b).mono BW.out.size))
   replace HT := Lib.hid (HT.out.below (b))
   replace KV := Lib.hid (KV.out.below (b) KV.out.lt)
   replace KC := Lib.hid (KC.out.below (b) KC.out.lt)
   clear b
   cases X
   ·have HSS := Lib.hid (show R = ((ts.map ActT.a).drop (k + 1)).foldl (ceilStep (ts.map ActT.a) bk er en xs) mm by rw [HST.out]; rfl)
    go_wp2_with fail
    go_roundw
    case rel => exact ⟨k + 1, mm, by omega, rfl, by go_num, HSS.out, KV.out, BW.out⟩
    case measure => simp [intOf]; omega
   have kc0 := KC.out.cell 0
   have kc1 := KC.out.cell 1
   have kc2 := KC.out.cell 2
   have kc3 := KC.out.cell 3
   have kc4 := KC.out.cell 4
   have kc5 := KC.out.cell 5
   have kc6 := KC.out.cell 6
   have kc7 := KC.out.cell 7
   have kc8 := KC.out.cell 8
   have kc9 := KC.out.cell 9
   have kc10 := KC.out.cell 10
   simp only [List.getElem?_cons_zero, List.getElem?_cons_succ] at kc0 kc1 kc2 kc3 kc4 kc5 kc6 kc7 kc8 kc9 kc10
   have v0 := KV.out.cell 0
   have v1 := KV.out.cell 1
   have v2 := KV.out.cell 2
   have v3 := KV.out.cell 3
   have v4 := KV.out.cell 4
   have v5 := KV.out.cell 5
   have v6 := KV.out.cell 6
   have v7 := KV.out.cell 7
   have v8 := KV.out.cell 8
   have v9 := KV.out.cell 9
   have v10 := KV.out.cell 10
   have v11 := KV.out.cell 11
   have v12 := KV.out.cell 12
   have v13 := KV.out.cell 13
   simp only [List.getElem?_cons_zero, List.getElem?_cons_succ] at v0 v1 v2 v3 v4 v5 v6 v7 v8 v9 v10 v11 v12 v13
   go_wp2_with fail
   refine (LAH.out _ HT.out).mono ?_
   rintro e w4 ⟨rfl, b⟩
   clear kc0 kc1 kc2 kc3 kc4 kc5 kc6 kc7 kc8 kc9 kc10 v0 v1 v2 v3 v4 v5 v6 v7 v8 v9 v10 v11 v12 v13
   replace BW := Lib.hid (BW.out.trans ((b).mono BW.out.size))
   replace HT := Lib.hid (HT.out.below (b))
   replace KV := Lib.hid (KV.out.below (b) KV.out.lt)
   replace KC := Lib.hid (KC.out.below (b) KC.out.lt)
   clear b
   cases Y
   rotate_left
   ·have HSS := Lib.hid (show R = ((ts.map ActT.a).drop (k + 1)).foldl (ceilStep (ts.map ActT.a) bk er en xs) mm by rw [HST.out]; rfl)
    go_wp2_with fail
    go_roundw
    case rel => exact ⟨k + 1, mm, by omega, rfl, by go_num, HSS.out, KV.out, BW.out⟩
    case measure => simp [intOf]; omega
   have kc0 := KC.out.cell 0
   have kc1 := KC.out.cell 1
   have kc2 := KC.out.cell 2
   have kc3 := KC.out.cell 3
   have kc4 := KC.out.cell 4
   have kc5 := KC.out.cell 5
   have kc6 := KC.out.cell 6
   have kc7 := KC.out.cell 7
   have kc8 := KC.out.cell 8
   have kc9 := KC.out.cell 9
   have kc10 := KC.out.cell 10
   simp only [List.getElem?_cons_zero, List.getElem?_cons_succ] at kc0 kc1 kc2 kc3 kc4 kc5 kc6 kc7 kc8 kc9 kc10
   have v0 := KV.out.cell 0
   have v1 := KV.out.cell 1
   have v2 := KV.out.cell 2
   have v3 := KV.out.cell 3
   have v4 := KV.out.cell 4
   have v5 := KV.out.cell 5
   have v6 := KV.out.cell 6
   have v7 := KV.out.cell 7
   have v8 := KV.out.cell 8
   have v9 := KV.out.cell 9
   have v10 := KV.out.cell 10
   have v11 := KV.out.cell 11
   have v12 := KV.out.cell 12
   have v13 := KV.out.cell 13
   simp only [List.getElem?_cons_zero, List.getElem?_cons_succ] at v0 v1 v2 v3 v4 v5 v6 v7 v8 v9 v10 v11 v12 v13
   go_wp2_with fail
   refine (RPH.out _ BW.out HT.out).mono ?_
   rintro e w5 ⟨rfl, b⟩
   clear kc0 kc1 kc2 kc3 kc4 kc5 kc6 kc7 kc8 kc9 kc10 v0 v1 v2 v3 v4 v5 v6 v7 v8 v9 v10 v11 v12 v13
   replace BW := Lib.hid (BW.out.trans ((b).mono BW.out.size))
   replace HT := Lib.hid (HT.out.below (b))
   replace KV := Lib.hid (KV.out.below (b) KV.out.lt)
   replace KC := Lib.hid (KC.out.below (b) KC.out.lt)
   clear b
   cases Z
   rotate_left
   ·have HSS := Lib.hid (show R = ((ts.map ActT.a).drop (k + 1)).foldl (ceilStep (ts.map ActT.a) bk er en xs) mm by rw [HST.out]; rfl)
    go_wp2_with fail
    go_roundw
    case rel => exact ⟨k + 1, mm, by omega, rfl, by go_num, HSS.out, KV.out, BW.out⟩
    case measure => simp [intOf]; omega
   have kc0 := KC.out.cell 0
   have kc1 := KC.out.cell 1
   have kc2 := KC.out.cell 2
   have kc3 := KC.out.cell 3
   have kc4 := KC.out.cell 4
   have kc5 := KC.out.cell 5
   have kc6 := KC.out.cell 6
   have kc7 := KC.out.cell 7
   have kc8 := KC.out.cell 8
   have kc9 := KC.out.cell 9
   have kc10 := KC.out.cell 10
   simp only [List.getElem?_cons_zero, List.getElem?_cons_succ] at kc0 kc1 kc2 kc3 kc4 kc5 kc6 kc7 kc8 kc9 kc10
   go_wp2_with fail
   refine (within_any _ _ _).mono ?_
   rintro e w6 ⟨rfl, rfl⟩
   clear kc0 kc1 kc2 kc3 kc4 kc5 kc6 kc7 kc8 kc9 kc10
   have HSS := Lib.hid (show R = ((ts.map ActT.a).drop (k + 1)).foldl (ceilStep (ts.map ActT.a) bk er en xs) (bits .and .i64 mm mask) by rw [HST.out]; rfl)
   go_wp2_with fail
   go_roundw
   case rel => exact ⟨k + 1, _, by omega, rfl, by go_num, HSS.out, KV.out, BW.out⟩
   case measure => simp [intOf]; omega
  ·have HSS := Lib.hid (show R = mm by rw [hg.out, drop_end (by rw [List.length_map, N1.out]; omega)]; rfl)
   go_wp2_with fail
   go_ret
   exact ⟨ret_int HSS.out.symm, BW.out⟩
set_option maxRecDepth 100000 in
set_option maxHeartbeats 1600000 in
theorem ceilingOf_any (va : Option Addr) (vl vc mb : Nat) (q x0 x1 x2 x3 er en m y0 y1 y2 y3 : Int) (bk : Int) (xs : List Int) (ts : List ActT) (w : World) (hts : ActsT w (.slice va vl vc) ts)
  (hy : ∀ t ∈ ts, 0 ≤ t.a.r ∧ t.a.r < 4 ∧ [y0, y1, y2, y3].getD t.a.r.toNat 0 = xs.getD t.a.r.toNat 0) (he : ∀ t ∈ ts, er < t.a.dep.length) :
  Calls Tryz.prog 162 #[.agg #[.slice va vl vc, .map (some mb), .int .i64 q, .int .i64 x0, .int .i64 x1, .int .i64 x2, .int .i64 x3, .int .i64 er, .int .i64 en, .int .i64 m, .int .i64 y0, .int .i64 y1, .int .i64 y2, .int .i64 y3], .int .i64 bk] w fun e w' => e = .returned (.int .i64 (ceilM (ts.map ActT.a) bk er en xs)) ∧ Below w.heap.size w w' := by
 rcases hts.2 with ⟨a, cap, hv, rfl⟩ | ⟨b, off, cap, hv, q1, q2, q3, q4⟩
 ·cases hv
  have BW := Lib.hid (Below.refl w.heap.size w)
  go_enter Tryz.func162, Tryz.ntmps162
  have kV := Blk.new w #[.slice va 0 vc, .map (some mb), .int .i64 q, .int .i64 x0, .int .i64 x1, .int .i64 x2, .int .i64 x3, .int .i64 er, .int .i64 en, .int .i64 m, .int .i64 y0, .int .i64 y1, .int .i64 y2, .int .i64 y3] 133
  have ba := (Below.refl w.heap.size w).alloc (Nat.le_refl _) (.cells #[.slice va 0 vc, .map (some mb), .int .i64 q, .int .i64 x0, .int .i64 x1, .int .i64 x2, .int .i64 x3, .int .i64 er, .int .i64 en, .int .i64 m, .int .i64 y0, .int .i64 y1, .int .i64 y2, .int .i64 y3] 133)
  obtain ⟨pV, hpV⟩ : ∃ p, p = w.heap.size := ⟨_, rfl⟩
  go_upto_region 1 with (fail)
  rw [← hpV] at kV
  try rw [← hpV]
  obtain ⟨w1, hW⟩ : ∃ W, W = w.alloc (.cells #[.slice va 0 vc, .map (some mb), .int .i64 q, .int .i64 x0, .int .i64 x1, .int .i64 x2, .int .i64 x3, .int .i64 er, .int .i64 en, .int .i64 m, .int .i64 y0, .int .i64 y1, .int .i64 y2, .int .i64 y3] 133) := ⟨_, rfl⟩
  rw [← hW] at ba kV ⊢
  have KV := Lib.hid kV
  have GV := Lib.hid (show w.heap.size ≤ pV by omega)
  replace BW := Lib.hid (BW.out.trans ((ba).mono BW.out.size))
  clear ba hW kV hpV
  have v0 := KV.out.cell 0
  have v1 := KV.out.cell 1
  have v2 := KV.out.cell 2
  have v3 := KV.out.cell 3
  have v4 := KV.out.cell 4
  have v5 := KV.out.cell 5
  have v6 := KV.out.cell 6
  have v7 := KV.out.cell 7
  have v8 := KV.out.cell 8
  have v9 := KV.out.cell 9
  have v10 := KV.out.cell 10
  have v11 := KV.out.cell 11
  have v12 := KV.out.cell 12
  have v13 := KV.out.cell 13
  simp only [List.getElem?_cons_zero, List.getElem?_cons_succ] at v0 v1 v2 v3 v4 v5 v6 v7 v8 v9 v10 v11 v12 v13
  go_wp2_with fail
  go_loop [5, 12] (fun m' i => m' = .int .i64 15 ∧ i = .int .i64 0) (fun _ _ => 0)
  case atStart => exact ⟨rfl, rfl⟩
  case round =>
   obtain ⟨rfl, rfl⟩ := hrel
   go_wp2
   go_ret
   exact ⟨rfl, BW.out⟩
 ·cases hv
  exact ceilingOf_some b off ts.length vc mb q x0 x1 x2 x3 er en m y0 y1 y2 y3 bk xs ts w rfl q1 q4 hts hy he
theorem view_acts {l : List ActM} {n er : Int} {xs : List Int} (h : goodM l n er xs = true) : ∀ t ∈ l, 0 ≤ t.r ∧ t.r < 4 ∧ er < t.dep.length ∧ [cx xs 0, cx xs 1, cx xs 2, cx xs 3].getD t.r.toNat 0 = xs.getD t.r.toNat 0 := by
 obtain ⟨hc, h1, h2, h3⟩ := good_parts h
 obtain ⟨hs, ho, hl, m, rfl, g1, g4, hx⟩ := cutB_set hc
 intro t ht
 have hp := ok_parts ((setOk_all hs).2.2.2 t ht)
 refine ⟨hp.1, by omega, by omega, four_cx ho (by omega)⟩
end Go.Proofs.YtghgiefciijoeaaGreatDoor
