/- Rights: who may hand on, who takes back. -/
import Derived.Test.YtghgiefciijoeaaGreatDoorLA
import Derived.Test.YtghgiefciijoeaaGreatDoorQD
import Derived.Deep.DeepCutAuto

namespace Go.Proofs.YtghgiefciijoeaaGreatDoor
open Go.RowKit
set_option linter.unusedVariables false
set_option linter.unusedSimpArgs false
set_option maxHeartbeats 400000 in
theorem hasR_any (x y : Int) (w : World) : Calls Tryz.prog 185 #[.int .i64 x, .int .i64 y] w fun e w' => e = .returned (.bool (bits .and .i64 x y == y)) ∧ w' = w := by
 go_enter Tryz.func185, Tryz.ntmps185
 go_wp2
 go_ret
 exact ⟨rfl, rfl⟩
set_option maxHeartbeats 400000 in
theorem withR_any (x y : Int) (w : World) : Calls Tryz.prog 169 #[.int .i64 x, .int .i64 y] w fun e w' => e = .returned (.int .i64 (bits .or .i64 x y)) ∧ w' = w := by
 go_enter Tryz.func169, Tryz.ntmps169
 go_wp2
 go_ret
 exact ⟨rfl, rfl⟩
set_option maxHeartbeats 400000 in
theorem mayHandOn_any (x y : Int) (w : World) : Calls Tryz.prog 184 #[.int .i64 x, .int .i64 y] w fun e w' => e = .returned (.bool (handM x y)) ∧ w' = w := by
 have HA := Lib.hid (fun z W => hasR_any x z W)
 have HW := Lib.hid (fun W => withR_any 8 y W)
 unfold handM
 generalize bits .or .i64 8 y = Z at *
 go_enter Tryz.func184, Tryz.ntmps184
 go_wp2_with fail
 refine (HW.out _).mono ?_
 rintro e w1 ⟨rfl, rfl⟩
 go_wp2_with fail
 refine (HA.out _ _).mono ?_
 rintro e w1 ⟨rfl, rfl⟩
 go_wp2
 go_ret
 exact ⟨rfl, rfl⟩
set_option maxHeartbeats 1600000 in
theorem givesTo_any (t : ActT) (ac bk : Int) (w : World) (ht : t.Reads w) : Calls Tryz.prog 168 #[t.val, .int .i64 ac, .int .i64 bk] w fun e w' => e = .returned (.bool (givesM ac bk t.a)) ∧ Below w.heap.size w w' := by
 have HT := Lib.hid ht
 clear ht
 obtain ⟨⟨r, nn, dep, actor, kind, dst, bucket, mask, gr, gn, ups⟩, vd, vs⟩ := t
 have hsd := ints_len HT.out.1
 have hsu := ups_len HT.out.2
 simp only at hsd hsu
 obtain ⟨da, dc, rfl⟩ := hsd
 obtain ⟨ua, uc, rfl⟩ := hsu
 try simp only [ActT.val] at  ⊢
 obtain ⟨dl, hdl⟩ : ∃ x, x = dep.length := ⟨_, rfl⟩
 obtain ⟨ul, hul⟩ : ∃ x, x = ups.length := ⟨_, rfl⟩
 try rw [← hdl] at HT
 try rw [← hul] at HT
 try rw [← hdl]
 try rw [← hul]
 have HDL := Lib.hid hdl
 clear hdl hul
 have b0 := Lib.hid ((Below.refl w.heap.size w).alloc (Nat.le_refl _) (.cells #[.int .i64 r, .int .i64 nn, .slice da dl dc, .int .i64 actor, .int .i64 kind, .int .i64 dst, .int .i64 bucket, .int .i64 mask, .int .i64 gr, .int .i64 gn, .slice ua ul uc] 32))
 unfold givesM
 by_cases h0 : kind = 1
 ·have e0 : (kind == 1) = true := by simp [h0]
  have H0 := Lib.hid h0
  clear h0
  by_cases h1 : dst = ac
  ·have e1 : (dst == ac) = true := by simp [h1]
   have H1 := Lib.hid h1
   clear h1
   by_cases h2 : bucket = bk
   ·have e2 : (bucket == bk) = true := by simp [h2]
    have H2 := Lib.hid h2
    clear h2
    go_enter Tryz.func168, Tryz.ntmps168
    go_wp2
    go_ret
    exact ⟨ret_bool (by simp [H0.out, H1.out, H2.out]), b0.out⟩
   ·have e2 : (bucket == bk) = false := by simp [h2]
    have H2 := Lib.hid h2
    clear h2
    go_enter Tryz.func168, Tryz.ntmps168
    go_wp2
    go_ret
    exact ⟨ret_bool (by simp [H0.out, H1.out, H2.out]), b0.out⟩
  ·have e1 : (dst == ac) = false := by simp [h1]
   have H1 := Lib.hid h1
   clear h1
   go_enter Tryz.func168, Tryz.ntmps168
   go_wp2
   go_ret
   exact ⟨ret_bool (by simp [H0.out, H1.out]), b0.out⟩
 ·have e0 : (kind == 1) = false := by simp [h0]
  have H0 := Lib.hid h0
  clear h0
  go_enter Tryz.func168, Tryz.ntmps168
  go_wp2
  go_ret
  exact ⟨ret_bool (by simp [H0.out]), b0.out⟩
set_option maxHeartbeats 3200000 in
theorem takesBack_any (t g : ActT) (w : World) (ht : t.Reads w) (hg : g.Reads w) : Calls Tryz.prog 183 #[t.val, g.val] w fun e w' => e = .returned (.bool (tbackM g.a t.a)) ∧ Below w.heap.size w w' := by
 have HT := Lib.hid ht
 have HG := Lib.hid hg
 clear ht hg
 obtain ⟨⟨r, nn, dep, actor, kind, dst, bucket, mask, gr, gn, ups⟩, vd, vs⟩ := t
 have hsd := ints_len HT.out.1
 have hsu := ups_len HT.out.2
 simp only at hsd hsu
 obtain ⟨da, dc, rfl⟩ := hsd
 obtain ⟨ua, uc, rfl⟩ := hsu
 try simp only [ActT.val] at  ⊢
 obtain ⟨dl, hdl⟩ : ∃ x, x = dep.length := ⟨_, rfl⟩
 obtain ⟨ul, hul⟩ : ∃ x, x = ups.length := ⟨_, rfl⟩
 try rw [← hdl] at HT
 try rw [← hul] at HT
 try rw [← hdl]
 try rw [← hul]
 have HDL := Lib.hid hdl
 clear hdl hul
 obtain ⟨⟨pr, pnn, pdep, pactor, pkind, pdst, pbucket, pmask, pgr, pgn, pups⟩, pvd, pvs⟩ := g
 have phsd := ints_len HG.out.1
 have phsu := ups_len HG.out.2
 simp only at phsd phsu
 obtain ⟨pda, pdc, rfl⟩ := phsd
 obtain ⟨pua, puc, rfl⟩ := phsu
 try simp only [ActT.val] at  ⊢
 obtain ⟨pdl, phdl⟩ : ∃ x, x = pdep.length := ⟨_, rfl⟩
 obtain ⟨pul, phul⟩ : ∃ x, x = pups.length := ⟨_, rfl⟩
 try rw [← phdl] at HG
 try rw [← phul] at HG
 try rw [← phdl]
 try rw [← phul]
 have pHDL := Lib.hid phdl
 clear phdl phul
 have b0 := Lib.hid (((Below.refl w.heap.size w).alloc (Nat.le_refl _) (.cells #[.int .i64 r, .int .i64 nn, .slice da dl dc, .int .i64 actor, .int .i64 kind, .int .i64 dst, .int .i64 bucket, .int .i64 mask, .int .i64 gr, .int .i64 gn, .slice ua ul uc] 32)).alloc (by simp) (.cells #[.int .i64 pr, .int .i64 pnn, .slice pda pdl pdc, .int .i64 pactor, .int .i64 pkind, .int .i64 pdst, .int .i64 pbucket, .int .i64 pmask, .int .i64 pgr, .int .i64 pgn, .slice pua pul puc] 32))
 unfold tbackM
 by_cases h0 : kind = 2
 ·have e0 : (kind == 2) = true := by simp [h0]
  have H0 := Lib.hid h0
  clear h0
  by_cases h1 : gr = pr
  ·have e1 : (gr == pr) = true := by simp [h1]
   have H1 := Lib.hid h1
   clear h1
   by_cases h2 : gn = pnn
   ·have e2 : (gn == pnn) = true := by simp [h2]
    have H2 := Lib.hid h2
    clear h2
    by_cases hz : actor = 0
    ·have ez : (actor == 0) = true := by simp [hz]
     have HZ := Lib.hid hz
     clear hz
     go_enter Tryz.func183, Tryz.ntmps183
     go_wp2
     go_ret
     exact ⟨ret_bool (by simp [H0.out, H1.out, H2.out, HZ.out]), b0.out⟩
    ·have ez : (actor == 0) = false := by simp [hz]
     have HZ := Lib.hid hz
     clear hz
     by_cases hy : actor = pactor
     ·have ey : (actor == pactor) = true := by simp [hy]
      have HY := Lib.hid hy
      clear hy
      go_enter Tryz.func183, Tryz.ntmps183
      go_wp2
      go_ret
      exact ⟨ret_bool (by simp [H0.out, H1.out, H2.out, HZ.out, HY.out]), b0.out⟩
     ·have ey : (actor == pactor) = false := by simp [hy]
      have HY := Lib.hid hy
      clear hy
      go_enter Tryz.func183, Tryz.ntmps183
      go_wp2
      go_ret
      exact ⟨ret_bool (by simp [H0.out, H1.out, H2.out, HZ.out, HY.out]), b0.out⟩
   ·have e2 : (gn == pnn) = false := by simp [h2]
    have H2 := Lib.hid h2
    clear h2
    go_enter Tryz.func183, Tryz.ntmps183
    go_wp2
    go_ret
    exact ⟨ret_bool (by simp [H0.out, H1.out, H2.out]), b0.out⟩
  ·have e1 : (gr == pr) = false := by simp [h1]
   have H1 := Lib.hid h1
   clear h1
   go_enter Tryz.func183, Tryz.ntmps183
   go_wp2
   go_ret
   exact ⟨ret_bool (by simp [H0.out, H1.out]), b0.out⟩
 ·have e0 : (kind == 2) = false := by simp [h0]
  have H0 := Lib.hid h0
  clear h0
  go_enter Tryz.func183, Tryz.ntmps183
  go_wp2
  go_ret
  exact ⟨ret_bool (by simp [H0.out]), b0.out⟩
set_option maxRecDepth 100000 in
set_option maxHeartbeats 3200000 in
theorem tback1_any (pO pV : Nat) (va : Option Addr) (vl vc mb : Nat) (q x0 x1 x2 x3 er en m y0 y1 y2 y3 : Int) (o t : ActT) (w : World) (kO : Blk w pO o.cells) (ho : o.Reads w) (kV : Blk w pV [.slice va vl vc, .map (some mb), .int .i64 q, .int .i64 x0, .int .i64 x1, .int .i64 x2, .int .i64 x3, .int .i64 er, .int .i64 en, .int .i64 m, .int .i64 y0, .int .i64 y1, .int .i64 y2, .int .i64 y3]) (ht : t.Reads w) (he : er < t.a.dep.length) :
  Calls Tryz.prog 182 #[t.val, .pointer (some ⟨pO, 0, none⟩), .pointer (some ⟨pV, 0, none⟩)] w fun e w' => e = .returned (.bool (tbackM o.a t.a && !laterM t.a er en)) ∧ Below w.heap.size w w' := by
 have TB := Lib.hid (fun W (h : t.Reads W) (h2 : o.Reads W) => takesBack_any t o W h h2)
 have LA := Lib.hid (fun W (h : t.Reads W) => isLater_any va vl vc mb q x0 x1 x2 x3 er en m y0 y1 y2 y3 t W h he)
 obtain ⟨X, hX⟩ : ∃ X, X = tbackM o.a t.a := ⟨_, rfl⟩
 obtain ⟨Y, hY⟩ : ∃ Y, Y = laterM t.a er en := ⟨_, rfl⟩
 rw [← hX] at TB ⊢
 rw [← hY] at LA ⊢
 have HT := Lib.hid ht
 have HO := Lib.hid ho
 have KO := Lib.hid kO
 have KV := Lib.hid kV
 clear ht ho kO kV hX hY he
 obtain ⟨⟨r, nn, dep, actor, kind, dst, bucket, mask, gr, gn, ups⟩, vd, vs⟩ := t
 have hsd := ints_len HT.out.1
 have hsu := ups_len HT.out.2
 simp only at hsd hsu
 obtain ⟨da, dc, rfl⟩ := hsd
 obtain ⟨ua, uc, rfl⟩ := hsu
 try simp only [ActT.val] at TB LA ⊢
 obtain ⟨dl, hdl⟩ : ∃ x, x = dep.length := ⟨_, rfl⟩
 obtain ⟨ul, hul⟩ : ∃ x, x = ups.length := ⟨_, rfl⟩
 try rw [← hdl] at HT
 try rw [← hul] at HT
 try rw [← hdl] at TB
 try rw [← hul] at TB
 try rw [← hdl] at LA
 try rw [← hul] at LA
 try rw [← hdl]
 try rw [← hul]
 have HDL := Lib.hid hdl
 clear hdl hul
 obtain ⟨⟨pr, pnn, pdep, pactor, pkind, pdst, pbucket, pmask, pgr, pgn, pups⟩, pvd, pvs⟩ := o
 have phsd := ints_len HO.out.1
 have phsu := ups_len HO.out.2
 simp only at phsd phsu
 obtain ⟨pda, pdc, rfl⟩ := phsd
 obtain ⟨pua, puc, rfl⟩ := phsu
 try simp only [ActT.val] at TB KO ⊢
 obtain ⟨pdl, phdl⟩ : ∃ x, x = pdep.length := ⟨_, rfl⟩
 obtain ⟨pul, phul⟩ : ∃ x, x = pups.length := ⟨_, rfl⟩
 try rw [← phdl] at HO
 try rw [← phul] at HO
 try rw [← phdl] at TB
 try rw [← phul] at TB
 try rw [← phdl] at KO
 try rw [← phul] at KO
 try rw [← phdl]
 try rw [← phul]
 have pHDL := Lib.hid phdl
 clear phdl phul
 simp only [ActT.cells] at KO
 have BW := Lib.hid (Below.refl w.heap.size w)
 go_enter Tryz.func182, Tryz.ntmps182
 have kT := Blk.new w #[.int .i64 r, .int .i64 nn, .slice da dl dc, .int .i64 actor, .int .i64 kind, .int .i64 dst, .int .i64 bucket, .int .i64 mask, .int .i64 gr, .int .i64 gn, .slice ua ul uc] 32
 have ba := (Below.refl w.heap.size w).alloc (Nat.le_refl _) (.cells #[.int .i64 r, .int .i64 nn, .slice da dl dc, .int .i64 actor, .int .i64 kind, .int .i64 dst, .int .i64 bucket, .int .i64 mask, .int .i64 gr, .int .i64 gn, .slice ua ul uc] 32)
 obtain ⟨pT, hpT⟩ : ∃ p, p = w.heap.size := ⟨_, rfl⟩
 go_upto_region 1 with (fail)
 rw [← hpT] at kT
 try rw [← hpT]
 obtain ⟨w1, hW⟩ : ∃ W, W = w.alloc (.cells #[.int .i64 r, .int .i64 nn, .slice da dl dc, .int .i64 actor, .int .i64 kind, .int .i64 dst, .int .i64 bucket, .int .i64 mask, .int .i64 gr, .int .i64 gn, .slice ua ul uc] 32) := ⟨_, rfl⟩
 rw [← hW] at ba kT ⊢
 have KT := Lib.hid kT
 have GT := Lib.hid (show w.heap.size ≤ pT by omega)
 have NEO_T := Lib.hid (show pO ≠ pT by have := KO.out.lt; omega)
 have NEV_T := Lib.hid (show pV ≠ pT by have := KV.out.lt; omega)
 replace BW := Lib.hid (BW.out.trans ((ba).mono BW.out.size))
 replace HT := Lib.hid (HT.out.below (ba))
 replace HO := Lib.hid (HO.out.below (ba))
 replace KO := Lib.hid (KO.out.below (ba) KO.out.lt)
 replace KV := Lib.hid (KV.out.below (ba) KV.out.lt)
 clear ba hW kT hpT
 have kt0 := KT.out.cell 0
 have kt1 := KT.out.cell 1
 have kt2 := KT.out.cell 2
 have kt3 := KT.out.cell 3
 have kt4 := KT.out.cell 4
 have kt5 := KT.out.cell 5
 have kt6 := KT.out.cell 6
 have kt7 := KT.out.cell 7
 have kt8 := KT.out.cell 8
 have kt9 := KT.out.cell 9
 have kt10 := KT.out.cell 10
 simp only [List.getElem?_cons_zero, List.getElem?_cons_succ] at kt0 kt1 kt2 kt3 kt4 kt5 kt6 kt7 kt8 kt9 kt10
 have ko0 := KO.out.cell 0
 have ko1 := KO.out.cell 1
 have ko2 := KO.out.cell 2
 have ko3 := KO.out.cell 3
 have ko4 := KO.out.cell 4
 have ko5 := KO.out.cell 5
 have ko6 := KO.out.cell 6
 have ko7 := KO.out.cell 7
 have ko8 := KO.out.cell 8
 have ko9 := KO.out.cell 9
 have ko10 := KO.out.cell 10
 simp only [List.getElem?_cons_zero, List.getElem?_cons_succ] at ko0 ko1 ko2 ko3 ko4 ko5 ko6 ko7 ko8 ko9 ko10
 have kv0 := KV.out.cell 0
 have kv1 := KV.out.cell 1
 have kv2 := KV.out.cell 2
 have kv3 := KV.out.cell 3
 have kv4 := KV.out.cell 4
 have kv5 := KV.out.cell 5
 have kv6 := KV.out.cell 6
 have kv7 := KV.out.cell 7
 have kv8 := KV.out.cell 8
 have kv9 := KV.out.cell 9
 have kv10 := KV.out.cell 10
 have kv11 := KV.out.cell 11
 have kv12 := KV.out.cell 12
 have kv13 := KV.out.cell 13
 simp only [List.getElem?_cons_zero, List.getElem?_cons_succ] at kv0 kv1 kv2 kv3 kv4 kv5 kv6 kv7 kv8 kv9 kv10 kv11 kv12 kv13
 go_wp2_with fail
 refine (TB.out _ HT.out HO.out).mono ?_
 rintro e w2 ⟨rfl, b⟩
 clear kt0 kt1 kt2 kt3 kt4 kt5 kt6 kt7 kt8 kt9 kt10 ko0 ko1 ko2 ko3 ko4 ko5 ko6 ko7 ko8 ko9 ko10 kv0 kv1 kv2 kv3 kv4 kv5 kv6 kv7 kv8 kv9 kv10 kv11 kv12 kv13
 replace BW := Lib.hid (BW.out.trans ((b).mono BW.out.size))
 replace HT := Lib.hid (HT.out.below (b))
 replace HO := Lib.hid (HO.out.below (b))
 replace KO := Lib.hid (KO.out.below (b) KO.out.lt)
 replace KV := Lib.hid (KV.out.below (b) KV.out.lt)
 replace KT := Lib.hid (KT.out.below (b) KT.out.lt)
 clear b
 cases X
 ·go_wp2_with fail
  go_ret
  exact ⟨rfl, BW.out⟩
 have kt0 := KT.out.cell 0
 have kt1 := KT.out.cell 1
 have kt2 := KT.out.cell 2
 have kt3 := KT.out.cell 3
 have kt4 := KT.out.cell 4
 have kt5 := KT.out.cell 5
 have kt6 := KT.out.cell 6
 have kt7 := KT.out.cell 7
 have kt8 := KT.out.cell 8
 have kt9 := KT.out.cell 9
 have kt10 := KT.out.cell 10
 simp only [List.getElem?_cons_zero, List.getElem?_cons_succ] at kt0 kt1 kt2 kt3 kt4 kt5 kt6 kt7 kt8 kt9 kt10
 have ko0 := KO.out.cell 0
 have ko1 := KO.out.cell 1
 have ko2 := KO.out.cell 2
 have ko3 := KO.out.cell 3
 have ko4 := KO.out.cell 4
 have ko5 := KO.out.cell 5
 have ko6 := KO.out.cell 6
 have ko7 := KO.out.cell 7
 have ko8 := KO.out.cell 8
 have ko9 := KO.out.cell 9
 have ko10 := KO.out.cell 10
 simp only [List.getElem?_cons_zero, List.getElem?_cons_succ] at ko0 ko1 ko2 ko3 ko4 ko5 ko6 ko7 ko8 ko9 ko10
 have kv0 := KV.out.cell 0
 have kv1 := KV.out.cell 1
 have kv2 := KV.out.cell 2
 have kv3 := KV.out.cell 3
 have kv4 := KV.out.cell 4
 have kv5 := KV.out.cell 5
 have kv6 := KV.out.cell 6
 have kv7 := KV.out.cell 7
 have kv8 := KV.out.cell 8
 have kv9 := KV.out.cell 9
 have kv10 := KV.out.cell 10
 have kv11 := KV.out.cell 11
 have kv12 := KV.out.cell 12
 have kv13 := KV.out.cell 13
 simp only [List.getElem?_cons_zero, List.getElem?_cons_succ] at kv0 kv1 kv2 kv3 kv4 kv5 kv6 kv7 kv8 kv9 kv10 kv11 kv12 kv13
 go_wp2_with fail
 refine (LA.out _ HT.out).mono ?_
 rintro e w3 ⟨rfl, b⟩
 clear kt0 kt1 kt2 kt3 kt4 kt5 kt6 kt7 kt8 kt9 kt10 ko0 ko1 ko2 ko3 ko4 ko5 ko6 ko7 ko8 ko9 ko10 kv0 kv1 kv2 kv3 kv4 kv5 kv6 kv7 kv8 kv9 kv10 kv11 kv12 kv13
 replace BW := Lib.hid (BW.out.trans ((b).mono BW.out.size))
 replace HT := Lib.hid (HT.out.below (b))
 replace HO := Lib.hid (HO.out.below (b))
 replace KO := Lib.hid (KO.out.below (b) KO.out.lt)
 replace KV := Lib.hid (KV.out.below (b) KV.out.lt)
 replace KT := Lib.hid (KT.out.below (b) KT.out.lt)
 clear b
 go_wp2_with fail
 go_ret
 exact ⟨ret_bool (by simp), BW.out⟩
set_option maxRecDepth 100000 in
set_option maxHeartbeats 3200000 in
theorem tbackIdx_some (b off cap len : Nat) (OB VB : Nat) (f : ActM → Bool) (ts : List ActT) (w : World) (h1 : ts.length = len) (hl : len ≤ 9223372036854775807) (hb : b < w.heap.size) (hr : ∀ t ∈ ts, t.Reads w) (hc : ∀ i, i < len → ActAt w b (off + i * 11) (ts.getD i t0))
  (PU : ∀ t ∈ ts, ∀ W, Below w.heap.size w W → t.Reads W → Calls Tryz.prog 182 #[t.val, .pointer (some ⟨OB, 0, none⟩), .pointer (some ⟨VB, 0, none⟩)] W fun e w' => e = .returned (.bool (f t.a)) ∧ Below W.heap.size W w') :
  Calls Tryz.prog 143 #[.slice (some ⟨b, off, none⟩) len cap, .func (.func 182) #[] #[.pointer (some ⟨OB, 0, none⟩), .pointer (some ⟨VB, 0, none⟩)]] w fun e w' => e = .returned (.int .i64 (idxG f (ts.map ActT.a) 0)) ∧ Below w.heap.size w w' := by
 obtain ⟨R, hR⟩ : ∃ R, R = idxG f (ts.map ActT.a) 0 := ⟨_, rfl⟩
 rw [← hR]
 have HR := Lib.hid hR
 have N1 := Lib.hid h1
 have HC := Lib.hid hc
 have HRd := Lib.hid hr
 have PUH := Lib.hid PU
 clear hR h1 hc hr PU
 go_enter Tryz.func143, Tryz.ntmps143
 go_wp2
 go_loopw [8] (fun i wr => ∃ k : Nat, k ≤ len ∧ i = .int .i64 k ∧ Hid (R = idxG f ((ts.map ActT.a).drop k) k) ∧ Hid (Below w.heap.size w wr)) (fun i _ => len - (intOf i).toNat)
 case atStart => exact ⟨0, Nat.zero_le _, rfl, HR.out, Below.refl _ _⟩
 case round =>
  obtain ⟨k, hk, rfl, hg, hbel⟩ := hrel
  by_cases hlt : k < len
  ·have hlt2 : k < ts.length := by rw [N1.out]; exact hlt
   have AT := Lib.hid ((HC.out k hlt).below hbel.out hb)
   have HT := Lib.hid ((HRd.out _ (getD_mem hlt2)).below hbel.out)
   have hst := hg.out
   rw [drop_ts hlt2, idxG] at hst
   have PT0 := PUH.out _ (getD_mem hlt2)
   obtain ⟨t, htt⟩ : ∃ t, t = ts.getD k t0 := ⟨_, rfl⟩
   rw [← htt] at AT HT hst PT0
   have PT := Lib.hid (PT0 wr hbel.out HT.out)
   obtain ⟨X, hX⟩ : ∃ X, X = f t.a := ⟨_, rfl⟩
   rw [← hX] at PT hst
   have HST := Lib.hid hst
   clear htt hst hX hg PT0
   obtain ⟨⟨r, nn, dep, actor, kind, dst, bucket, mask, gr, gn, ups⟩, vd, vs⟩ := t
   have hsd := ints_len HT.out.1
   have hsu := ups_len HT.out.2
   simp only at hsd hsu
   obtain ⟨da, dc, rfl⟩ := hsd
   obtain ⟨ua, uc, rfl⟩ := hsu
   try simp only [ActT.val] at PT ⊢
   obtain ⟨dl, hdl⟩ : ∃ x, x = dep.length := ⟨_, rfl⟩
   obtain ⟨ul, hul⟩ : ∃ x, x = ups.length := ⟨_, rfl⟩
   try rw [← hdl] at HT
   try rw [← hul] at HT
   try rw [← hdl] at AT
   try rw [← hul] at AT
   try rw [← hdl] at PT
   try rw [← hul] at PT
   try rw [← hdl]
   try rw [← hul]
   have HDL := Lib.hid hdl
   clear hdl hul
   have c0 := AT.out.c0
   have c1 := AT.out.c1
   have c2 := AT.out.c2
   have c3 := AT.out.c3
   have c4 := AT.out.c4
   have c5 := AT.out.c5
   have c6 := AT.out.c6
   have c7 := AT.out.c7
   have c8 := AT.out.c8
   have c9 := AT.out.c9
   have c10 := AT.out.c10
   simp only at c0 c1 c2 c3 c4 c5 c6 c7 c8 c9 c10
   clear AT
   go_wp2_with fail
   refine PT.out.mono ?_
   rintro e w2 ⟨rfl, b2⟩
   have B2 := Lib.hid (hbel.out.trans (b2.mono hbel.out.size))
   clear b2 c0 c1 c2 c3 c4 c5 c6 c7 c8 c9 c10
   cases X
   ·have HRT := Lib.hid (show R = idxG f ((ts.map ActT.a).drop (k + 1)) (k + 1) by rw [HST.out]; rfl)
    go_wp2_with fail
    go_roundw
    case rel => exact ⟨k + 1, by omega, by go_num, HRT.out, B2.out⟩
    case measure => simp [intOf]; omega
   ·have HRT := Lib.hid (show R = (k : Int) by rw [HST.out]; rfl)
    go_wp2_with fail
    go_ret
    exact ⟨ret_int HRT.out.symm, B2.out⟩
  ·have HRT := Lib.hid (show R = -1 by rw [hg.out, drop_end (by rw [List.length_map, N1.out]; omega)]; rfl)
   go_wp2_with fail
   go_ret
   exact ⟨ret_int HRT.out.symm, hbel.out⟩
theorem tbackIdx_any (v : Value) (OB VB : Nat) (f : ActM → Bool) (ts : List ActT) (w : World) (h : ActsT w v ts)
  (PU : ∀ t ∈ ts, ∀ W, Below w.heap.size w W → t.Reads W → Calls Tryz.prog 182 #[t.val, .pointer (some ⟨OB, 0, none⟩), .pointer (some ⟨VB, 0, none⟩)] W fun e w' => e = .returned (.bool (f t.a)) ∧ Below W.heap.size W w') :
  Calls Tryz.prog 143 #[v, .func (.func 182) #[] #[.pointer (some ⟨OB, 0, none⟩), .pointer (some ⟨VB, 0, none⟩)]] w fun e w' => e = .returned (.int .i64 (idxG f (ts.map ActT.a) 0)) ∧ Below w.heap.size w w' := by
 have hm := actsT_max h
 rcases h.2 with ⟨a, cap, rfl, rfl⟩ | ⟨b, off, cap, rfl, q1, q2, q3, q4⟩
 ·go_enter Tryz.func143, Tryz.ntmps143
  go_wp2
  go_loop [8] (fun i => i = .int .i64 0) (fun _ => 0)
  case atStart => exact rfl
  case round =>
   obtain rfl := hrel
   go_wp2
   go_ret
   exact ⟨rfl, Below.refl _ _⟩
 ·exact tbackIdx_some b off cap _ OB VB f ts w rfl hm q1 h.1 q4 PU
set_option maxHeartbeats 800000 in
theorem tbackAny_any (v : Value) (OB VB : Nat) (f : ActM → Bool) (ts : List ActT) (w : World) (h : ActsT w v ts)
  (PU : ∀ t ∈ ts, ∀ W, Below w.heap.size w W → t.Reads W → Calls Tryz.prog 182 #[t.val, .pointer (some ⟨OB, 0, none⟩), .pointer (some ⟨VB, 0, none⟩)] W fun e w' => e = .returned (.bool (f t.a)) ∧ Below W.heap.size W w') :
  Calls Tryz.prog 176 #[v, .func (.func 182) #[] #[.pointer (some ⟨OB, 0, none⟩), .pointer (some ⟨VB, 0, none⟩)]] w fun e w' => e = .returned (.bool ((ts.map ActT.a).any f)) ∧ Below w.heap.size w w' := by
 have IX := Lib.hid (tbackIdx_any v OB VB f ts w h PU)
 rw [← idxG_any]
 obtain ⟨a, cap, rfl⟩ := actsT_len h
 obtain ⟨R, hR⟩ : ∃ x, x = idxG f (ts.map ActT.a) 0 := ⟨_, rfl⟩
 rw [← hR] at IX ⊢
 clear hR
 clear h PU
 by_cases hR : 0 ≤ R
 ·have e1 : decide (R ≥ 0) = true := by simp; omega
  have e2 : decide (0 ≤ R) = true := by simpa using hR
  go_enter Tryz.func176, Tryz.ntmps176
  go_wp2_with fail
  refine IX.out.mono ?_
  rintro e w2 ⟨rfl, b2⟩
  have B2 := Lib.hid b2
  clear b2
  go_wp2
  go_ret
  exact ⟨ret_bool (by simp [hR]), B2.out⟩
 ·have e1 : decide (R ≥ 0) = false := by simp; omega
  have e2 : decide (0 ≤ R) = false := by simpa using hR
  go_enter Tryz.func176, Tryz.ntmps176
  go_wp2_with fail
  refine IX.out.mono ?_
  rintro e w2 ⟨rfl, b2⟩
  have B2 := Lib.hid b2
  clear b2
  go_wp2
  go_ret
  exact ⟨ret_bool (by simp [hR]), B2.out⟩
set_option maxRecDepth 100000 in
set_option maxHeartbeats 3200000 in
theorem isTakenBack_any (va : Option Addr) (vl vc mb : Nat) (q x0 x1 x2 x3 er en m y0 y1 y2 y3 : Int) (ts : List ActT) (o : ActT) (w : World) (hts : ActsT w (.slice va vl vc) ts) (ho : o.Reads w) (he : ∀ t ∈ ts, er < t.a.dep.length) :
  Calls Tryz.prog 180 #[.agg #[.slice va vl vc, .map (some mb), .int .i64 q, .int .i64 x0, .int .i64 x1, .int .i64 x2, .int .i64 x3, .int .i64 er, .int .i64 en, .int .i64 m, .int .i64 y0, .int .i64 y1, .int .i64 y2, .int .i64 y3], o.val] w fun e w' => e = .returned (.bool (tkbM (ts.map ActT.a) er en o.a)) ∧ Below w.heap.size w w' := by
 have PU := Lib.hid (fun OB VB W (hts : ActsT W (.slice va vl vc) ts) (kO : Blk W OB o.cells) (kV : Blk W VB [.slice va vl vc, .map (some mb), .int .i64 q, .int .i64 x0, .int .i64 x1, .int .i64 x2, .int .i64 x3, .int .i64 er, .int .i64 en, .int .i64 m, .int .i64 y0, .int .i64 y1, .int .i64 y2, .int .i64 y3]) (ho : o.Reads W) => tbackAny_any (.slice va vl vc) OB VB (fun d => tbackM o.a d && !laterM d er en) ts W hts
  (fun t ht W' hb hr => tback1_any OB VB va vl vc mb q x0 x1 x2 x3 er en m y0 y1 y2 y3 o t W' (kO.below hb kO.lt) (ho.below hb) (kV.below hb kV.lt) hr (he t ht)))
 obtain ⟨R, hR⟩ : ∃ R, R = tkbM (ts.map ActT.a) er en o.a := ⟨_, rfl⟩
 have hR2 : (ts.map ActT.a).any (fun d => tbackM o.a d && !laterM d er en) = R := hR.symm
 rw [hR2] at PU
 rw [← hR]
 have HTS := Lib.hid hts
 have HO := Lib.hid ho
 clear hts ho he hR hR2
 obtain ⟨⟨r, nn, dep, actor, kind, dst, bucket, mask, gr, gn, ups⟩, vd, vs⟩ := o
 have hsd := ints_len HO.out.1
 have hsu := ups_len HO.out.2
 simp only at hsd hsu
 obtain ⟨da, dc, rfl⟩ := hsd
 obtain ⟨ua, uc, rfl⟩ := hsu
 try simp only [ActT.val] at PU ⊢
 obtain ⟨dl, hdl⟩ : ∃ x, x = dep.length := ⟨_, rfl⟩
 obtain ⟨ul, hul⟩ : ∃ x, x = ups.length := ⟨_, rfl⟩
 try rw [← hdl] at HO
 try rw [← hul] at HO
 try rw [← hdl] at PU
 try rw [← hul] at PU
 try rw [← hdl]
 try rw [← hul]
 have HDL := Lib.hid hdl
 clear hdl hul
 simp only [ActT.cells] at PU
 try rw [← HDL.out] at PU
 have BW := Lib.hid (Below.refl w.heap.size w)
 go_enter Tryz.func180, Tryz.ntmps180
 have kV := (Blk.new w #[.slice va vl vc, .map (some mb), .int .i64 q, .int .i64 x0, .int .i64 x1, .int .i64 x2, .int .i64 x3, .int .i64 er, .int .i64 en, .int .i64 m, .int .i64 y0, .int .i64 y1, .int .i64 y2, .int .i64 y3] 133).alloc (.cells #[.int .i64 r, .int .i64 nn, .slice da dl dc, .int .i64 actor, .int .i64 kind, .int .i64 dst, .int .i64 bucket, .int .i64 mask, .int .i64 gr, .int .i64 gn, .slice ua ul uc] 32)
 have kO := Blk.new (w.alloc (.cells #[.slice va vl vc, .map (some mb), .int .i64 q, .int .i64 x0, .int .i64 x1, .int .i64 x2, .int .i64 x3, .int .i64 er, .int .i64 en, .int .i64 m, .int .i64 y0, .int .i64 y1, .int .i64 y2, .int .i64 y3] 133)) #[.int .i64 r, .int .i64 nn, .slice da dl dc, .int .i64 actor, .int .i64 kind, .int .i64 dst, .int .i64 bucket, .int .i64 mask, .int .i64 gr, .int .i64 gn, .slice ua ul uc] 32
 simp only [World.size_alloc] at kO
 have ba := ((Below.refl w.heap.size w).alloc (Nat.le_refl _) (.cells #[.slice va vl vc, .map (some mb), .int .i64 q, .int .i64 x0, .int .i64 x1, .int .i64 x2, .int .i64 x3, .int .i64 er, .int .i64 en, .int .i64 m, .int .i64 y0, .int .i64 y1, .int .i64 y2, .int .i64 y3] 133)).alloc (by simp [World.size_alloc]; try omega) (.cells #[.int .i64 r, .int .i64 nn, .slice da dl dc, .int .i64 actor, .int .i64 kind, .int .i64 dst, .int .i64 bucket, .int .i64 mask, .int .i64 gr, .int .i64 gn, .slice ua ul uc] 32)
 obtain ⟨pV, hpV⟩ : ∃ p, p = w.heap.size := ⟨_, rfl⟩
 obtain ⟨pO, hpO⟩ : ∃ p, p = w.heap.size + 1 := ⟨_, rfl⟩
 go_upto_region 1 with (fail)
 rw [← hpO] at kO
 try rw [← hpO]
 rw [← hpV] at kV
 try rw [← hpV]
 obtain ⟨w1, hW⟩ : ∃ W, W = (w.alloc (.cells #[.slice va vl vc, .map (some mb), .int .i64 q, .int .i64 x0, .int .i64 x1, .int .i64 x2, .int .i64 x3, .int .i64 er, .int .i64 en, .int .i64 m, .int .i64 y0, .int .i64 y1, .int .i64 y2, .int .i64 y3] 133)).alloc (.cells #[.int .i64 r, .int .i64 nn, .slice da dl dc, .int .i64 actor, .int .i64 kind, .int .i64 dst, .int .i64 bucket, .int .i64 mask, .int .i64 gr, .int .i64 gn, .slice ua ul uc] 32) := ⟨_, rfl⟩
 rw [← hW] at ba kV kO ⊢
 have KV := Lib.hid kV
 have GV := Lib.hid (show w.heap.size ≤ pV by omega)
 have KO := Lib.hid kO
 have GO := Lib.hid (show w.heap.size ≤ pO by omega)
 have NEV_O := Lib.hid (show pV ≠ pO by omega)
 replace BW := Lib.hid (BW.out.trans ((ba).mono BW.out.size))
 replace HTS := Lib.hid (HTS.out.below (ba))
 replace HO := Lib.hid (HO.out.below (ba))
 clear ba hW kV hpV kO hpO
 have kv0 := KV.out.cell 0
 have kv1 := KV.out.cell 1
 have kv2 := KV.out.cell 2
 have kv3 := KV.out.cell 3
 have kv4 := KV.out.cell 4
 have kv5 := KV.out.cell 5
 have kv6 := KV.out.cell 6
 have kv7 := KV.out.cell 7
 have kv8 := KV.out.cell 8
 have kv9 := KV.out.cell 9
 have kv10 := KV.out.cell 10
 have kv11 := KV.out.cell 11
 have kv12 := KV.out.cell 12
 have kv13 := KV.out.cell 13
 simp only [List.getElem?_cons_zero, List.getElem?_cons_succ] at kv0 kv1 kv2 kv3 kv4 kv5 kv6 kv7 kv8 kv9 kv10 kv11 kv12 kv13
 go_wp2_with fail
 refine (PU.out _ _ _ HTS.out KO.out KV.out HO.out).mono ?_
 rintro e w2 ⟨rfl, b⟩
 clear kv0 kv1 kv2 kv3 kv4 kv5 kv6 kv7 kv8 kv9 kv10 kv11 kv12 kv13
 replace BW := Lib.hid (BW.out.trans ((b).mono BW.out.size))
 replace HTS := Lib.hid (HTS.out.below (b))
 replace HO := Lib.hid (HO.out.below (b))
 replace KV := Lib.hid (KV.out.below (b) KV.out.lt)
 replace KO := Lib.hid (KO.out.below (b) KO.out.lt)
 clear b
 go_wp2_with fail
 go_ret
 exact ⟨rfl, BW.out⟩
end Go.Proofs.YtghgiefciijoeaaGreatDoor
