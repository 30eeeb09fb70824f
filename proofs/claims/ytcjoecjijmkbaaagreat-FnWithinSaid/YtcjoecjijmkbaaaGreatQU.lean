/- The reference's l4rights, Rights. -/
import Derived.Test.YtcjoecjijmkbaaaGreatQT
import Derived.Test.YtcjoecjijmkbaaaGreatQV
import Derived.Deep.DeepCutAuto

namespace Go.Proofs.YtcjoecjijmkbaaaGreat
open Go.RowKit
set_option linter.unusedVariables false
set_option linter.unusedSimpArgs false
set_option maxRecDepth 100000 in
set_option maxHeartbeats 1600000 in
theorem l4holds_nil (a : Option Addr) (cap : Nat) (er en : Int) (va : Option Addr) (L vc : Nat) (xs : List Int) (w : World) :
  Calls Tryz.prog 32 #[.slice a 0 cap, .agg #[.int .i64 er, .int .i64 en, .slice va L vc]] w (HoldsMade w [] er en xs) := by
 have hmk : ∀ W, (Instr.makeSlice 67 (.int .i64 0) (.int .i64 0)).run Tryz.prog W = .ok (.slice (some ⟨W.heap.size, 0, none⟩) 0 0) (W.alloc (.cells #[] 4)) := by
  intro W
  obtain ⟨i0, hi, hz0, hz1, hz2⟩ := info_parts Tryz.infoBool
  have h := run_make (P := Tryz.prog) W 67 4 i0 (.bool false) Tryz.underlying67 hi hz0 .i64 .i64 0 0 (by omega) (by omega) (by rw [hz2]; omega) (by omega)
  rw [hz1] at h
  simp only [Int.toNat_zero] at h
  rw [madeB] at h
  exact h
 unfold HoldsMade
 have BW := Lib.hid (Below.refl w.heap.size w)
 go_enter Tryz.func32, Tryz.ntmps32
 have kE := Blk.new w #[.int .i64 er, .int .i64 en, .slice va L vc] 26
 have ba := (Below.refl w.heap.size w).alloc (Nat.le_refl _) (.cells #[.int .i64 er, .int .i64 en, .slice va L vc] 26)
 obtain ⟨pE, hpE⟩ : ∃ p, p = w.heap.size := ⟨_, rfl⟩
 go_upto_region 1 with (fail)
 rw [← hpE] at kE
 try rw [← hpE]
 obtain ⟨w1, hW⟩ : ∃ W, W = w.alloc (.cells #[.int .i64 er, .int .i64 en, .slice va L vc] 26) := ⟨_, rfl⟩
 rw [← hW] at ba kE ⊢
 have KE := Lib.hid kE
 have GE := Lib.hid (show w.heap.size ≤ pE by omega)
 replace BW := Lib.hid (BW.out.trans ((ba).mono BW.out.size))
 clear ba hW kE hpE
 have kq := Blk.new w1 #[] 4
 have BA := Lib.hid (BW.out.alloc BW.out.size (.cells #[] 4))
 go_wp2_with fail
 go_loop [6] (fun i => i = .int .i64 0) (fun _ => 0)
 case atStart => exact rfl
 case round =>
  obtain rfl := hrel
  go_wp2
  go_ret
  exact ⟨_, rfl, kq, BA.out⟩
set_option maxRecDepth 100000 in
set_option maxHeartbeats 6400000 in
theorem l4rights_some (b off len cap Q : Nat) (ac bk er en : Int) (va : Option Addr) (L vc : Nat) (xs : List Int) (l : List ActM) (ts : List ActT) (w : World) (hll : l = ts.map ActT.a) (h1 : ts.length = len) (hl : len ≤ 60) (hb : b < w.heap.size) (hc : ∀ i, i < len → ActAt w b (off + i * 11) (ts.getD i t0))
  (hts : ActsT w (.slice (some ⟨b, off, none⟩) len cap) ts) (hQ : Blk w Q ((holdL l er en xs len).map Value.bool)) (hv : Ints w (.slice va L vc) xs) (hy : ∀ t ∈ ts, 0 ≤ t.a.r ∧ t.a.r < xs.length) (he : ∀ t ∈ ts, er < t.a.dep.length) :
  Calls Tryz.prog 38 #[.slice (some ⟨b, off, none⟩) len cap, .slice (some ⟨Q, 0, none⟩) len len, .int .i64 ac, .int .i64 bk, .agg #[.int .i64 er, .int .i64 en, .slice va L vc]] w fun e w' =>
   e = .returned (.int .i64 (if ac = 0 then 15 else bits .and .i64 (grantF l er en xs ac bk 0 l 0) (ceilM l bk er en xs))) ∧ Below w.heap.size w w' := by
 have CE := Lib.hid (fun W (hW : Below w.heap.size w W) => (show Calls Tryz.prog 40 #[.slice (some ⟨b, off, none⟩) len cap, .int .i64 bk, .agg #[.int .i64 er, .int .i64 en, .slice va L vc]] W fun e w' => e = .returned (.int .i64 (ceilM l bk er en xs)) ∧ Below W.heap.size W w' by
  rw [hll]
  exact l4ceil_any _ ts er en bk va L vc xs W (hts.below hW) (hv.below (B := 0) hW) hy he))
 obtain ⟨GF, hGF⟩ : ∃ x, x = grantF l er en xs ac bk 0 l 0 := ⟨_, rfl⟩
 have HR : Hid (GF = grantF l er en xs ac bk 0 ((ts.map ActT.a).drop 0) 0) := by
  show _ = _
  rw [hGF, List.drop_zero, ← hll]
 rw [← hGF]
 generalize ceilM l bk er en xs = CM at *
 obtain ⟨RES, hRES⟩ : ∃ x, x = (if ac = 0 then (15 : Int) else bits .and .i64 GF CM) := ⟨_, rfl⟩
 rw [← hRES]
 have HRS := Lib.hid hRES
 have HLN := Lib.hid (holdL_length l er en xs len)
 have HGD := Lib.hid (fun (kk : Nat) (hk : kk < len) => (show (holdL l er en xs len).getD kk false = holdK l er en xs kk from holdL_getD l er en xs kk len hk))
 have N1 := Lib.hid h1
 have HC := Lib.hid hc
 have b00 := Lib.hid hb
 have KQ0 := Lib.hid hQ
 clear hll hGF hRES h1 hc hts hQ hv hy he hb
 have BW := Lib.hid (Below.refl w.heap.size w)
 by_cases h0 : ac = 0
 ·have e0 : (ac == 0) = true := by simp [h0]
  have HR2 := Lib.hid (show RES = 15 by rw [HRS.out]; simp [h0])
  clear h0
  go_enter Tryz.func38, Tryz.ntmps38
  have kE := Blk.new w #[.int .i64 er, .int .i64 en, .slice va L vc] 26
  have ba := (Below.refl w.heap.size w).alloc (Nat.le_refl _) (.cells #[.int .i64 er, .int .i64 en, .slice va L vc] 26)
  obtain ⟨pE, hpE⟩ : ∃ p, p = w.heap.size := ⟨_, rfl⟩
  go_upto_region 1 with (fail)
  rw [← hpE] at kE
  try rw [← hpE]
  obtain ⟨w1, hW⟩ : ∃ W, W = w.alloc (.cells #[.int .i64 er, .int .i64 en, .slice va L vc] 26) := ⟨_, rfl⟩
  rw [← hW] at ba kE ⊢
  have KE := Lib.hid kE
  have GE := Lib.hid (show w.heap.size ≤ pE by omega)
  replace BW := Lib.hid (BW.out.trans ((ba).mono BW.out.size))
  clear ba hW kE hpE
  go_wp2_with fail
  go_ret
  exact ⟨ret_int HR2.out.symm, BW.out⟩
 have e0 : (ac == 0) = false := by simp [h0]
 have HR2 := Lib.hid (show RES = bits .and .i64 GF CM by rw [HRS.out]; simp [h0])
 clear h0
 go_enter Tryz.func38, Tryz.ntmps38
 have kE := Blk.new w #[.int .i64 er, .int .i64 en, .slice va L vc] 26
 have ba := (Below.refl w.heap.size w).alloc (Nat.le_refl _) (.cells #[.int .i64 er, .int .i64 en, .slice va L vc] 26)
 obtain ⟨pE, hpE⟩ : ∃ p, p = w.heap.size := ⟨_, rfl⟩
 go_upto_region 1 with (fail)
 rw [← hpE] at kE
 try rw [← hpE]
 obtain ⟨w1, hW⟩ : ∃ W, W = w.alloc (.cells #[.int .i64 er, .int .i64 en, .slice va L vc] 26) := ⟨_, rfl⟩
 rw [← hW] at ba kE ⊢
 have KE := Lib.hid kE
 have GE := Lib.hid (show w.heap.size ≤ pE by omega)
 replace BW := Lib.hid (BW.out.trans ((ba).mono BW.out.size))
 clear ba hW kE hpE
 go_wp2_with fail
 go_loopw [11, 12] (fun m' i wr => ∃ (k : Nat) (mm : Int), k ≤ len ∧ m' = .int .i64 mm ∧ i = .int .i64 k ∧ Hid (GF = grantF l er en xs ac bk k ((ts.map ActT.a).drop k) mm) ∧ Hid (Blk wr pE [.int .i64 er, .int .i64 en, .slice va L vc]) ∧ Hid (Below w.heap.size w wr)) (fun _ i _ => len - (intOf i).toNat)
 case atStart => exact ⟨0, 0, Nat.zero_le _, rfl, rfl, HR.out, KE.out, BW.out⟩
 case round =>
  obtain ⟨k, mm, hk, rfl, rfl, hg, hke, hbel⟩ := hrel
  clear BW KE HR
  have BW := hbel
  have KE := hke
  clear hbel hke
  by_cases hlt : k < len
  ·have hlt2 : k < ts.length := by rw [N1.out]; exact hlt
   have AT := (HC.out k hlt).below BW.out b00.out
   have kq := KQ0.out.below BW.out KQ0.out.lt
   have cq := cell_bool kq (i := k) (by rw [HLN.out]; exact hlt)
   rw [HGD.out k hlt] at cq
   have hst := hg.out
   rw [drop_ts hlt2, grantF] at hst
   obtain ⟨U, hU⟩ : ∃ U, U = holdK l er en xs k := ⟨_, rfl⟩
   rw [← hU] at cq hst
   obtain ⟨t, htt⟩ : ∃ t, t = ts.getD k t0 := ⟨_, rfl⟩
   rw [← htt] at AT hst
   have c5 := AT.c5
   have c6 := AT.c6
   have c7 := AT.c7
   generalize t.a.to = T at *
   generalize t.a.bucket = TB at *
   generalize t.a.mask = TM at *
   have HST := Lib.hid hst
   clear hst htt AT kq hU hg
   have i0 : (0 : Int) ≤ (k : Int) := by omega
   have i1 : (k : Int) < (len : Int) := by omega
   cases U
   ·have HSS := Lib.hid (show GF = grantF l er en xs ac bk (k + 1) ((ts.map ActT.a).drop (k + 1)) mm by rw [HST.out]; simp)
    go_wp2_with fail
    go_roundw
    case rel => exact ⟨k + 1, _, by omega, rfl, by go_num, HSS.out, KE.out, BW.out⟩
    case measure => simp [intOf]; omega
   by_cases g1 : T = ac
   rotate_left
   ·have e1 : (T == ac) = false := by simp [g1]
    have Q1 := Lib.hid g1
    clear g1
    have HSS := Lib.hid (show GF = grantF l er en xs ac bk (k + 1) ((ts.map ActT.a).drop (k + 1)) mm by rw [HST.out]; simp [Q1.out])
    go_wp2_with fail
    go_roundw
    case rel => exact ⟨k + 1, _, by omega, rfl, by go_num, HSS.out, KE.out, BW.out⟩
    case measure => simp [intOf]; omega
   have e1 : (T == ac) = true := by simp [g1]
   have Q1 := Lib.hid g1
   clear g1
   by_cases g2 : TB = bk
   rotate_left
   ·have e2 : (TB == bk) = false := by simp [g2]
    have Q2 := Lib.hid g2
    clear g2
    have HSS := Lib.hid (show GF = grantF l er en xs ac bk (k + 1) ((ts.map ActT.a).drop (k + 1)) mm by rw [HST.out]; simp [Q2.out])
    go_wp2_with fail
    go_roundw
    case rel => exact ⟨k + 1, _, by omega, rfl, by go_num, HSS.out, KE.out, BW.out⟩
    case measure => simp [intOf]; omega
   have e2 : (TB == bk) = true := by simp [g2]
   have Q2 := Lib.hid g2
   clear g2
   have HSS := Lib.hid (show GF = grantF l er en xs ac bk (k + 1) ((ts.map ActT.a).drop (k + 1)) (bits .or .i64 mm TM) by rw [HST.out]; simp [Q1.out, Q2.out])
   go_wp2_with fail
   go_roundw
   case rel => exact ⟨k + 1, _, by omega, rfl, by go_num, HSS.out, KE.out, BW.out⟩
   case measure => simp [intOf]; omega
  ·have HSS := Lib.hid (show GF = mm by rw [hg.out, drop_end (by rw [List.length_map, N1.out]; omega)]; rfl)
   have ke0 := KE.out.cell 0
   have ke1 := KE.out.cell 1
   have ke2 := KE.out.cell 2
   simp only [List.getElem?_cons_zero, List.getElem?_cons_succ] at ke0 ke1 ke2
   go_wp2_with fail
   refine (CE.out _ BW.out).mono ?_
   rintro e w5 ⟨rfl, b⟩
   clear ke0 ke1 ke2
   replace BW := Lib.hid (BW.out.trans ((b).mono BW.out.size))
   replace KE := Lib.hid (KE.out.below (b) KE.out.lt)
   clear b
   have HR3 := Lib.hid (show RES = bits .and .i64 mm CM by rw [HR2.out, HSS.out])
   go_wp2_with fail
   go_ret
   exact ⟨ret_int HR3.out.symm, BW.out⟩
set_option maxRecDepth 100000 in
set_option maxHeartbeats 3200000 in
theorem l4rights_nil (a : Option Addr) (cap Q : Nat) (ac bk er en : Int) (va : Option Addr) (L vc : Nat) (xs : List Int) (w : World) (hv : Ints w (.slice va L vc) xs) :
  Calls Tryz.prog 38 #[.slice a 0 cap, .slice (some ⟨Q, 0, none⟩) 0 0, .int .i64 ac, .int .i64 bk, .agg #[.int .i64 er, .int .i64 en, .slice va L vc]] w fun e w' =>
   e = .returned (.int .i64 (if ac = 0 then 15 else bits .and .i64 0 (ceilM [] bk er en xs))) ∧ Below w.heap.size w w' := by
 have CE := Lib.hid (fun W (hW : Below w.heap.size w W) => (show Calls Tryz.prog 40 #[.slice a 0 cap, .int .i64 bk, .agg #[.int .i64 er, .int .i64 en, .slice va L vc]] W fun e w' => e = .returned (.int .i64 (ceilM [] bk er en xs)) ∧ Below W.heap.size W w' from
  l4ceil_any _ [] er en bk va L vc xs W ⟨(fun t ht => by cases ht), .inl ⟨a, cap, rfl, rfl⟩⟩ (hv.below (B := 0) hW) (fun t ht => by cases ht) (fun t ht => by cases ht)))
 generalize ceilM [] bk er en xs = CM at *
 obtain ⟨RES, hRES⟩ : ∃ x, x = (if ac = 0 then (15 : Int) else bits .and .i64 0 CM) := ⟨_, rfl⟩
 rw [← hRES]
 have HRS := Lib.hid hRES
 clear hRES hv
 have BW := Lib.hid (Below.refl w.heap.size w)
 by_cases h0 : ac = 0
 ·have e0 : (ac == 0) = true := by simp [h0]
  have HR2 := Lib.hid (show RES = 15 by rw [HRS.out]; simp [h0])
  clear h0
  go_enter Tryz.func38, Tryz.ntmps38
  have kE := Blk.new w #[.int .i64 er, .int .i64 en, .slice va L vc] 26
  have ba := (Below.refl w.heap.size w).alloc (Nat.le_refl _) (.cells #[.int .i64 er, .int .i64 en, .slice va L vc] 26)
  obtain ⟨pE, hpE⟩ : ∃ p, p = w.heap.size := ⟨_, rfl⟩
  go_upto_region 1 with (fail)
  rw [← hpE] at kE
  try rw [← hpE]
  obtain ⟨w1, hW⟩ : ∃ W, W = w.alloc (.cells #[.int .i64 er, .int .i64 en, .slice va L vc] 26) := ⟨_, rfl⟩
  rw [← hW] at ba kE ⊢
  have KE := Lib.hid kE
  have GE := Lib.hid (show w.heap.size ≤ pE by omega)
  replace BW := Lib.hid (BW.out.trans ((ba).mono BW.out.size))
  clear ba hW kE hpE
  go_wp2_with fail
  go_ret
  exact ⟨ret_int HR2.out.symm, BW.out⟩
 have e0 : (ac == 0) = false := by simp [h0]
 have HR2 := Lib.hid (show RES = bits .and .i64 0 CM by rw [HRS.out]; simp [h0])
 clear h0
 go_enter Tryz.func38, Tryz.ntmps38
 have kE := Blk.new w #[.int .i64 er, .int .i64 en, .slice va L vc] 26
 have ba := (Below.refl w.heap.size w).alloc (Nat.le_refl _) (.cells #[.int .i64 er, .int .i64 en, .slice va L vc] 26)
 obtain ⟨pE, hpE⟩ : ∃ p, p = w.heap.size := ⟨_, rfl⟩
 go_upto_region 1 with (fail)
 rw [← hpE] at kE
 try rw [← hpE]
 obtain ⟨w1, hW⟩ : ∃ W, W = w.alloc (.cells #[.int .i64 er, .int .i64 en, .slice va L vc] 26) := ⟨_, rfl⟩
 rw [← hW] at ba kE ⊢
 have KE := Lib.hid kE
 have GE := Lib.hid (show w.heap.size ≤ pE by omega)
 replace BW := Lib.hid (BW.out.trans ((ba).mono BW.out.size))
 clear ba hW kE hpE
 go_wp2_with fail
 go_loop [11, 12] (fun m' i => m' = .int .i64 0 ∧ i = .int .i64 0) (fun _ _ => 0)
 case atStart => exact ⟨rfl, rfl⟩
 case round =>
  obtain ⟨rfl, rfl⟩ := hrel
  have ke0 := KE.out.cell 0
  have ke1 := KE.out.cell 1
  have ke2 := KE.out.cell 2
  simp only [List.getElem?_cons_zero, List.getElem?_cons_succ] at ke0 ke1 ke2
  go_wp2_with fail
  refine (CE.out _ BW.out).mono ?_
  rintro e w5 ⟨rfl, b⟩
  clear ke0 ke1 ke2
  replace BW := Lib.hid (BW.out.trans ((b).mono BW.out.size))
  replace KE := Lib.hid (KE.out.below (b) KE.out.lt)
  clear b
  go_wp2_with fail
  go_ret
  exact ⟨ret_int HR2.out.symm, BW.out⟩
theorem l4rights_good {a : Option Addr} {cap Q : Nat} {l : List ActM} {n er : Int} {xs : List Int} {va : Option Addr} {L vc : Nat} (en ac bk : Int) (w : World) (h : Acts w (.slice a l.length cap) l) (hg : goodM l n er xs = true) (hv : Ints w (.slice va L vc) xs) (hQ : Blk w Q ((holdL l er en xs l.length).map Value.bool)) :
  Calls Tryz.prog 38 #[.slice a l.length cap, .slice (some ⟨Q, 0, none⟩) l.length l.length, .int .i64 ac, .int .i64 bk, .agg #[.int .i64 er, .int .i64 en, .slice va L vc]] w fun e w' =>
   e = .returned (.int .i64 (if ac = 0 then 15 else bits .and .i64 (grantF l er en xs ac bk 0 l 0) (ceilM l bk er en xs))) ∧ Below w.heap.size w w' := by
 obtain ⟨ts, rfl, ht⟩ := h
 have h60 : ts.length ≤ 60 := by have := (setOk_all (cutB_set (good_parts hg).1).1).2.2.1; simpa using this
 rw [List.length_map] at ht hQ ⊢
 by_cases h0 : 0 < ts.length
 ·obtain ⟨hu, b, off, ha, hb, hc⟩ := actsT_at ht h0
  subst ha
  exact l4rights_some b off ts.length cap Q ac bk er en va L vc xs (ts.map ActT.a) ts w rfl rfl h60 hb hc ht hQ hv (fun t hm => (good_acts hg t.a (List.mem_map_of_mem hm)).1) (fun t hm => (good_acts hg t.a (List.mem_map_of_mem hm)).2)
 ·obtain rfl : ts = [] := List.eq_nil_of_length_eq_zero (by omega)
  exact l4rights_nil a cap Q ac bk er en va L vc xs w hv
theorem l4holds_good {a : Option Addr} {cap : Nat} {l : List ActM} {n er : Int} {xs : List Int} {va : Option Addr} {L vc : Nat} (en : Int) (w : World) (h : Acts w (.slice a l.length cap) l) (hg : goodM l n er xs = true) (hv : Ints w (.slice va L vc) xs) :
  Calls Tryz.prog 32 #[.slice a l.length cap, .agg #[.int .i64 er, .int .i64 en, .slice va L vc]] w (HoldsMade w l er en xs) := by
 obtain ⟨ts, rfl, ht⟩ := h
 have h60 : ts.length ≤ 60 := by have := (setOk_all (cutB_set (good_parts hg).1).1).2.2.1; simpa using this
 rw [List.length_map] at ht ⊢
 by_cases h0 : 0 < ts.length
 ·obtain ⟨hu, b, off, ha, hb, hc⟩ := actsT_at ht h0
  subst ha
  exact l4holds_some b off ts.length cap er en va L vc xs (ts.map ActT.a) ts w rfl rfl h60 hb ht.1 hc hv (fun t hm => (good_acts hg t.a (List.mem_map_of_mem hm)).1) (fun t hm => (good_acts hg t.a (List.mem_map_of_mem hm)).2)
 ·obtain rfl : ts = [] := List.eq_nil_of_length_eq_zero (by omega)
  exact l4holds_nil a cap er en va L vc xs w
set_option maxRecDepth 100000 in
set_option maxHeartbeats 6400000 in
theorem specRights_any (v vv : Value) (l : List ActM) (xs : List Int) (n ac bk er en : Int) (w : World) (h : Acts w v l) (hv : Ints w vv xs) (hn : I64 n) :
  Calls Tryz.prog 14 #[v, .int .i64 n, .int .i64 ac, .int .i64 bk, .agg #[.int .i64 er, .int .i64 en, vv]] w fun e w' => e = .returned (.int .i64 (rightsM l n ac bk er en xs)) ∧ Below w.heap.size w w' := by
 obtain ⟨a, cap, rfl⟩ := acts_len h
 obtain ⟨va, vc, rfl⟩ := ints_len hv
 have GO := Lib.hid (fun W (hW : Below w.heap.size w W) => l4good_any _ _ l xs n er en W (h.below hW) (hv.below (B := 0) hW) hn)
 have HO := Lib.hid (fun (hg : goodM l n er xs = true) W (hW : Below w.heap.size w W) => l4holds_good en W (h.below hW) hg (hv.below (B := 0) hW))
 have RI := Lib.hid (fun (hg : goodM l n er xs = true) Q W (hW : Below w.heap.size w W) (hQ : Blk W Q ((holdL l er en xs l.length).map Value.bool)) => l4rights_good en ac bk W (h.below hW) hg (hv.below (B := 0) hW) hQ)
 have HR : Hid (rightsM l n ac bk er en xs = if goodM l n er xs = true then (if (inB ac 0 5 && inB bk 0 2) = true then (if ac = 0 then 15 else bits .and .i64 (grantF l er en xs ac bk 0 l 0) (ceilM l bk er en xs)) else 0) else 0) := rfl
 unfold HoldsMade at HO
 clear h hv
 generalize (if ac = 0 then (15 : Int) else bits .and .i64 (grantF l er en xs ac bk 0 l 0) (ceilM l bk er en xs)) = CM at *
 generalize rightsM l n ac bk er en xs = RES at *
 generalize goodM l n er xs = GOOD at *
 obtain ⟨HL, hHL⟩ : ∃ x, x = holdL l er en xs l.length := ⟨_, rfl⟩
 rw [← hHL] at HO RI
 clear hHL
 generalize l.length = K at *
 generalize xs.length = L at *
 have BW := Lib.hid (Below.refl w.heap.size w)
 go_enter Tryz.func14, Tryz.ntmps14
 have kE := Blk.new w #[.int .i64 er, .int .i64 en, .slice va L vc] 26
 have ba := (Below.refl w.heap.size w).alloc (Nat.le_refl _) (.cells #[.int .i64 er, .int .i64 en, .slice va L vc] 26)
 obtain ⟨pE, hpE⟩ : ∃ p, p = w.heap.size := ⟨_, rfl⟩
 go_upto_region 1 with (fail)
 rw [← hpE] at kE
 try rw [← hpE]
 obtain ⟨w1, hW⟩ : ∃ W, W = w.alloc (.cells #[.int .i64 er, .int .i64 en, .slice va L vc] 26) := ⟨_, rfl⟩
 rw [← hW] at ba kE ⊢
 have KE := Lib.hid kE
 have GE := Lib.hid (show w.heap.size ≤ pE by omega)
 replace BW := Lib.hid (BW.out.trans ((ba).mono BW.out.size))
 clear ba hW kE hpE
 have ke0 := KE.out.cell 0
 have ke1 := KE.out.cell 1
 have ke2 := KE.out.cell 2
 simp only [List.getElem?_cons_zero, List.getElem?_cons_succ] at ke0 ke1 ke2
 go_wp2_with fail
 refine (GO.out _ BW.out).mono ?_
 rintro e w2 ⟨rfl, b⟩
 clear ke0 ke1 ke2
 replace BW := Lib.hid (BW.out.trans ((b).mono BW.out.size))
 replace KE := Lib.hid (KE.out.below (b) KE.out.lt)
 clear b
 cases GOOD
 ·go_wp2_with fail
  go_ret
  exact ⟨ret_int (by rw [HR.out]; rfl), BW.out⟩
 by_cases g : 0 ≤ ac
 rotate_left
 ·have e1 : decide (ac < 0) = true := by simp; omega
  have HRF := Lib.hid (show RES = 0 by rw [HR.out]; simp [inB]; omega)
  clear g
  go_wp2_with fail
  go_ret
  exact ⟨ret_int HRF.out.symm, BW.out⟩
 have e1 : decide (ac < 0) = false := by simp; omega
 have G1 := Lib.hid g
 have g1 := g
 clear g
 by_cases g : ac ≤ 5
 rotate_left
 ·have e2 : decide (ac ≥ 6) = true := by simp; omega
  have e2' : decide (6 ≤ ac) = true := by simp; omega
  have HRF := Lib.hid (show RES = 0 by rw [HR.out]; simp [inB]; omega)
  clear g
  go_wp2_with fail
  go_ret
  exact ⟨ret_int HRF.out.symm, BW.out⟩
 have e2 : decide (ac ≥ 6) = false := by simp; omega
 have e2' : decide (6 ≤ ac) = false := by simp; omega
 have g2 := g
 clear g
 by_cases g : 0 ≤ bk
 rotate_left
 ·have e3 : decide (bk < 0) = true := by simp; omega
  have HRF := Lib.hid (show RES = 0 by rw [HR.out]; simp [inB]; omega)
  clear g
  go_wp2_with fail
  go_ret
  exact ⟨ret_int HRF.out.symm, BW.out⟩
 have e3 : decide (bk < 0) = false := by simp; omega
 have g3 := g
 clear g
 by_cases g : bk ≤ 2
 rotate_left
 ·have e4 : decide (bk ≥ 3) = true := by simp; omega
  have e4' : decide (3 ≤ bk) = true := by simp; omega
  have HRF := Lib.hid (show RES = 0 by rw [HR.out]; simp [inB]; omega)
  clear g
  go_wp2_with fail
  go_ret
  exact ⟨ret_int HRF.out.symm, BW.out⟩
 have e4 : decide (bk ≥ 3) = false := by simp; omega
 have e4' : decide (3 ≤ bk) = false := by simp; omega
 have HR2 := Lib.hid (show RES = CM by rw [HR.out]; simp [inB, g1, g2, g3, g])
 clear g g1 g2 g3
 go_upto_region 3 with (fail)
 refine wp_region_held_drew (S := fun w' => Below w2.heap.size w2 w') (by kernel_rfl) ((Below.refl w2.heap.size w2).drew) (fun hHeld => ?_)
 refine held_take (i := 0) (d := some 32) (v := ?_) rfl (by kernel_rfl) (by kernel_rfl) (by kernel_rfl) (by kernel_rfl) (fun _ _ _ h => h) (by kernel_rfl) ?_ hHeld ?_
 rotate_left
 ·intro w' hSw
  go_simp
  first | done | with_reducible rfl
 simp only [Act.put, List.setIfInBounds_toArray, List.set_cons_zero, List.set_cons_succ]
 refine held_take (i := 1) (d := some 33) (v := ?_) rfl (by kernel_rfl) (by kernel_rfl) (by kernel_rfl) (by kernel_rfl) (fun _ _ _ h => h) (by kernel_rfl) ?_ hHeld ?_
 rotate_left
 ·intro w' hSw
  go_simp
  first | done | with_reducible rfl
 simp only [Act.put, List.setIfInBounds_toArray, List.set_cons_zero, List.set_cons_succ]
 refine held_take (i := 2) (d := some 34) (v := ?_) rfl (by kernel_rfl) (by kernel_rfl) (by kernel_rfl) (by kernel_rfl) (fun _ _ _ h => h) (by kernel_rfl) ?_ hHeld ?_
 rotate_left
 ·intro w' hSw
  have gE := KE.out.below hSw KE.out.lt
  have va0 := gE.cell 0
  have va1 := gE.cell 1
  have va2 := gE.cell 2
  simp only [List.getElem?_cons_zero, List.getElem?_cons_succ] at va0 va1 va2
  go_simp
  first | done | with_reducible rfl
 simp only [Act.put, List.setIfInBounds_toArray, List.set_cons_zero, List.set_cons_succ]
 refine held_take (i := 4) (d := some 36) (v := ?_) rfl (by kernel_rfl) (by kernel_rfl) (by kernel_rfl) (by kernel_rfl) (fun _ _ _ h => h) (by kernel_rfl) ?_ hHeld ?_
 rotate_left
 ·intro w' hSw
  go_simp
  first | done | with_reducible rfl
 simp only [Act.put, List.setIfInBounds_toArray, List.set_cons_zero, List.set_cons_succ]
 refine held_take (i := 5) (d := some 37) (v := ?_) rfl (by kernel_rfl) (by kernel_rfl) (by kernel_rfl) (by kernel_rfl) (fun _ _ _ h => h) (by kernel_rfl) ?_ hHeld ?_
 rotate_left
 ·intro w' hSw
  go_simp
  first | done | with_reducible rfl
 simp only [Act.put, List.setIfInBounds_toArray, List.set_cons_zero, List.set_cons_succ]
 refine held_take (i := 6) (d := some 38) (v := ?_) rfl (by kernel_rfl) (by kernel_rfl) (by kernel_rfl) (by kernel_rfl) (fun _ _ _ h => h) (by kernel_rfl) ?_ hHeld ?_
 rotate_left
 ·intro w' hSw
  have gE := KE.out.below hSw KE.out.lt
  have va0 := gE.cell 0
  have va1 := gE.cell 1
  have va2 := gE.cell 2
  simp only [List.getElem?_cons_zero, List.getElem?_cons_succ] at va0 va1 va2
  go_simp
  first | done | with_reducible rfl
 simp only [Act.put, List.setIfInBounds_toArray, List.set_cons_zero, List.set_cons_succ]
 refine wpAnyH_ready (rs := [3]) (by kernel_rfl) (by simp) ?_
 refine AllReadyH.cons rfl (fun K hK => ?_) AllReadyH.nil
 go_simp
 refine (HO.out (by simp) _ (BW.out.trans (hHeld.mono BW.out.size))).mono ?_
 rintro e w5 ⟨Q, rfl, kq, b5⟩
 have D5 := hHeld.trans (b5.mono hHeld.size)
 have KQ := Lib.hid kq
 clear kq
 go_simp
 refine hK.out _ _ (D5) (fun hHeld => ?_)
 clear hK K
 try simp only [Act.put, List.setIfInBounds_toArray, List.set_cons_zero, List.set_cons_succ]
 refine wpAnyH_ready (rs := [7]) (by kernel_rfl) (by simp) ?_
 refine AllReadyH.cons rfl (fun K hK => ?_) AllReadyH.nil
 go_simp
 refine (RI.out (by simp) Q _ (BW.out.trans (hHeld.mono BW.out.size)) KQ.out).mono ?_
 rintro e w6 ⟨rfl, b6⟩
 have D6 := hHeld.trans (b6.mono hHeld.size)
 go_simp
 refine hK.out _ _ (D6) (fun hHeld => ?_)
 clear hK K
 try simp only [Act.put, List.setIfInBounds_toArray, List.set_cons_zero, List.set_cons_succ]
 refine held_take (i := 8) (d := some 10) (v := ?_) rfl (by kernel_rfl) (by kernel_rfl) (by kernel_rfl) (by kernel_rfl) (fun _ _ _ h => h) (by kernel_rfl) ?_ hHeld ?_
 rotate_left
 ·intro w' hSw
  go_simp
  first | done | with_reducible rfl
 simp only [Act.put, List.setIfInBounds_toArray, List.set_cons_zero, List.set_cons_succ]
 refine wpAnyH_done (by kernel_rfl) ?_ _
 have BZ := Lib.hid (BW.out.trans (hHeld.mono BW.out.size))
 clear hHeld
 go_wp2_with fail
 go_ret
 exact ⟨ret_int HR2.out.symm, BZ.out⟩
end Go.Proofs.YtcjoecjijmkbaaaGreat
