/- QU, ZD, ZH. -/
import Derived.Test.YtghgiefciijoeaaGreatDoorQT
import Derived.Test.YtghgiefciijoeaaGreatDoorQV
import Derived.Test.YtghgiefciijoeaaGreatDoorZG
import Derived.Test.YtghgiefciijoeaaGreatDoorTG
import Derived.Test.YtghgiefciijoeaaGreatDoorAK
import Derived.Test.YtghgiefciijoeaaGreatDoorNE
import Derived.Test.YtghgiefciijoeaaGreatDoorHF
import Derived.Test.YtghgiefciijoeaaGreatDoorKA
import Derived.Deep.DeepCutAuto

namespace Go.Proofs.YtghgiefciijoeaaGreatDoor
open Go.RowKit
set_option linter.unusedVariables false
set_option linter.unusedSimpArgs false
set_option maxRecDepth 100000 in
set_option maxHeartbeats 1600000 in
theorem l4holds_nil (a : Option Addr) (cap : Nat) (er en : Int) (va : Option Addr) (L vc : Nat) (xs : List Int) (w : World) :
  Calls Tryz.prog 82 #[.slice a 0 cap, .agg #[.int .i64 er, .int .i64 en, .slice va L vc]] w (HoldsMade w [] er en xs) := by
 have hmk : ∀ W, (Instr.makeSlice 36 (.int .i64 0) (.int .i64 0)).run Tryz.prog W = .ok (.slice (some ⟨W.heap.size, 0, none⟩) 0 0) (W.alloc (.cells #[] 4)) := by
  intro W
  obtain ⟨i0, hi, hz0, hz1, hz2⟩ := info_parts Tryz.infoBool
  have h := run_make (P := Tryz.prog) W 36 4 i0 (.bool false) Tryz.underlying36 hi hz0 .i64 .i64 0 0 (by omega) (by omega) (by rw [hz2]; omega) (by omega)
  rw [hz1] at h
  simp only [Int.toNat_zero] at h
  rw [madeB] at h
  exact h
 unfold HoldsMade
 have BW := Lib.hid (Below.refl w.heap.size w)
 go_enter Tryz.func82, Tryz.ntmps82
 have kE := Blk.new w #[.int .i64 er, .int .i64 en, .slice va L vc] 109
 have ba := (Below.refl w.heap.size w).alloc (Nat.le_refl _) (.cells #[.int .i64 er, .int .i64 en, .slice va L vc] 109)
 obtain ⟨pE, hpE⟩ : ∃ p, p = w.heap.size := ⟨_, rfl⟩
 go_upto_region 1 with (fail)
 rw [← hpE] at kE
 try rw [← hpE]
 obtain ⟨w1, hW⟩ : ∃ W, W = w.alloc (.cells #[.int .i64 er, .int .i64 en, .slice va L vc] 109) := ⟨_, rfl⟩
 rw [← hW] at ba kE ⊢
 have KE := Lib.hid kE
 have GE := Lib.hid (show w.heap.size ≤ pE by omega)
 replace BW := Lib.hid (BW.out.trans ((ba).mono BW.out.size))
 clear ba hW kE hpE
 have kq := Blk.new w1 #[] 4
 have BA := Lib.hid (BW.out.alloc BW.out.size (.cells #[] 4))
 go_wp2_with fail
 go_loop [6] (fun i => i = .int .i64 0) (fun _ => 0)
 case atStart => exact rfl
 case round =>
  obtain rfl := hrel
  go_wp2
  go_ret
  exact ⟨_, rfl, kq, BA.out⟩
set_option maxRecDepth 100000 in
set_option maxHeartbeats 6400000 in
theorem l4rights_some (b off len cap Q : Nat) (ac bk er en : Int) (va : Option Addr) (L vc : Nat) (xs : List Int) (l : List ActM) (ts : List ActT) (w : World) (hll : l = ts.map ActT.a) (h1 : ts.length = len) (hl : len ≤ 60) (hb : b < w.heap.size) (hc : ∀ i, i < len → ActAt w b (off + i * 11) (ts.getD i t0))
  (hts : ActsT w (.slice (some ⟨b, off, none⟩) len cap) ts) (hQ : Blk w Q ((holdL l er en xs len).map Value.bool)) (hv : Ints w (.slice va L vc) xs) (hy : ∀ t ∈ ts, 0 ≤ t.a.r ∧ t.a.r < xs.length) (he : ∀ t ∈ ts, er < t.a.dep.length) :
  Calls Tryz.prog 84 #[.slice (some ⟨b, off, none⟩) len cap, .slice (some ⟨Q, 0, none⟩) len len, .int .i64 ac, .int .i64 bk, .agg #[.int .i64 er, .int .i64 en, .slice va L vc]] w fun e w' =>
   e = .returned (.int .i64 (if ac = 0 then 15 else bits .and .i64 (grantF l er en xs ac bk 0 l 0) (ceilM l bk er en xs))) ∧ Below w.heap.size w w' := by
 have CE := Lib.hid (fun W (hW : Below w.heap.size w W) => (show Calls Tryz.prog 109 #[.slice (some ⟨b, off, none⟩) len cap, .int .i64 bk, .agg #[.int .i64 er, .int .i64 en, .slice va L vc]] W fun e w' => e = .returned (.int .i64 (ceilM l bk er en xs)) ∧ Below W.heap.size W w' by
  rw [hll]
  exact l4ceil_any _ ts er en bk va L vc xs W (hts.below hW) (hv.below (B := 0) hW) hy he))
 obtain ⟨GF, hGF⟩ : ∃ x, x = grantF l er en xs ac bk 0 l 0 := ⟨_, rfl⟩
 have HR : Hid (GF = grantF l er en xs ac bk 0 ((ts.map ActT.a).drop 0) 0) := by
  show _ = _
  rw [hGF, List.drop_zero, ← hll]
 rw [← hGF]
 generalize ceilM l bk er en xs = CM at *
 obtain ⟨RES, hRES⟩ : ∃ x, x = (if ac = 0 then (15 : Int) else bits .and .i64 GF CM) := ⟨_, rfl⟩
 rw [← hRES]
 have HRS := Lib.hid hRES
 have HLN := Lib.hid (holdL_length l er en xs len)
 have HGD := Lib.hid (fun (kk : Nat) (hk : kk < len) => (show (holdL l er en xs len).getD kk false = holdK l er en xs kk from holdL_getD l er en xs kk len hk))
 have N1 := Lib.hid h1
 have HC := Lib.hid hc
 have b00 := Lib.hid hb
 have KQ0 := Lib.hid hQ
 clear hll hGF hRES h1 hc hts hQ hv hy he hb
 have BW := Lib.hid (Below.refl w.heap.size w)
 by_cases h0 : ac = 0
 ·have e0 : (ac == 0) = true := by simp [h0]
  have HR2 := Lib.hid (show RES = 15 by rw [HRS.out]; simp [h0])
  clear h0
  go_enter Tryz.func84, Tryz.ntmps84
  have kE := Blk.new w #[.int .i64 er, .int .i64 en, .slice va L vc] 109
  have ba := (Below.refl w.heap.size w).alloc (Nat.le_refl _) (.cells #[.int .i64 er, .int .i64 en, .slice va L vc] 109)
  obtain ⟨pE, hpE⟩ : ∃ p, p = w.heap.size := ⟨_, rfl⟩
  go_upto_region 1 with (fail)
  rw [← hpE] at kE
  try rw [← hpE]
  obtain ⟨w1, hW⟩ : ∃ W, W = w.alloc (.cells #[.int .i64 er, .int .i64 en, .slice va L vc] 109) := ⟨_, rfl⟩
  rw [← hW] at ba kE ⊢
  have KE := Lib.hid kE
  have GE := Lib.hid (show w.heap.size ≤ pE by omega)
  replace BW := Lib.hid (BW.out.trans ((ba).mono BW.out.size))
  clear ba hW kE hpE
  go_wp2_with fail
  go_ret
  exact ⟨ret_int HR2.out.symm, BW.out⟩
 have e0 : (ac == 0) = false := by simp [h0]
 have HR2 := Lib.hid (show RES = bits .and .i64 GF CM by rw [HRS.out]; simp [h0])
 clear h0
 go_enter Tryz.func84, Tryz.ntmps84
 have kE := Blk.new w #[.int .i64 er, .int .i64 en, .slice va L vc] 109
 have ba := (Below.refl w.heap.size w).alloc (Nat.le_refl _) (.cells #[.int .i64 er, .int .i64 en, .slice va L vc] 109)
 obtain ⟨pE, hpE⟩ : ∃ p, p = w.heap.size := ⟨_, rfl⟩
 go_upto_region 1 with (fail)
 rw [← hpE] at kE
 try rw [← hpE]
 obtain ⟨w1, hW⟩ : ∃ W, W = w.alloc (.cells #[.int .i64 er, .int .i64 en, .slice va L vc] 109) := ⟨_, rfl⟩
 rw [← hW] at ba kE ⊢
 have KE := Lib.hid kE
 have GE := Lib.hid (show w.heap.size ≤ pE by omega)
 replace BW := Lib.hid (BW.out.trans ((ba).mono BW.out.size))
 clear ba hW kE hpE
 go_wp2_with fail
 go_loopw [11, 12] (fun m' i wr => ∃ (k : Nat) (mm : Int), k ≤ len ∧ m' = .int .i64 mm ∧ i = .int .i64 k ∧ Hid (GF = grantF l er en xs ac bk k ((ts.map ActT.a).drop k) mm) ∧ Hid (Blk wr pE [.int .i64 er, .int .i64 en, .slice va L vc]) ∧ Hid (Below w.heap.size w wr)) (fun _ i _ => len - (intOf i).toNat)
 case atStart => exact ⟨0, 0, Nat.zero_le _, rfl, rfl, HR.out, KE.out, BW.out⟩
 case round =>
  obtain ⟨k, mm, hk, rfl, rfl, hg, hke, hbel⟩ := hrel
  clear BW KE HR
  have BW := hbel
  have KE := hke
  clear hbel hke
  by_cases hlt : k < len
  ·have hlt2 : k < ts.length := by rw [N1.out]; exact hlt
   have AT := (HC.out k hlt).below BW.out b00.out
   have kq := KQ0.out.below BW.out KQ0.out.lt
   have cq := cell_bool kq (i := k) (by rw [HLN.out]; exact hlt)
   rw [HGD.out k hlt] at cq
   have hst := hg.out
   rw [drop_ts hlt2, grantF] at hst
   obtain ⟨U, hU⟩ : ∃ U, U = holdK l er en xs k := ⟨_, rfl⟩
   rw [← hU] at cq hst
   obtain ⟨t, htt⟩ : ∃ t, t = ts.getD k t0 := ⟨_, rfl⟩
   rw [← htt] at AT hst
   have c5 := AT.c5
   have c6 := AT.c6
   have c7 := AT.c7
   generalize t.a.to = T at *
   generalize t.a.bucket = TB at *
   generalize t.a.mask = TM at *
   have HST := Lib.hid hst
   clear hst htt AT kq hU hg
   have i0 : (0 : Int) ≤ (k : Int) := by omega
   have i1 : (k : Int) < (len : Int) := by omega
   cases U
   ·have HSS := Lib.hid (show GF = grantF l er en xs ac bk (k + 1) ((ts.map ActT.a).drop (k + 1)) mm by rw [HST.out]; simp)
    go_wp2_with fail
    go_roundw
    case rel => exact ⟨k + 1, _, by omega, rfl, by go_num, HSS.out, KE.out, BW.out⟩
    case measure => simp [intOf]; omega
   by_cases g1 : T = ac
   rotate_left
   ·have e1 : (T == ac) = false := by simp [g1]
    have Q1 := Lib.hid g1
    clear g1
    have HSS := Lib.hid (show GF = grantF l er en xs ac bk (k + 1) ((ts.map ActT.a).drop (k + 1)) mm by rw [HST.out]; simp [Q1.out])
    go_wp2_with fail
    go_roundw
    case rel => exact ⟨k + 1, _, by omega, rfl, by go_num, HSS.out, KE.out, BW.out⟩
    case measure => simp [intOf]; omega
   have e1 : (T == ac) = true := by simp [g1]
   have Q1 := Lib.hid g1
   clear g1
   by_cases g2 : TB = bk
   rotate_left
   ·have e2 : (TB == bk) = false := by simp [g2]
    have Q2 := Lib.hid g2
    clear g2
    have HSS := Lib.hid (show GF = grantF l er en xs ac bk (k + 1) ((ts.map ActT.a).drop (k + 1)) mm by rw [HST.out]; simp [Q2.out])
    go_wp2_with fail
    go_roundw
    case rel => exact ⟨k + 1, _, by omega, rfl, by go_num, HSS.out, KE.out, BW.out⟩
    case measure => simp [intOf]; omega
   have e2 : (TB == bk) = true := by simp [g2]
   have Q2 := Lib.hid g2
   clear g2
   have HSS := Lib.hid (show GF = grantF l er en xs ac bk (k + 1) ((ts.map ActT.a).drop (k + 1)) (bits .or .i64 mm TM) by rw [HST.out]; simp [Q1.out, Q2.out])
   go_wp2_with fail
   go_roundw
   case rel => exact ⟨k + 1, _, by omega, rfl, by go_num, HSS.out, KE.out, BW.out⟩
   case measure => simp [intOf]; omega
  ·have HSS := Lib.hid (show GF = mm by rw [hg.out, drop_end (by rw [List.length_map, N1.out]; omega)]; rfl)
   have ke0 := KE.out.cell 0
   have ke1 := KE.out.cell 1
   have ke2 := KE.out.cell 2
   simp only [List.getElem?_cons_zero, List.getElem?_cons_succ] at ke0 ke1 ke2
   go_wp2_with fail
   refine (CE.out _ BW.out).mono ?_
   rintro e w5 ⟨rfl, b⟩
   clear ke0 ke1 ke2
   replace BW := Lib.hid (BW.out.trans ((b).mono BW.out.size))
   replace KE := Lib.hid (KE.out.below (b) KE.out.lt)
   clear b
   have HR3 := Lib.hid (show RES = bits .and .i64 mm CM by rw [HR2.out, HSS.out])
   go_wp2_with fail
   go_ret
   exact ⟨ret_int HR3.out.symm, BW.out⟩
set_option maxRecDepth 100000 in
set_option maxHeartbeats 3200000 in
theorem l4rights_nil (a : Option Addr) (cap Q : Nat) (ac bk er en : Int) (va : Option Addr) (L vc : Nat) (xs : List Int) (w : World) (hv : Ints w (.slice va L vc) xs) :
  Calls Tryz.prog 84 #[.slice a 0 cap, .slice (some ⟨Q, 0, none⟩) 0 0, .int .i64 ac, .int .i64 bk, .agg #[.int .i64 er, .int .i64 en, .slice va L vc]] w fun e w' =>
   e = .returned (.int .i64 (if ac = 0 then 15 else bits .and .i64 0 (ceilM [] bk er en xs))) ∧ Below w.heap.size w w' := by
 have CE := Lib.hid (fun W (hW : Below w.heap.size w W) => (show Calls Tryz.prog 109 #[.slice a 0 cap, .int .i64 bk, .agg #[.int .i64 er, .int .i64 en, .slice va L vc]] W fun e w' => e = .returned (.int .i64 (ceilM [] bk er en xs)) ∧ Below W.heap.size W w' from
  l4ceil_any _ [] er en bk va L vc xs W ⟨(fun t ht => by cases ht), .inl ⟨a, cap, rfl, rfl⟩⟩ (hv.below (B := 0) hW) (fun t ht => by cases ht) (fun t ht => by cases ht)))
 generalize ceilM [] bk er en xs = CM at *
 obtain ⟨RES, hRES⟩ : ∃ x, x = (if ac = 0 then (15 : Int) else bits .and .i64 0 CM) := ⟨_, rfl⟩
 rw [← hRES]
 have HRS := Lib.hid hRES
 clear hRES hv
 have BW := Lib.hid (Below.refl w.heap.size w)
 by_cases h0 : ac = 0
 ·have e0 : (ac == 0) = true := by simp [h0]
  have HR2 := Lib.hid (show RES = 15 by rw [HRS.out]; simp [h0])
  clear h0
  go_enter Tryz.func84, Tryz.ntmps84
  have kE := Blk.new w #[.int .i64 er, .int .i64 en, .slice va L vc] 109
  have ba := (Below.refl w.heap.size w).alloc (Nat.le_refl _) (.cells #[.int .i64 er, .int .i64 en, .slice va L vc] 109)
  obtain ⟨pE, hpE⟩ : ∃ p, p = w.heap.size := ⟨_, rfl⟩
  go_upto_region 1 with (fail)
  rw [← hpE] at kE
  try rw [← hpE]
  obtain ⟨w1, hW⟩ : ∃ W, W = w.alloc (.cells #[.int .i64 er, .int .i64 en, .slice va L vc] 109) := ⟨_, rfl⟩
  rw [← hW] at ba kE ⊢
  have KE := Lib.hid kE
  have GE := Lib.hid (show w.heap.size ≤ pE by omega)
  replace BW := Lib.hid (BW.out.trans ((ba).mono BW.out.size))
  clear ba hW kE hpE
  go_wp2_with fail
  go_ret
  exact ⟨ret_int HR2.out.symm, BW.out⟩
 have e0 : (ac == 0) = false := by simp [h0]
 have HR2 := Lib.hid (show RES = bits .and .i64 0 CM by rw [HRS.out]; simp [h0])
 clear h0
 go_enter Tryz.func84, Tryz.ntmps84
 have kE := Blk.new w #[.int .i64 er, .int .i64 en, .slice va L vc] 109
 have ba := (Below.refl w.heap.size w).alloc (Nat.le_refl _) (.cells #[.int .i64 er, .int .i64 en, .slice va L vc] 109)
 obtain ⟨pE, hpE⟩ : ∃ p, p = w.heap.size := ⟨_, rfl⟩
 go_upto_region 1 with (fail)
 rw [← hpE] at kE
 try rw [← hpE]
 obtain ⟨w1, hW⟩ : ∃ W, W = w.alloc (.cells #[.int .i64 er, .int .i64 en, .slice va L vc] 109) := ⟨_, rfl⟩
 rw [← hW] at ba kE ⊢
 have KE := Lib.hid kE
 have GE := Lib.hid (show w.heap.size ≤ pE by omega)
 replace BW := Lib.hid (BW.out.trans ((ba).mono BW.out.size))
 clear ba hW kE hpE
 go_wp2_with fail
 go_loop [11, 12] (fun m' i => m' = .int .i64 0 ∧ i = .int .i64 0) (fun _ _ => 0)
 case atStart => exact ⟨rfl, rfl⟩
 case round =>
  obtain ⟨rfl, rfl⟩ := hrel
  have ke0 := KE.out.cell 0
  have ke1 := KE.out.cell 1
  have ke2 := KE.out.cell 2
  simp only [List.getElem?_cons_zero, List.getElem?_cons_succ] at ke0 ke1 ke2
  go_wp2_with fail
  refine (CE.out _ BW.out).mono ?_
  rintro e w5 ⟨rfl, b⟩
  clear ke0 ke1 ke2
  replace BW := Lib.hid (BW.out.trans ((b).mono BW.out.size))
  replace KE := Lib.hid (KE.out.below (b) KE.out.lt)
  clear b
  go_wp2_with fail
  go_ret
  exact ⟨ret_int HR2.out.symm, BW.out⟩
theorem l4rights_good {a : Option Addr} {cap Q : Nat} {l : List ActM} {n er : Int} {xs : List Int} {va : Option Addr} {L vc : Nat} (en ac bk : Int) (w : World) (h : Acts w (.slice a l.length cap) l) (hg : goodM l n er xs = true) (hv : Ints w (.slice va L vc) xs) (hQ : Blk w Q ((holdL l er en xs l.length).map Value.bool)) :
  Calls Tryz.prog 84 #[.slice a l.length cap, .slice (some ⟨Q, 0, none⟩) l.length l.length, .int .i64 ac, .int .i64 bk, .agg #[.int .i64 er, .int .i64 en, .slice va L vc]] w fun e w' =>
   e = .returned (.int .i64 (if ac = 0 then 15 else bits .and .i64 (grantF l er en xs ac bk 0 l 0) (ceilM l bk er en xs))) ∧ Below w.heap.size w w' := by
 obtain ⟨ts, rfl, ht⟩ := h
 have h60 : ts.length ≤ 60 := by have := (setOk_all (cutB_set (good_parts hg).1).1).2.2.1; simpa using this
 rw [List.length_map] at ht hQ ⊢
 by_cases h0 : 0 < ts.length
 ·obtain ⟨hu, b, off, ha, hb, hc⟩ := actsT_at ht h0
  subst ha
  exact l4rights_some b off ts.length cap Q ac bk er en va L vc xs (ts.map ActT.a) ts w rfl rfl h60 hb hc ht hQ hv (fun t hm => (good_acts hg t.a (List.mem_map_of_mem hm)).1) (fun t hm => (good_acts hg t.a (List.mem_map_of_mem hm)).2)
 ·obtain rfl : ts = [] := List.eq_nil_of_length_eq_zero (by omega)
  exact l4rights_nil a cap Q ac bk er en va L vc xs w hv
theorem l4holds_good {a : Option Addr} {cap : Nat} {l : List ActM} {n er : Int} {xs : List Int} {va : Option Addr} {L vc : Nat} (en : Int) (w : World) (h : Acts w (.slice a l.length cap) l) (hg : goodM l n er xs = true) (hv : Ints w (.slice va L vc) xs) :
  Calls Tryz.prog 82 #[.slice a l.length cap, .agg #[.int .i64 er, .int .i64 en, .slice va L vc]] w (HoldsMade w l er en xs) := by
 obtain ⟨ts, rfl, ht⟩ := h
 have h60 : ts.length ≤ 60 := by have := (setOk_all (cutB_set (good_parts hg).1).1).2.2.1; simpa using this
 rw [List.length_map] at ht ⊢
 by_cases h0 : 0 < ts.length
 ·obtain ⟨hu, b, off, ha, hb, hc⟩ := actsT_at ht h0
  subst ha
  exact l4holds_some b off ts.length cap er en va L vc xs (ts.map ActT.a) ts w rfl rfl h60 hb ht.1 hc hv (fun t hm => (good_acts hg t.a (List.mem_map_of_mem hm)).1) (fun t hm => (good_acts hg t.a (List.mem_map_of_mem hm)).2)
 ·obtain rfl : ts = [] := List.eq_nil_of_length_eq_zero (by omega)
  exact l4holds_nil a cap er en va L vc xs w
end Go.Proofs.YtghgiefciijoeaaGreatDoor
namespace Go.Proofs.YtghgiefciijoeaaGreatDoor
open Go.RowKit
set_option linter.unusedVariables false
set_option linter.unusedSimpArgs false
set_option maxRecDepth 100000 in
set_option maxHeartbeats 6400000 in
theorem l5counts_any (v : Value) (l : List ActM) (n k : Nat) (w : World) (h : Acts w v l) (hs : setOkM l n = true) (hk : k < l.length) : Calls Tryz.prog 44 #[v, .int .i64 k] w fun e w' => e = .returned (.bool (countsK l k)) ∧ Below w.heap.size w w' := by
  have HA := Lib.hid h
  have HSM := setOk_small hs
  obtain ⟨ts, hts, hT⟩ := h
  have htl : ts.length = l.length := by rw [hts, List.length_map]
  have h60 := (setOk_all hs).2.2.1
  obtain ⟨x, c_, rfl⟩ := actsT_len hT
  rw [htl] at hT HA ⊢
  obtain ⟨m, hmm⟩ : ∃ m, m = l.length := ⟨_, rfl⟩
  rw [← hmm] at hT HA hk h60 ⊢
  have hLM := Lib.hid hmm
  obtain ⟨z1, b, off, rfl, hb, hat⟩ := actsT_at hT (by omega)
  have at_ := hat k hk
  have rd := hT.1 _ (getD_mem (ts := ts) (i := k) (by omega))
  have hin : (ts.getD k t0).a ∈ l := by rw [hts]; exact List.mem_map.2 ⟨_, getD_mem (by omega), rfl⟩
  have HX := Lib.hid (show l.getD k act0 = (ts.getD k t0).a from by rw [hts, getD_map (by omega)])
  clear hat hT hts z1 htl hmm
  generalize ts.getD k t0 = T at at_ rd hin HX
  have hsm := HSM.2 _ hin
  have hgd := eye_good hs hin
  have OKM := Lib.hid (fun b hb => rt_rights hs hin b hb)
  have CK := Lib.hid (show countsK l k = (decide (T.a.kind ≠ 4) || (needOk l T.a 0 && needOk l T.a 1 && needOk l T.a 2)) from by unfold countsK; rw [HX.out])
  obtain ⟨xt, mt, yt, ut, kt, zt, hdt, hst⟩ := slice_of rd
  obtain ⟨⟨p0, p1, p2, p3, p4, p5, p6, p7, p8, p9, p10⟩, vdt, vst⟩ := T
  simp only at hdt hst CK hsm hgd
  subst hdt hst
  have RD := Lib.hid rd
  have i0 : (0 : Int) ≤ (k : Int) := by omega
  have i1 : (k : Int) < (m : Int) := by omega
  obtain ⟨c0, c1, c2, c3, c4, c5, c6, c7, c8, c9, c10⟩ := at_
  simp only at c0 c1 c2 c3 c4 c5 c6 c7 c8 c9 c10
  obtain ⟨P, hP⟩ : ∃ P, P = w.heap.size := ⟨_, rfl⟩
  obtain ⟨W1, hW1⟩ : ∃ V, V = w.alloc (.cells #[.int .i64 p0, .int .i64 p1, .slice xt mt yt, .int .i64 p3, .int .i64 p4, .int .i64 p5, .int .i64 p6, .int .i64 p7, .int .i64 p8, .int .i64 p9, .slice ut kt zt] 32) := ⟨_, rfl⟩
  have b1 : Below w.heap.size w W1 := by rw [hW1]; exact (Below.refl _ _).alloc (Nat.le_refl _) _
  have KP := Lib.hid (show Blk W1 P _ from by rw [hW1, hP]; exact Blk.new w _ _)
  have hP1 := KP.out.lt
  have B1 := Lib.hid b1
  have RD1 := Lib.hid (RD.out.below b1)
  have A1 := Lib.hid (HA.out.below b1)
  have SM := Lib.hid hsm
  have HG := Lib.hid hgd
  have HS := Lib.hid hs
  have HI := Lib.hid hin
  clear b1 rd hin HX hsm hgd HSM RD HA hs
  go_enter Tryz.func44, Tryz.ntmps44
  go_upto_region 2 with (fail)
  rw [← hP, ← hW1]
  clear hW1 hP c0 c1 c2 c3 c4 c5 c6 c7 c8 c9 c10
  have c := KP.out.cell
  by_cases h4 : p4 = 4
  · have e4 : (p4 != 4) = false := by simp [h4]
    have CK2 := Lib.hid (show countsK l k = (needOk l ⟨p0, p1, p2, p3, p4, p5, p6, p7, p8, p9, p10⟩ 0 && needOk l ⟨p0, p1, p2, p3, p4, p5, p6, p7, p8, p9, p10⟩ 1 && needOk l ⟨p0, p1, p2, p3, p4, p5, p6, p7, p8, p9, p10⟩ 2) from by rw [CK.out]; simp [h4])
    have CE := Lib.hid (specEyeOf2 _ _ W1 RD1.out.is SM.out)
    simp only [ActT.val] at CE
    clear CK h4
    go_wp2_with fail
    refine CE.out.mono ?_
    rintro e w2 ⟨v2, bs2, rfl, ho2, _, hb2⟩
    have J2 := ho2.ints
    obtain ⟨a2, c2, hv2⟩ := ints_len J2
    subst hv2
    have hln : p2.length = n := (ok_parts ((setOk_all HS.out).2.2.2 _ HI.out)).2.2
    generalize hl2 : p2.length = k2 at J2 hln ⊢
    have I2 := Lib.hid J2
    have KP2 := Lib.hid (KP.out.below hb2 hP1)
    have RD2 := Lib.hid (RD1.out.below hb2)
    have A2 := Lib.hid (A1.out.below hb2)
    have B2 := Lib.hid (B1.out.trans (hb2.mono B1.out.size))
    have hP2 := KP2.out.lt
    clear ho2 hb2 J2 hl2 hln CE c KP RD1 A1 B1 SM
    obtain ⟨E, hE⟩ : ∃ P, P = w2.heap.size := ⟨_, rfl⟩
    obtain ⟨W3, hW3⟩ : ∃ V, V = w2.alloc (.cells #[.int .i64 p0, .int .i64 p1, .slice a2 k2 c2] 109) := ⟨_, rfl⟩
    have b3 : Below w2.heap.size w2 W3 := by rw [hW3]; exact (Below.refl _ _).alloc (Nat.le_refl _) _
    have KE := Lib.hid (show Blk W3 E _ from by rw [hW3, hE]; exact Blk.new w2 _ _)
    have hE3 := KE.out.lt
    have KP3 := Lib.hid (KP2.out.below b3 hP2)
    have hP3 := KP3.out.lt
    have RD3 := Lib.hid (RD2.out.below b3)
    have A3 := Lib.hid (A2.out.below b3)
    have I3 := Lib.hid (I2.out.below (B := 0) b3)
    have B3 := Lib.hid (B2.out.trans (b3.mono B2.out.size))
    go_upto_region 5 with (fail)
    rw [← hE, ← hW3]
    clear hW3 hE b3 KP2 RD2 A2 I2 B2
    have c := KE.out.cell
    have CL := Lib.hid (l4holds_good p1 W3 (by have := A3.out; rw [hLM.out] at this; exact this) HG.out I3.out)
    rw [← hLM.out] at CL
    go_wp2_with fail
    refine CL.out.mono ?_
    rintro e w4 ⟨Q, rfl, hQ, hb4⟩
    have KQ := Lib.hid hQ
    rw [← hLM.out] at KQ ⊢
    have KE4 := Lib.hid (KE.out.below hb4 hE3)
    have KP4 := Lib.hid (KP3.out.below hb4 hP3)
    have RD4 := Lib.hid (RD3.out.below hb4)
    have A4 := Lib.hid (A3.out.below hb4)
    have I4 := Lib.hid (I3.out.below (B := 0) hb4)
    have B4 := Lib.hid (B3.out.trans (hb4.mono B3.out.size))
    have hQ4 := KQ.out.lt
    have hE4 := KE4.out.lt
    have hP4 := KP4.out.lt
    clear hQ hb4 c CL KE KP3 RD3 A3 I3 B3
    go_wp2_with fail
    go_loopw [8, 9] (fun bv _ wr => ∃ j : Nat, j ≤ 3 ∧ bv = .int .i64 j ∧ Hid (∀ i : Nat, i < j → needOk l ⟨p0, p1, p2, p3, p4, p5, p6, p7, p8, p9, p10⟩ i = true) ∧ Hid (Below w4.heap.size w4 wr)) (fun bv _ _ => 3 - (intOf bv).toNat)
    case atStart => exact ⟨0, by omega, rfl, Lib.hid (fun i hi => by omega), Lib.hid (Below.refl _ _)⟩
    case round =>
      obtain ⟨j, hj, rfl, hall, hbel⟩ := hrel
      by_cases hlt : j < 3
      · have c := (KP4.out.below hbel.out hP4).cell
        have CN := Lib.hid (specNeeds_any _ _ (j : Int) wr (RD4.out.below hbel.out).is (by constructor <;> omega))
        simp only [ActT.val] at CN
        have RR := Lib.hid (OKM.out (j : Int) (by omega))
        have NO := Lib.hid (show needOk l ⟨p0, p1, p2, p3, p4, p5, p6, p7, p8, p9, p10⟩ (j : Int) = (bits .and .i64 (rtM l ⟨p0, p1, p2, p3, p4, p5, p6, p7, p8, p9, p10⟩ (j : Int)) (needsM ⟨p0, p1, p2, p3, p4, p5, p6, p7, p8, p9, p10⟩ (j : Int)) == needsM ⟨p0, p1, p2, p3, p4, p5, p6, p7, p8, p9, p10⟩ (j : Int)) from rfl)
        generalize hnd : needsM _ (j : Int) = nd at CN NO
        have j3 : (j : Int) < 3 := by omega
        clear hnd
        go_wp2_with fail
        refine CN.out.mono ?_
        rintro e w5 ⟨rfl, hb5⟩
        have B5 := Lib.hid (hbel.out.trans (hb5.mono hbel.out.size))
        clear hb5 c CN hbel
        have c := (KP4.out.below B5.out hP4).cell
        have d := (KE4.out.below B5.out hE4).cell
        have CR := Lib.hid (l4rights_good (Q := Q) p1 p3 (j : Int) w5 (by have := A4.out.below B5.out; rw [hLM.out] at this; exact this) HG.out (I4.out.below (B := 0) B5.out) (by have := KQ.out.below B5.out hQ4; rw [hLM.out] at this; exact this))
        rw [← hLM.out] at CR
        have CR2 : Calls Tryz.prog 84 #[.slice (some ⟨b, off, none⟩) m c_, .slice (some ⟨Q, 0, none⟩) m m, .int .i64 p3, .int .i64 (j : Int), .agg #[.int .i64 p0, .int .i64 p1, .slice a2 k2 c2]] w5 fun e w' => e = .returned (.int .i64 (rtM l ⟨p0, p1, p2, p3, p4, p5, p6, p7, p8, p9, p10⟩ (j : Int))) ∧ Below w5.heap.size w5 w' := CR.out
        generalize rtM l _ (j : Int) = rr at CR2 NO
        clear CR RR
        go_wp2_with fail
        refine CR2.mono ?_
        rintro e w6 ⟨rfl, hb6⟩
        have B6 := Lib.hid (B5.out.trans (hb6.mono B5.out.size))
        clear hb6 c d CR2 B5
        cases hno : needOk l ⟨p0, p1, p2, p3, p4, p5, p6, p7, p8, p9, p10⟩ (j : Int)
        · have en : (bits .and .i64 rr nd != nd) = true := by have := NO.out; rw [hno] at this; simp only [bne, ← this]; rfl
          have RES := Lib.hid (show countsK l k = false from by
            rw [CK2.out]
            rcases (by omega : j = 0 ∨ j = 1 ∨ j = 2) with rfl | rfl | rfl <;> simp at hno <;> simp [hno])
          clear hno NO hall CK2
          go_wp2_with fail
          go_ret
          exact ⟨ret_bool RES.out.symm, B4.out.trans (B6.out.mono B4.out.size)⟩
        · have en : (bits .and .i64 rr nd != nd) = false := by have := NO.out; rw [hno] at this; simp only [bne, ← this]; rfl
          have HA2 := Lib.hid (show ∀ i : Nat, i < j + 1 → needOk l ⟨p0, p1, p2, p3, p4, p5, p6, p7, p8, p9, p10⟩ i = true from fun i hi => by
            by_cases e : i = j
            · rw [e]; exact hno
            · exact hall.out i (by omega))
          clear hno NO hall
          go_wp2_with fail
          go_roundw
          case rel => exact ⟨j + 1, by omega, by go_num, HA2, B6⟩
          case measure => simp [intOf]; omega
      · have RES := Lib.hid (show countsK l k = true from by
          have h0 := hall.out 0 (by omega)
          have h1 := hall.out 1 (by omega)
          have h2 := hall.out 2 (by omega)
          rw [CK2.out]
          simp at h0 h1 h2
          simp [h0, h1, h2])
        clear hall CK2
        go_wp2_with fail
        go_ret
        exact ⟨ret_bool RES.out.symm, B4.out.trans (hbel.out.mono B4.out.size)⟩
  · have e4 : (p4 != 4) = true := by simp [h4]
    have RES := Lib.hid (show countsK l k = true from by rw [CK.out]; simp [h4])
    clear CK h4
    go_wp2_with fail
    go_ret
    exact ⟨ret_bool RES.out.symm, B1.out⟩
theorem counts_out {l : List ActM} {n k : Int} (h : ¬ (0 ≤ k ∧ k < l.length)) : countsM l n k = false := by
  unfold countsM
  have : inB k 0 ((l.length : Int) - 1) = false := by
    unfold inB
    by_cases h0 : 0 ≤ k
    · have : ¬ k ≤ (l.length : Int) - 1 := by omega
      simp [this]
    · simp [h0]
  rw [this]
  simp
theorem counts_in {l : List ActM} {n k : Nat} (hs : setOkM l n = true) (hk : k < l.length) : countsM l n k = countsK l k := by
  unfold countsM
  have : inB (k : Int) 0 ((l.length : Int) - 1) = true := by
    unfold inB
    simp only [Bool.and_eq_true, decide_eq_true_eq]
    omega
  rw [this, hs, Int.toNat_natCast]
  simp
theorem counts_no {l : List ActM} {n k : Int} (h : setOkM l n = false) : countsM l n k = false := by unfold countsM; rw [h]; rfl
set_option maxRecDepth 100000 in
set_option maxHeartbeats 1600000 in
theorem specCounts_any (v : Value) (l : List ActM) (n k : Int) (w : World) (h : Acts w v l) (hn : I64 n) : Calls Tryz.prog 11 #[v, .int .i64 n, .int .i64 k] w fun e w' => e = .returned (.bool (countsM l n k)) ∧ Below w.heap.size w w' := by
  have CS := Lib.hid (setOk_any v l n w h hn)
  have HA := Lib.hid h
  have hmax := acts_max h
  obtain ⟨x, c, rfl⟩ := acts_len h
  obtain ⟨m, hmm⟩ : ∃ m, m = l.length := ⟨_, rfl⟩
  rw [← hmm] at CS HA hmax ⊢
  have HM := Lib.hid hmm
  clear h hmm
  cases hs : setOkM l n
  · rw [hs] at CS
    have RES := Lib.hid (counts_no (k := k) hs)
    clear hs
    go_enter Tryz.func11, Tryz.ntmps11
    go_wp2_with fail
    refine CS.out.mono ?_
    rintro e w1 ⟨rfl, b1⟩
    go_wp2_with fail
    go_ret
    exact ⟨ret_bool RES.out.symm, b1⟩
  · rw [hs] at CS
    obtain ⟨n', rfl, g1, g4, _, _⟩ := setOk_bounds hs
    have HS := Lib.hid hs
    clear hs
    by_cases hin : 0 ≤ k ∧ k < m
    · obtain ⟨k, rfl⟩ := Int.eq_ofNat_of_zero_le hin.1
      have hkm : k < m := by omega
      have e0 : decide ((0 : Int) ≤ (k : Int)) = true := by simp
      have e1 : decide ((k : Int) < (m : Int)) = true := by simp; omega
      have RES := Lib.hid (counts_in (k := k) HS.out (by rw [← HM.out]; exact hkm))
      go_enter Tryz.func11, Tryz.ntmps11
      go_wp2_with fail
      refine CS.out.mono ?_
      rintro e w1 ⟨rfl, b1⟩
      have B1 := Lib.hid b1
      clear b1
      go_wp2_with fail
      refine (l5counts_any _ l n' k _ (HA.out.below B1.out) HS.out (by rw [← HM.out]; exact hkm)).mono ?_
      rintro e w2 ⟨rfl, b2⟩
      rw [← RES.out]
      go_wp2_with fail
      go_ret
      exact ⟨rfl, B1.out.trans (b2.mono B1.out.size)⟩
    · have RES := Lib.hid (show countsM l n' k = false from counts_out (by rw [← HM.out]; exact hin))
      by_cases h0 : 0 ≤ k
      · have h1 : ¬ k < (m : Int) := fun h => hin ⟨h0, h⟩
        have e0 : decide ((0 : Int) ≤ k) = true := by simp [h0]
        have e1 : decide (k < (m : Int)) = false := by simp; omega
        clear hin
        go_enter Tryz.func11, Tryz.ntmps11
        go_wp2_with fail
        refine CS.out.mono ?_
        rintro e w1 ⟨rfl, b1⟩
        go_wp2_with fail
        go_ret
        exact ⟨ret_bool RES.out.symm, b1⟩
      · have e0 : decide ((0 : Int) ≤ k) = false := by simp; omega
        clear hin
        go_enter Tryz.func11, Tryz.ntmps11
        go_wp2_with fail
        refine CS.out.mono ?_
        rintro e w1 ⟨rfl, b1⟩
        go_wp2_with fail
        go_ret
        exact ⟨ret_bool RES.out.symm, b1⟩
end Go.Proofs.YtghgiefciijoeaaGreatDoor
namespace Go.Proofs.YtghgiefciijoeaaGreatDoor
open Go.RowKit
set_option linter.unusedVariables false
set_option linter.unusedSimpArgs false
set_option maxRecDepth 100000 in
set_option maxHeartbeats 12800000 in
theorem law_counts (v0 : Value) (l0 : List ActM) (n1 : Int) (n2 : Int) (w0 : World) (h0 : Acts w0 v0 l0) (h1 : -9223372036854775808 ≤ n1 ∧ n1 ≤ 9223372036854775807) (h2 : -9223372036854775808 ≤ n2 ∧ n2 ≤ 9223372036854775807) (hTab : Tab w0) :
    Calls Tryz.prog 6 #[v0, .int .i64 n1, .int .i64 n2] w0 fun e w' => e = .returned (.bool true) ∧ Below w0.heap.size w0 w' := by
  have H0 := Lib.hid h0
  have HTAB := Lib.hid hTab
  obtain ⟨M0, hM0⟩ : ∃ M, M = countsM l0 n1 n2 := ⟨_, rfl⟩
  have CS := Lib.hid (fun W u0 (h0 : Acts W u0 l0) (s0 : SmallL l0) => specCounts_any u0 l0 n1 n2 W h0 h1)
  have CI := Lib.hid (fun W u0 (h0 : Acts W u0 l0) (s0 : SmallL l0) (hT : Tab W) => implCounts_any u0 l0 n1 n2 W h0 h1 h2 hT)
  simp only [← hM0] at CS CI
  have be0 : (M0 == M0) = true := by simp
  have bn0 : (M0 != M0) = false := by simp
  clear hM0 h0
  have B0 := Lib.hid (Below.refl w0.heap.size w0)
  go_enter Tryz.func6, Tryz.ntmps6
  go_wp2_with fail
  refine (szActS_any _ l0 1048576 _ (H0.out.below B0.out) (by omega) (by omega)).mono ?_
  rintro e w1 ⟨r0, rfl, ra0, rb0, rs0, b1⟩
  have B1 := Lib.hid (B0.out.trans ((b1).mono B0.out.size))
  have RS0 := Lib.hid rs0
  clear b1 rs0
  by_cases hr0 : r0 < 0
  · go_wp2_with fail
    go_ret
    exact ⟨rfl, B1.out⟩
  have SM0 := Lib.hid (RS0.out (by omega)).1
  have hz0 : szL l0 ≤ 9437184 := by have h1 := (RS0.out (by omega)).2; have h2 := szL_tot l0; omega
  obtain ⟨Z0, hZ0⟩ : ∃ Z, szL l0 = Z := ⟨_, rfl⟩
  rw [hZ0] at hz0
  have HZ0 := Lib.hid hZ0
  clear hZ0
  go_wp2_with fail
  refine (toL_any _ l0 _ (H0.out.below B1.out) SM0.out).mono ?_
  rintro e w2 ⟨us0, ss0, rfl, os0, gs0, b2⟩
  have Os0_2 := Lib.hid os0
  have B2 := Lib.hid (B1.out.trans ((b2).mono B1.out.size))
  clear b2 gs0 os0
  go_wp2_with fail
  refine (CS.out _ _ Os0_2.out.acts SM0.out).mono ?_
  rintro e w3 ⟨rfl, b3⟩
  have B3 := Lib.hid (B2.out.trans ((b3).mono B2.out.size))
  clear Os0_2 b3
  have E3 := Lib.hid (Below.refl w3.heap.size w3)
  go_wp2_with fail
  refine (toL_any _ l0 _ (H0.out.below B3.out) SM0.out).mono ?_
  rintro e w4 ⟨ux0, sx0, rfl, ox0, gx0, b4⟩
  have Ox0_4 := Lib.hid ox0
  have Gx0 := Lib.hid (fun b hb => Nat.le_trans E3.out.size (gx0 b hb))
  have B4 := Lib.hid (B3.out.trans ((b4).mono B3.out.size))
  have E4 := Lib.hid (E3.out.trans ((b4).mono E3.out.size))
  clear b4 gx0 ox0
  go_wp2_with fail
  refine (CI.out _ _ Ox0_4.out.acts SM0.out (HTAB.out.below B4.out)).mono ?_
  rintro e w5 ⟨rfl, b5⟩
  have B5 := Lib.hid (B4.out.trans ((b5).mono B4.out.size))
  have E5 := Lib.hid (E4.out.trans ((b5).mono E4.out.size))
  have Ox0_5 := Lib.hid (Ox0_4.out.below (b5))
  clear Ox0_4 b5
  go_wp2_with fail
  refine (toL_any _ l0 _ (H0.out.below B5.out) SM0.out).mono ?_
  rintro e w6 ⟨uy0, sy0, rfl, oy0, gy0, b6⟩
  have Oy0_6 := Lib.hid oy0
  have Dx0_y0 := Lib.hid (show ∀ b ∈ sx0, b ∉ sy0 from fun b hb hc => by have h1 := Ox0_5.out.lt b hb; have h2 := gy0 b hc; omega)
  have Dy0_x0 := Lib.hid (show ∀ b ∈ sy0, b ∉ sx0 from fun b hc hb => by have h1 := Ox0_5.out.lt b hb; have h2 := gy0 b hc; omega)
  have Gy0 := Lib.hid (fun b hb => Nat.le_trans E5.out.size (gy0 b hb))
  have B6 := Lib.hid (B5.out.trans ((b6).mono B5.out.size))
  have E6 := Lib.hid (E5.out.trans ((b6).mono E5.out.size))
  have Ox0_6 := Lib.hid (Ox0_5.out.below (b6))
  clear Ox0_5 b6 gy0 oy0
  go_wp2_with fail
  refine (eqActS_any _ _ l0 _ Ox0_6.out.acts Oy0_6.out.acts).mono ?_
  rintro e w7 ⟨rfl, b7⟩
  have B7 := Lib.hid (B6.out.trans ((b7).mono B6.out.size))
  have E7 := Lib.hid (E6.out.trans ((b7).mono E6.out.size))
  have Ox0_7 := Lib.hid (Ox0_6.out.below (b7))
  have Oy0_7 := Lib.hid (Oy0_6.out.below (b7))
  clear Ox0_6 Oy0_6 b7
  clear Oy0_7
  go_wp2_with fail
  go_ret
  exact ⟨rfl, B7.out⟩
end Go.Proofs.YtghgiefciijoeaaGreatDoor
