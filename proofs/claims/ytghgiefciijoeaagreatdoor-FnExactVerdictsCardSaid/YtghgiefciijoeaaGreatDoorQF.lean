/- Rights: the reference's l4past, l4later, l4good. -/
import Derived.Test.YtghgiefciijoeaaGreatDoorLA
import Derived.Test.YtghgiefciijoeaaGreatDoorHE
import Derived.Test.YtghgiefciijoeaaGreatDoorHF
import Derived.Deep.DeepCutAuto

namespace Go.Proofs.YtghgiefciijoeaaGreatDoor
open Go.RowKit
set_option linter.unusedVariables false
set_option linter.unusedSimpArgs false
theorem ints_at {w : World} {a : Option Addr} {L c : Nat} {xs : List Int} (h : Ints w (.slice a L c) xs) (hp : 0 < L) : L = xs.length ∧ ∃ b off, a = some ⟨b, off, none⟩ ∧ b < w.heap.size ∧ ∀ i, i < L → w.cell? ⟨b, off + i, none⟩ = some (.int .i64 (xs.getD i 0)) := by
 rcases h with ⟨a', c', hv, rfl⟩ | ⟨b, off, c', hv, h1, h2, h3, h4⟩
 ·cases hv; omega
 ·cases hv
  exact ⟨rfl, b, off, rfl, h1, h4⟩
set_option maxHeartbeats 1600000 in
set_option maxRecDepth 100000 in
theorem past_any (er en : Int) (vv : Value) (xs : List Int) (t : ActT) (w : World) (ht : t.Reads w) (hv : Ints w vv xs) (h0 : 0 ≤ t.a.r) (h1 : t.a.r < xs.length) :
  Calls Tryz.prog 107 #[t.val, .agg #[.int .i64 er, .int .i64 en, vv]] w fun e w' => e = .returned (.bool (pastM xs t.a)) ∧ Below w.heap.size w w' := by
 obtain ⟨va, vc, rfl⟩ := ints_len hv
 obtain ⟨hdd, b, off, rfl, hb, hc⟩ := ints_at hv (by omega)
 clear hdd
 obtain ⟨q, hq⟩ : ∃ q : Nat, t.a.r = (q : Int) := ⟨t.a.r.toNat, by omega⟩
 obtain ⟨x, hx⟩ : ∃ x, x = xs.getD q 0 := ⟨_, rfl⟩
 have hcq := hc q (by omega)
 rw [← hx] at hcq
 have hP : pastM xs t.a = decide (t.a.n ≤ x) := by rw [pastM, hq, Int.toNat_natCast, hx]
 rw [hP]
 have HCQ := Lib.hid hcq
 have HB := Lib.hid hb
 have HT := Lib.hid ht
 have HQ : Hid ((q : Int) < xs.length) := by show _ < _; omega
 clear hv hc hcq hb ht hP hx h0 h1
 obtain ⟨⟨r, nn, dep, actor, kind, dst, bucket, mask, gr, gn, ups⟩, vd, vs⟩ := t
 have hsd := ints_len HT.out.1
 have hsu := ups_len HT.out.2
 simp only at hsd hsu
 obtain ⟨da, dc, rfl⟩ := hsd
 obtain ⟨ua, uc, rfl⟩ := hsu
 try simp only [ActT.val] at  ⊢
 obtain ⟨dl, hdl⟩ : ∃ x, x = dep.length := ⟨_, rfl⟩
 obtain ⟨ul, hul⟩ : ∃ x, x = ups.length := ⟨_, rfl⟩
 try rw [← hdl] at HT
 try rw [← hul] at HT
 try rw [← hdl]
 try rw [← hul]
 have HDL := Lib.hid hdl
 clear hdl hul
 simp only at hq
 subst hq
 obtain ⟨L, hL⟩ : ∃ L, L = xs.length := ⟨_, rfl⟩
 rw [← hL] at HQ ⊢
 clear hL
 have BW := Lib.hid (Below.refl w.heap.size w)
 go_enter Tryz.func107, Tryz.ntmps107
 have kT := (Blk.new w #[.int .i64 q, .int .i64 nn, .slice da dl dc, .int .i64 actor, .int .i64 kind, .int .i64 dst, .int .i64 bucket, .int .i64 mask, .int .i64 gr, .int .i64 gn, .slice ua ul uc] 32).alloc (.cells #[.int .i64 er, .int .i64 en, .slice (some ⟨b, off, none⟩) L vc] 109)
 have kE := Blk.new (w.alloc (.cells #[.int .i64 q, .int .i64 nn, .slice da dl dc, .int .i64 actor, .int .i64 kind, .int .i64 dst, .int .i64 bucket, .int .i64 mask, .int .i64 gr, .int .i64 gn, .slice ua ul uc] 32)) #[.int .i64 er, .int .i64 en, .slice (some ⟨b, off, none⟩) L vc] 109
 simp only [World.size_alloc] at kE
 have ba := ((Below.refl w.heap.size w).alloc (Nat.le_refl _) (.cells #[.int .i64 q, .int .i64 nn, .slice da dl dc, .int .i64 actor, .int .i64 kind, .int .i64 dst, .int .i64 bucket, .int .i64 mask, .int .i64 gr, .int .i64 gn, .slice ua ul uc] 32)).alloc (by simp [World.size_alloc]; try omega) (.cells #[.int .i64 er, .int .i64 en, .slice (some ⟨b, off, none⟩) L vc] 109)
 obtain ⟨pT, hpT⟩ : ∃ p, p = w.heap.size := ⟨_, rfl⟩
 obtain ⟨pE, hpE⟩ : ∃ p, p = w.heap.size + 1 := ⟨_, rfl⟩
 go_upto_region 1 with (fail)
 rw [← hpE] at kE
 try rw [← hpE]
 rw [← hpT] at kT
 try rw [← hpT]
 obtain ⟨w1, hW⟩ : ∃ W, W = (w.alloc (.cells #[.int .i64 q, .int .i64 nn, .slice da dl dc, .int .i64 actor, .int .i64 kind, .int .i64 dst, .int .i64 bucket, .int .i64 mask, .int .i64 gr, .int .i64 gn, .slice ua ul uc] 32)).alloc (.cells #[.int .i64 er, .int .i64 en, .slice (some ⟨b, off, none⟩) L vc] 109) := ⟨_, rfl⟩
 rw [← hW] at ba kT kE ⊢
 have KT := Lib.hid kT
 have GT := Lib.hid (show w.heap.size ≤ pT by omega)
 have KE := Lib.hid kE
 have GE := Lib.hid (show w.heap.size ≤ pE by omega)
 have NET_E := Lib.hid (show pT ≠ pE by omega)
 replace BW := Lib.hid (BW.out.trans ((ba).mono BW.out.size))
 clear ba hW kT hpT kE hpE
 have kt0 := KT.out.cell 0
 have kt1 := KT.out.cell 1
 have kt2 := KT.out.cell 2
 have kt3 := KT.out.cell 3
 have kt4 := KT.out.cell 4
 have kt5 := KT.out.cell 5
 have kt6 := KT.out.cell 6
 have kt7 := KT.out.cell 7
 have kt8 := KT.out.cell 8
 have kt9 := KT.out.cell 9
 have kt10 := KT.out.cell 10
 simp only [List.getElem?_cons_zero, List.getElem?_cons_succ] at kt0 kt1 kt2 kt3 kt4 kt5 kt6 kt7 kt8 kt9 kt10
 have ke0 := KE.out.cell 0
 have ke1 := KE.out.cell 1
 have ke2 := KE.out.cell 2
 simp only [List.getElem?_cons_zero, List.getElem?_cons_succ] at ke0 ke1 ke2
 have hcell := HCQ.out
 have hc1 : w1.cell? ⟨b, off + q, none⟩ = some (.int .i64 x) := by rw [← hcell]; exact BW.out.cell (p := ⟨b, off + q, none⟩) HB.out
 clear hcell
 have i0 : (0 : Int) ≤ (q : Int) := by omega
 have i1 : (q : Int) < (L : Int) := HQ.out
 go_quiet (fail)
 go_wp2
 go_ret
 exact ⟨rfl, below_drewN BW.out _⟩
set_option maxHeartbeats 3200000 in
set_option maxRecDepth 100000 in
theorem later_any (er en : Int) (vv : Value) (t : ActT) (w : World) (ht : t.Reads w) (h1 : er < t.a.dep.length) :
  Calls Tryz.prog 141 #[t.val, .agg #[.int .i64 er, .int .i64 en, vv]] w fun e w' => e = .returned (.bool (laterM t.a er en)) ∧ Below w.heap.size w w' := by
 have HT := Lib.hid ht
 have H1 := Lib.hid h1
 obtain ⟨R, hR⟩ : ∃ R, R = laterM t.a er en := ⟨_, rfl⟩
 rw [← hR]
 have HR := Lib.hid hR
 clear ht h1 hR
 obtain ⟨⟨r, nn, dep, actor, kind, dst, bucket, mask, gr, gn, ups⟩, vd, vs⟩ := t
 have hsd := ints_len HT.out.1
 have hsu := ups_len HT.out.2
 simp only at hsd hsu
 obtain ⟨da, dc, rfl⟩ := hsd
 obtain ⟨ua, uc, rfl⟩ := hsu
 try simp only [ActT.val] at H1 ⊢
 obtain ⟨dl, hdl⟩ : ∃ x, x = dep.length := ⟨_, rfl⟩
 obtain ⟨ul, hul⟩ : ∃ x, x = ups.length := ⟨_, rfl⟩
 try rw [← hdl] at HT
 try rw [← hul] at HT
 try rw [← hdl] at H1
 try rw [← hul] at H1
 try rw [← hdl]
 try rw [← hul]
 have HDL := Lib.hid hdl
 clear hdl hul
 have BW := Lib.hid (Below.refl w.heap.size w)
 simp only [laterM] at HR
 by_cases g0 : 0 ≤ er
 rotate_left
 ·have HRF := Lib.hid (show R = false by rw [HR.out]; simp [g0])
  have e1 : decide (er ≥ 0) = false := by simp; omega
  have e2 : decide (0 ≤ er) = false := by simp; omega
  clear g0
  go_enter Tryz.func141, Tryz.ntmps141
  have kT := (Blk.new w #[.int .i64 r, .int .i64 nn, .slice da dl dc, .int .i64 actor, .int .i64 kind, .int .i64 dst, .int .i64 bucket, .int .i64 mask, .int .i64 gr, .int .i64 gn, .slice ua ul uc] 32).alloc (.cells #[.int .i64 er, .int .i64 en, vv] 109)
  have kE := Blk.new (w.alloc (.cells #[.int .i64 r, .int .i64 nn, .slice da dl dc, .int .i64 actor, .int .i64 kind, .int .i64 dst, .int .i64 bucket, .int .i64 mask, .int .i64 gr, .int .i64 gn, .slice ua ul uc] 32)) #[.int .i64 er, .int .i64 en, vv] 109
  simp only [World.size_alloc] at kE
  have ba := ((Below.refl w.heap.size w).alloc (Nat.le_refl _) (.cells #[.int .i64 r, .int .i64 nn, .slice da dl dc, .int .i64 actor, .int .i64 kind, .int .i64 dst, .int .i64 bucket, .int .i64 mask, .int .i64 gr, .int .i64 gn, .slice ua ul uc] 32)).alloc (by simp [World.size_alloc]; try omega) (.cells #[.int .i64 er, .int .i64 en, vv] 109)
  obtain ⟨pT, hpT⟩ : ∃ p, p = w.heap.size := ⟨_, rfl⟩
  obtain ⟨pE, hpE⟩ : ∃ p, p = w.heap.size + 1 := ⟨_, rfl⟩
  go_upto_region 1 with (fail)
  rw [← hpE] at kE
  try rw [← hpE]
  rw [← hpT] at kT
  try rw [← hpT]
  obtain ⟨w1, hW⟩ : ∃ W, W = (w.alloc (.cells #[.int .i64 r, .int .i64 nn, .slice da dl dc, .int .i64 actor, .int .i64 kind, .int .i64 dst, .int .i64 bucket, .int .i64 mask, .int .i64 gr, .int .i64 gn, .slice ua ul uc] 32)).alloc (.cells #[.int .i64 er, .int .i64 en, vv] 109) := ⟨_, rfl⟩
  rw [← hW] at ba kT kE ⊢
  have KT := Lib.hid kT
  have GT := Lib.hid (show w.heap.size ≤ pT by omega)
  have KE := Lib.hid kE
  have GE := Lib.hid (show w.heap.size ≤ pE by omega)
  have NET_E := Lib.hid (show pT ≠ pE by omega)
  replace BW := Lib.hid (BW.out.trans ((ba).mono BW.out.size))
  clear ba hW kT hpT kE hpE
  have kt0 := KT.out.cell 0
  have kt1 := KT.out.cell 1
  have kt2 := KT.out.cell 2
  have kt3 := KT.out.cell 3
  have kt4 := KT.out.cell 4
  have kt5 := KT.out.cell 5
  have kt6 := KT.out.cell 6
  have kt7 := KT.out.cell 7
  have kt8 := KT.out.cell 8
  have kt9 := KT.out.cell 9
  have kt10 := KT.out.cell 10
  simp only [List.getElem?_cons_zero, List.getElem?_cons_succ] at kt0 kt1 kt2 kt3 kt4 kt5 kt6 kt7 kt8 kt9 kt10
  have ke0 := KE.out.cell 0
  have ke1 := KE.out.cell 1
  have ke2 := KE.out.cell 2
  simp only [List.getElem?_cons_zero, List.getElem?_cons_succ] at ke0 ke1 ke2
  go_quiet (fail)
  go_wp2
  go_ret
  exact ⟨ret_bool HRF.out.symm, below_drewN BW.out _⟩
 have e1 : decide (er ≥ 0) = true := by simp; omega
 have e2 : decide (0 ≤ er) = true := by simp; omega
 by_cases g1 : 1 ≤ en
 rotate_left
 ·have HRF := Lib.hid (show R = false by rw [HR.out]; simp [g1])
  have e3 : decide (en ≥ 1) = false := by simp; omega
  have e4 : decide (1 ≤ en) = false := by simp; omega
  clear g1 g0
  go_enter Tryz.func141, Tryz.ntmps141
  have kT := (Blk.new w #[.int .i64 r, .int .i64 nn, .slice da dl dc, .int .i64 actor, .int .i64 kind, .int .i64 dst, .int .i64 bucket, .int .i64 mask, .int .i64 gr, .int .i64 gn, .slice ua ul uc] 32).alloc (.cells #[.int .i64 er, .int .i64 en, vv] 109)
  have kE := Blk.new (w.alloc (.cells #[.int .i64 r, .int .i64 nn, .slice da dl dc, .int .i64 actor, .int .i64 kind, .int .i64 dst, .int .i64 bucket, .int .i64 mask, .int .i64 gr, .int .i64 gn, .slice ua ul uc] 32)) #[.int .i64 er, .int .i64 en, vv] 109
  simp only [World.size_alloc] at kE
  have ba := ((Below.refl w.heap.size w).alloc (Nat.le_refl _) (.cells #[.int .i64 r, .int .i64 nn, .slice da dl dc, .int .i64 actor, .int .i64 kind, .int .i64 dst, .int .i64 bucket, .int .i64 mask, .int .i64 gr, .int .i64 gn, .slice ua ul uc] 32)).alloc (by simp [World.size_alloc]; try omega) (.cells #[.int .i64 er, .int .i64 en, vv] 109)
  obtain ⟨pT, hpT⟩ : ∃ p, p = w.heap.size := ⟨_, rfl⟩
  obtain ⟨pE, hpE⟩ : ∃ p, p = w.heap.size + 1 := ⟨_, rfl⟩
  go_upto_region 1 with (fail)
  rw [← hpE] at kE
  try rw [← hpE]
  rw [← hpT] at kT
  try rw [← hpT]
  obtain ⟨w1, hW⟩ : ∃ W, W = (w.alloc (.cells #[.int .i64 r, .int .i64 nn, .slice da dl dc, .int .i64 actor, .int .i64 kind, .int .i64 dst, .int .i64 bucket, .int .i64 mask, .int .i64 gr, .int .i64 gn, .slice ua ul uc] 32)).alloc (.cells #[.int .i64 er, .int .i64 en, vv] 109) := ⟨_, rfl⟩
  rw [← hW] at ba kT kE ⊢
  have KT := Lib.hid kT
  have GT := Lib.hid (show w.heap.size ≤ pT by omega)
  have KE := Lib.hid kE
  have GE := Lib.hid (show w.heap.size ≤ pE by omega)
  have NET_E := Lib.hid (show pT ≠ pE by omega)
  replace BW := Lib.hid (BW.out.trans ((ba).mono BW.out.size))
  clear ba hW kT hpT kE hpE
  have kt0 := KT.out.cell 0
  have kt1 := KT.out.cell 1
  have kt2 := KT.out.cell 2
  have kt3 := KT.out.cell 3
  have kt4 := KT.out.cell 4
  have kt5 := KT.out.cell 5
  have kt6 := KT.out.cell 6
  have kt7 := KT.out.cell 7
  have kt8 := KT.out.cell 8
  have kt9 := KT.out.cell 9
  have kt10 := KT.out.cell 10
  simp only [List.getElem?_cons_zero, List.getElem?_cons_succ] at kt0 kt1 kt2 kt3 kt4 kt5 kt6 kt7 kt8 kt9 kt10
  have ke0 := KE.out.cell 0
  have ke1 := KE.out.cell 1
  have ke2 := KE.out.cell 2
  simp only [List.getElem?_cons_zero, List.getElem?_cons_succ] at ke0 ke1 ke2
  go_quiet (fail)
  go_wp2
  go_ret
  exact ⟨ret_bool HRF.out.symm, below_drewN BW.out _⟩
 have e3 : decide (en ≥ 1) = true := by simp; omega
 have e4 : decide (1 ≤ en) = true := by simp; omega
 obtain ⟨q, rfl⟩ : ∃ q : Nat, er = (q : Int) := ⟨er.toNat, by omega⟩
 have hql : q < dl := by have := H1.out; omega
 obtain ⟨hdd, b, off, rfl, hb, hc⟩ := ints_at HT.out.1 (by omega)
 clear hdd
 obtain ⟨x, hx⟩ : ∃ x, x = dep.getD q 0 := ⟨_, rfl⟩
 have hcq := hc q hql
 simp only at hcq
 rw [← hx] at hcq
 have HRF := Lib.hid (show R = decide (en ≤ x) by rw [HR.out, Int.toNat_natCast, ← hx]; simp [g1])
 clear hc hx g0 g1
 have HB := Lib.hid hb
 have HCQ := Lib.hid hcq
 clear hb hcq
 go_enter Tryz.func141, Tryz.ntmps141
 have kT := (Blk.new w #[.int .i64 r, .int .i64 nn, .slice (some ⟨b, off, none⟩) dl dc, .int .i64 actor, .int .i64 kind, .int .i64 dst, .int .i64 bucket, .int .i64 mask, .int .i64 gr, .int .i64 gn, .slice ua ul uc] 32).alloc (.cells #[.int .i64 (q : Int), .int .i64 en, vv] 109)
 have kE := Blk.new (w.alloc (.cells #[.int .i64 r, .int .i64 nn, .slice (some ⟨b, off, none⟩) dl dc, .int .i64 actor, .int .i64 kind, .int .i64 dst, .int .i64 bucket, .int .i64 mask, .int .i64 gr, .int .i64 gn, .slice ua ul uc] 32)) #[.int .i64 (q : Int), .int .i64 en, vv] 109
 simp only [World.size_alloc] at kE
 have ba := ((Below.refl w.heap.size w).alloc (Nat.le_refl _) (.cells #[.int .i64 r, .int .i64 nn, .slice (some ⟨b, off, none⟩) dl dc, .int .i64 actor, .int .i64 kind, .int .i64 dst, .int .i64 bucket, .int .i64 mask, .int .i64 gr, .int .i64 gn, .slice ua ul uc] 32)).alloc (by simp [World.size_alloc]; try omega) (.cells #[.int .i64 (q : Int), .int .i64 en, vv] 109)
 obtain ⟨pT, hpT⟩ : ∃ p, p = w.heap.size := ⟨_, rfl⟩
 obtain ⟨pE, hpE⟩ : ∃ p, p = w.heap.size + 1 := ⟨_, rfl⟩
 go_upto_region 1 with (fail)
 rw [← hpE] at kE
 try rw [← hpE]
 rw [← hpT] at kT
 try rw [← hpT]
 obtain ⟨w1, hW⟩ : ∃ W, W = (w.alloc (.cells #[.int .i64 r, .int .i64 nn, .slice (some ⟨b, off, none⟩) dl dc, .int .i64 actor, .int .i64 kind, .int .i64 dst, .int .i64 bucket, .int .i64 mask, .int .i64 gr, .int .i64 gn, .slice ua ul uc] 32)).alloc (.cells #[.int .i64 (q : Int), .int .i64 en, vv] 109) := ⟨_, rfl⟩
 rw [← hW] at ba kT kE ⊢
 have KT := Lib.hid kT
 have GT := Lib.hid (show w.heap.size ≤ pT by omega)
 have KE := Lib.hid kE
 have GE := Lib.hid (show w.heap.size ≤ pE by omega)
 have NET_E := Lib.hid (show pT ≠ pE by omega)
 replace BW := Lib.hid (BW.out.trans ((ba).mono BW.out.size))
 clear ba hW kT hpT kE hpE
 have kt0 := KT.out.cell 0
 have kt1 := KT.out.cell 1
 have kt2 := KT.out.cell 2
 have kt3 := KT.out.cell 3
 have kt4 := KT.out.cell 4
 have kt5 := KT.out.cell 5
 have kt6 := KT.out.cell 6
 have kt7 := KT.out.cell 7
 have kt8 := KT.out.cell 8
 have kt9 := KT.out.cell 9
 have kt10 := KT.out.cell 10
 simp only [List.getElem?_cons_zero, List.getElem?_cons_succ] at kt0 kt1 kt2 kt3 kt4 kt5 kt6 kt7 kt8 kt9 kt10
 have ke0 := KE.out.cell 0
 have ke1 := KE.out.cell 1
 have ke2 := KE.out.cell 2
 simp only [List.getElem?_cons_zero, List.getElem?_cons_succ] at ke0 ke1 ke2
 have hc1 : w1.cell? ⟨b, off + q, none⟩ = some (.int .i64 x) := by rw [← HCQ.out]; exact BW.out.cell (p := ⟨b, off + q, none⟩) HB.out
 have i0 : (0 : Int) ≤ (q : Int) := by omega
 have i1 : (q : Int) < (dl : Int) := by omega
 go_quiet (fail)
 go_wp2
 go_ret
 exact ⟨ret_bool HRF.out.symm, below_drewN BW.out _⟩
end Go.Proofs.YtghgiefciijoeaaGreatDoor
