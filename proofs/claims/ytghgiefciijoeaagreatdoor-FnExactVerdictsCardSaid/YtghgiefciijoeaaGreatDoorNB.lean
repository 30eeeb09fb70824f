/- The program's isClosed: each act asked by hasAllFor. -/
import Derived.Test.YtghgiefciijoeaaGreatDoorNA

namespace Go.Proofs.YtghgiefciijoeaaGreatDoor
open Go.RowKit
set_option linter.unusedVariables false
set_option maxRecDepth 100000 in
set_option maxHeartbeats 3200000 in
theorem isClosed_some (b off cap len mb n : Nat) (ys : List Int) (ts : List ActT) (w : World)
  (h1 : ts.length = len) (hlen : len ≤ 60) (hn : n ≤ 4) (hb : b < w.heap.size) (hr : ∀ t ∈ ts, GoodT w n t) (hc : ∀ i, i < len → ActAt w b (off + i * 11) (ts.getD i t0))
  (hys : okB ys = true) (hyl : ys.length = n) :
  Calls Tryz.prog 78 #[.agg #[.slice (some ⟨b, off, none⟩) len cap, .map (some mb), .int .i64 n, .int .i64 (cx ys 0), .int .i64 (cx ys 1), .int .i64 (cx ys 2), .int .i64 (cx ys 3)]] w fun e w' =>
   e = .returned (.bool (clFrom ts ys ts)) ∧ Below w.heap.size w w' := by
 have HH := Lib.hid (fun (t : ActT) (ht : t ∈ ts) (W : World) (hW : Below w.heap.size w W) => hasAllFor_some b off cap len mb n ys ts t W h1 hlen hn (Nat.lt_of_lt_of_le hb hW.size) (fun t ht => ⟨(hr t ht).1.below hW, (hr t ht).2⟩) (fun i hi => (hc i hi).below hW hb) hys hyl ⟨(hr t ht).1.below hW, (hr t ht).2⟩)
 have HC := Lib.hid hc
 have HR := Lib.hid hr
 have N1 := Lib.hid h1
 obtain ⟨x0, hx0⟩ : ∃ x, x = cx ys 0 := ⟨_, rfl⟩
 obtain ⟨x1, hx1⟩ : ∃ x, x = cx ys 1 := ⟨_, rfl⟩
 obtain ⟨x2, hx2⟩ : ∃ x, x = cx ys 2 := ⟨_, rfl⟩
 obtain ⟨x3, hx3⟩ : ∃ x, x = cx ys 3 := ⟨_, rfl⟩
 simp only [← hx0, ← hx1, ← hx2, ← hx3] at HH ⊢
 clear hx0 hx1 hx2 hx3 hys hyl hc hr h1
 have kS : Blk (w.alloc (.cells #[.slice (some ⟨b, off, none⟩) len cap, .map (some mb), .int .i64 n, .int .i64 x0, .int .i64 x1, .int .i64 x2, .int .i64 x3] 73)) w.heap.size [.slice (some ⟨b, off, none⟩) len cap, .map (some mb), .int .i64 n, .int .i64 x0, .int .i64 x1, .int .i64 x2, .int .i64 x3] := Blk.new w _ _
 have b0 := (Below.refl w.heap.size w).alloc (Nat.le_refl _) (.cells #[.slice (some ⟨b, off, none⟩) len cap, .map (some mb), .int .i64 n, .int .i64 x0, .int .i64 x1, .int .i64 x2, .int .i64 x3] 73)
 obtain ⟨B, hB⟩ : ∃ B, B = w.heap.size := ⟨_, rfl⟩
 obtain ⟨R, hR⟩ : ∃ R, R = clFrom ts ys ts := ⟨_, rfl⟩
 rw [← hR]
 have HRR := Lib.hid hR
 clear hR
 go_enter Tryz.func78, Tryz.ntmps78
 go_upto_region 1 with (fail)
 rw [← hB] at kS b0 ⊢
 have HB := Lib.hid hB
 clear hB
 generalize w.alloc (.cells #[.slice (some ⟨b, off, none⟩) len cap, .map (some mb), .int .i64 n, .int .i64 x0, .int .i64 x1, .int .i64 x2, .int .i64 x3] 73) = W0 at kS b0 ⊢
 have KS := Lib.hid kS
 have B0 := Lib.hid b0
 have s0 := kS.cell 0
 simp only [List.getElem?_cons_zero] at s0
 clear kS b0
 go_wp2_with fail
 clear s0
 go_loopw [8] (fun i wr => ∃ k : Nat, k ≤ len ∧ i = .int .i64 k ∧ Hid (R = clFrom ts ys (ts.drop k)) ∧ Hid (Blk wr B [.slice (some ⟨b, off, none⟩) len cap, .map (some mb), .int .i64 n, .int .i64 x0, .int .i64 x1, .int .i64 x2, .int .i64 x3]) ∧ Hid (Below B w wr)) (fun i _ => len - (intOf i).toNat)
 case atStart => exact ⟨0, Nat.zero_le _, rfl, HRR.out, KS.out, B0.out⟩
 case round =>
  obtain ⟨k, hk, rfl, hg, ks, hbel⟩ := hrel
  clear KS B0 HRR
  by_cases hlt : k < len
  ·have hlt2 : k < ts.length := by rw [N1.out]; exact hlt
   have hBw : Below w.heap.size w wr := by have := hbel.out; rw [HB.out] at this; exact this
   have AT := Lib.hid ((HC.out k hlt).below hBw hb)
   have HT := Lib.hid ((HR.out _ (getD_mem hlt2)).1.below hBw)
   have HK := Lib.hid (HH.out _ (getD_mem hlt2))
   have hst := hg.out
   rw [clFrom_step ts ys ts k hlt2] at hst
   obtain ⟨t, htt⟩ : ∃ t, t = ts.getD k t0 := ⟨_, rfl⟩
   rw [← htt] at AT HT HK hst
   clear htt hg
   obtain ⟨⟨r, nn, dep, actor, kind, dst, bucket, mask, gr, gn, ups⟩, vd, vs⟩ := t
   have hsd := ints_len HT.out.1
   have hsu := ups_len HT.out.2
   simp only at hsd hsu
   obtain ⟨da, dc, rfl⟩ := hsd
   obtain ⟨ua, uc, rfl⟩ := hsu
   simp only [ActT.val] at HK
   try simp only at hst
   obtain ⟨X, hX⟩ : ∃ X, X = (leqB dep ys && clIn ts dep) := ⟨_, rfl⟩
   rw [← hX] at hst
   have HK2 := Lib.hid (fun W (hW : Below w.heap.size w W) => (HK.out W hW))
   simp only [← hX] at HK2
   have HST := Lib.hid hst
   have c0 := AT.out.c0
   have c1 := AT.out.c1
   have c2 := AT.out.c2
   have c3 := AT.out.c3
   have c4 := AT.out.c4
   have c5 := AT.out.c5
   have c6 := AT.out.c6
   have c7 := AT.out.c7
   have c8 := AT.out.c8
   have c9 := AT.out.c9
   have c10 := AT.out.c10
   simp only at c0 c1 c2 c3 c4 c5 c6 c7 c8 c9 c10
   clear AT HK hX hst
   go_upto_region 4 with (fail)
   have kA : Blk (wr.alloc (.cells #[.int .i64 r, .int .i64 nn, .slice da dep.length dc, .int .i64 actor, .int .i64 kind, .int .i64 dst, .int .i64 bucket, .int .i64 mask, .int .i64 gr, .int .i64 gn, .slice ua ups.length uc] 32)) wr.heap.size [.int .i64 r, .int .i64 nn, .slice da dep.length dc, .int .i64 actor, .int .i64 kind, .int .i64 dst, .int .i64 bucket, .int .i64 mask, .int .i64 gr, .int .i64 gn, .slice ua ups.length uc] := Blk.new wr _ _
   have b1 := (Below.refl wr.heap.size wr).alloc (Nat.le_refl _) (.cells #[.int .i64 r, .int .i64 nn, .slice da dep.length dc, .int .i64 actor, .int .i64 kind, .int .i64 dst, .int .i64 bucket, .int .i64 mask, .int .i64 gr, .int .i64 gn, .slice ua ups.length uc] 32)
   obtain ⟨Q, hQ⟩ : ∃ Q, Q = wr.heap.size := ⟨_, rfl⟩
   have hBQ : B < Q := by rw [hQ]; exact ks.out.lt
   rw [← hQ] at kA b1 ⊢
   generalize wr.alloc (.cells #[.int .i64 r, .int .i64 nn, .slice da dep.length dc, .int .i64 actor, .int .i64 kind, .int .i64 dst, .int .i64 bucket, .int .i64 mask, .int .i64 gr, .int .i64 gn, .slice ua ups.length uc] 32) = W1 at kA b1 ⊢
   clear c0 c1 c2 c3 c4 c5 c6 c7 c8 c9 c10 hQ
   have ks1 := Lib.hid (ks.out.below b1 hBQ)
   have hb1 := Lib.hid (hbel.out.trans (b1.mono (by omega)))
   have hw1 := Lib.hid (by have := hb1.out; rw [HB.out] at this; exact this : Below w.heap.size w W1)
   have s0 := ks1.out.cell 0
   have s1 := ks1.out.cell 1
   have s2 := ks1.out.cell 2
   have s3 := ks1.out.cell 3
   have s4 := ks1.out.cell 4
   have s5 := ks1.out.cell 5
   have s6 := ks1.out.cell 6
   have a0 := kA.cell 0
   have a1 := kA.cell 1
   have a2 := kA.cell 2
   have a3 := kA.cell 3
   have a4 := kA.cell 4
   have a5 := kA.cell 5
   have a6 := kA.cell 6
   have a7 := kA.cell 7
   have a8 := kA.cell 8
   have a9 := kA.cell 9
   have a10 := kA.cell 10
   simp only [List.getElem?_cons_zero, List.getElem?_cons_succ] at s0 s1 s2 s3 s4 s5 s6 a0 a1 a2 a3 a4 a5 a6 a7 a8 a9 a10
   clear kA b1 ks hbel
   go_wp2_with fail
   refine (HK2.out W1 hw1.out).mono ?_
   rintro e w2 ⟨rfl, b2⟩
   have ks2 := Lib.hid (ks1.out.below b2 ks1.out.lt)
   have hb2 := Lib.hid (hb1.out.trans (b2.mono (Nat.le_of_lt ks1.out.lt)))
   clear s0 s1 s2 s3 s4 s5 s6 a0 a1 a2 a3 a4 a5 a6 a7 a8 a9 a10 b2 HK2
   cases X
   ·have HRF := Lib.hid (show R = false by rw [HST.out]; simp)
    go_wp2_with fail
    go_ret
    exact ⟨ret_bool HRF.out.symm, by rw [← HB.out]; exact hb2.out⟩
   ·have HRT := Lib.hid (show R = clFrom ts ys (ts.drop (k + 1)) by rw [HST.out]; simp)
    go_wp2_with fail
    go_roundw
    case rel => exact ⟨k + 1, by omega, by go_num, HRT.out, ks2.out, hb2.out⟩
    case measure => simp [intOf]; omega
  ·have HRT := Lib.hid (show R = true by rw [hg.out, ← N1.out.trans (show len = k by omega), List.drop_length]; rfl)
   go_wp2_with fail
   go_ret
   exact ⟨ret_bool HRT.out.symm, by rw [← HB.out]; exact hbel.out⟩
theorem cx_ok {xs : List Int} (h : okB xs = true) (i : Nat) : cx xs i = xs.getD i 0 := if_pos h
theorem four_getD (xs : List Int) (h : xs.length ≤ 4) (i : Nat) : [xs.getD 0 0, xs.getD 1 0, xs.getD 2 0, xs.getD 3 0].getD i 0 = xs.getD i 0 := by
 match i with
 | 0 => rfl
 | 1 => rfl
 | 2 => rfl
 | 3 => rfl
 | i + 4 => simp [List.getD, List.getElem?_eq_none (show xs.length ≤ i + 4 by omega)]
theorem clFrom_closed (ts : List ActT) (n : Nat) (hok : ∀ t ∈ ts, actOkM t.a n = true) : clFrom ts (clockM (ts.map ActT.a) n) ts = closedM (ts.map ActT.a) n := by
 have key : ∀ r : List ActT, (∀ t ∈ r, actOkM t.a n = true) → clFrom ts (clockM (ts.map ActT.a) n) r = (r.map ActT.a).all fun a => leqB a.dep (clockM (ts.map ActT.a) n) && (ts.map ActT.a).all fun b => !decide (b.n ≤ a.dep.getD b.r.toNat 0) || leqB b.dep a.dep := by
  intro r
  induction r with
  | nil => intro _; rfl
  | cons t r ih =>
   intro h
   rw [clFrom, ih (fun x hx => h x (List.mem_cons_of_mem _ hx)), List.map_cons, List.all_cons]
   congr 1
   congr 1
   have hd := ok_dep (h t (by simp))
   have hl := (okB_iff _).1 hd.1
   rw [clIn, List.all_filter, List.all_map]
   congr 1
   funext b
   simp only [Function.comp, knowsT, cx_ok hd.1]
   rw [four_getD t.a.dep hl.2.1]
 exact key ts hok
set_option maxRecDepth 100000 in
set_option maxHeartbeats 1600000 in
theorem isClosed_nil (a : Option Addr) (cap mb n : Nat) (x0 x1 x2 x3 : Int) (w : World) :
  Calls Tryz.prog 78 #[.agg #[.slice a 0 cap, .map (some mb), .int .i64 n, .int .i64 x0, .int .i64 x1, .int .i64 x2, .int .i64 x3]] w fun e w' =>
   e = .returned (.bool true) ∧ Below w.heap.size w w' := by
 have b0 := (Below.refl w.heap.size w).alloc (Nat.le_refl _) (.cells #[.slice a 0 cap, .map (some mb), .int .i64 n, .int .i64 x0, .int .i64 x1, .int .i64 x2, .int .i64 x3] 73)
 go_enter Tryz.func78, Tryz.ntmps78
 go_wp2
 go_loop [8] (fun i => i = .int .i64 0) (fun _ => 0)
 case atStart => exact rfl
 case round =>
  obtain rfl := hrel
  go_wp2
  go_ret
  exact ⟨rfl, b0⟩
theorem isClosed_any (v : Value) (ts : List ActT) (mb n : Nat) (w : World) (h : ActsT w v ts) (hlen : ts.length ≤ 60) (h1 : 1 ≤ n) (hn : n ≤ 4) (hok : ∀ t ∈ ts, actOkM t.a n = true)
  (hys : okB (clockM (ts.map ActT.a) n) = true) (x0 x1 x2 x3 : Int) (e0 : x0 = cx (clockM (ts.map ActT.a) n) 0) (e1 : x1 = cx (clockM (ts.map ActT.a) n) 1) (e2 : x2 = cx (clockM (ts.map ActT.a) n) 2) (e3 : x3 = cx (clockM (ts.map ActT.a) n) 3) :
  Calls Tryz.prog 78 #[.agg #[v, .map (some mb), .int .i64 n, .int .i64 x0, .int .i64 x1, .int .i64 x2, .int .i64 x3]] w fun e w' =>
   e = .returned (.bool (closedM (ts.map ActT.a) n)) ∧ Below w.heap.size w w' := by
 rcases h.2 with ⟨a, cap, rfl, rfl⟩ | ⟨b, off, cap, rfl, q1, q2, q3, q4⟩
 ·exact isClosed_nil a cap mb n x0 x1 x2 x3 w
 ·subst e0
  subst e1
  subst e2
  subst e3
  rw [← clFrom_closed ts n hok]
  exact isClosed_some b off cap _ mb n _ ts w rfl hlen hn q1 (fun t ht => ⟨h.1 t ht, hok t ht⟩) q4 hys (by rw [clockM, clockFrom_length]; simp)
end Go.Proofs.YtghgiefciijoeaaGreatDoor
