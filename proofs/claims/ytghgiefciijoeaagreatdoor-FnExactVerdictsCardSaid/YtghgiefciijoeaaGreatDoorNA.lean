/- The program's hasAllFor: a range over an iterator. -/
import Derived.Test.YtghgiefciijoeaaGreatDoorMG
import Derived.Test.YtghgiefciijoeaaGreatDoorMH
import Derived.Test.YtghgiefciijoeaaGreatDoorMJ
import Derived.Test.YtghgiefciijoeaaGreatDoorMO
import Derived.RangeFuncNested
import Derived.Deep.DeepCutAuto

namespace Go.Proofs.YtghgiefciijoeaaGreatDoor
open Go.RowKit Go.Shelf
set_option linter.unusedVariables false
attribute [local go_sem] Oper.semAt_some
def clIn (ts : List ActT) (dep : List Int) : Bool := (ts.filter (knowsT [cx dep 0, cx dep 1, cx dep 2, cx dep 3])).all fun b => leqB b.a.dep dep
def clFrom (ts : List ActT) (ys : List Int) : List ActT → Bool
 | [] => true
 | t :: r => leqB t.a.dep ys && clIn ts t.a.dep && clFrom ts ys r
theorem clFrom_step (ts : List ActT) (ys : List Int) (l : List ActT) (k : Nat) (h : k < l.length) : clFrom ts ys (l.drop k) = (leqB (l.getD k t0).a.dep ys && clIn ts (l.getD k t0).a.dep && clFrom ts ys (l.drop (k + 1))) := by
 rw [List.drop_eq_getElem_cons h, clFrom]
 simp [List.getD, h]
def GoodT (w : World) (n : Nat) (t : ActT) : Prop := t.Reads w ∧ actOkM t.a n = true
set_option maxRecDepth 100000 in
set_option maxHeartbeats 6400000 in
theorem hasAllFor_some (b off cap len mb n : Nat) (ys : List Int) (ts : List ActT) (t : ActT) (w : World)
  (h1 : ts.length = len) (hlen : len ≤ 60) (hn : n ≤ 4) (hb : b < w.heap.size) (hr : ∀ t ∈ ts, GoodT w n t) (hc : ∀ i, i < len → ActAt w b (off + i * 11) (ts.getD i t0))
  (hys : okB ys = true) (hyl : ys.length = n) (ht : GoodT w n t) :
  Calls Tryz.prog 102 #[.agg #[.slice (some ⟨b, off, none⟩) len cap, .map (some mb), .int .i64 n, .int .i64 (cx ys 0), .int .i64 (cx ys 1), .int .i64 (cx ys 2), .int .i64 (cx ys 3)], t.val] w fun e w' =>
   e = .returned (.bool (leqB t.a.dep ys && clIn ts t.a.dep)) ∧ Below w.heap.size w w' := by
 refine (callsIn_wide (n := 6)).1 ?_
 refine callsIn_of_wp_marks Tryz.func102 rfl trivial ?_ rfl
 simp only [Tryz.ntmps102, List.size_toArray, List.length_cons, List.length_nil, Nat.reduceAdd, Nat.reduceSub, Array.replicate_succ, Array.replicate_zero, List.push_toArray, List.append_toArray, List.nil_append, List.cons_append]
 obtain ⟨⟨r, nn, dep, actor, kind, dst, bucket, mask, gr, gn, ups⟩, vd, vs⟩ := t
 have hsd := ints_len ht.1.1
 have hsu := ups_len ht.1.2
 simp only at hsd hsu
 obtain ⟨da, dc, rfl⟩ := hsd
 obtain ⟨ua, uc, rfl⟩ := hsu
 simp only [ActT.val]
 obtain ⟨x0, hx0⟩ : ∃ x, x = cx ys 0 := ⟨_, rfl⟩
 obtain ⟨x1, hx1⟩ : ∃ x, x = cx ys 1 := ⟨_, rfl⟩
 obtain ⟨x2, hx2⟩ : ∃ x, x = cx ys 2 := ⟨_, rfl⟩
 obtain ⟨x3, hx3⟩ : ∃ x, x = cx ys 3 := ⟨_, rfl⟩
 rw [← hx0, ← hx1, ← hx2, ← hx3]
 have HX := Lib.hid (⟨hx0, hx1, hx2, hx3⟩ : x0 = cx ys 0 ∧ x1 = cx ys 1 ∧ x2 = cx ys 2 ∧ x3 = cx ys 3)
 have HYS := Lib.hid hys
 have HYL := Lib.hid hyl
 have kS : Blk (((w.alloc (.cells #[.slice (some ⟨b, off, none⟩) len cap, .map (some mb), .int .i64 n, .int .i64 x0, .int .i64 x1, .int .i64 x2, .int .i64 x3] 73)).alloc (.cells #[.int .i64 r, .int .i64 nn, .slice da dep.length dc, .int .i64 actor, .int .i64 kind, .int .i64 dst, .int .i64 bucket, .int .i64 mask, .int .i64 gr, .int .i64 gn, .slice ua ups.length uc] 32)).alloc (.cells #[.bool false] 4)) w.heap.size [.slice (some ⟨b, off, none⟩) len cap, .map (some mb), .int .i64 n, .int .i64 x0, .int .i64 x1, .int .i64 x2, .int .i64 x3] := ((Blk.new w _ _).alloc _).alloc _
 have kA : Blk (((w.alloc (.cells #[.slice (some ⟨b, off, none⟩) len cap, .map (some mb), .int .i64 n, .int .i64 x0, .int .i64 x1, .int .i64 x2, .int .i64 x3] 73)).alloc (.cells #[.int .i64 r, .int .i64 nn, .slice da dep.length dc, .int .i64 actor, .int .i64 kind, .int .i64 dst, .int .i64 bucket, .int .i64 mask, .int .i64 gr, .int .i64 gn, .slice ua ups.length uc] 32)).alloc (.cells #[.bool false] 4)) (w.heap.size + 1) [.int .i64 r, .int .i64 nn, .slice da dep.length dc, .int .i64 actor, .int .i64 kind, .int .i64 dst, .int .i64 bucket, .int .i64 mask, .int .i64 gr, .int .i64 gn, .slice ua ups.length uc] := by
  have := (Blk.new (w.alloc (.cells #[.slice (some ⟨b, off, none⟩) len cap, .map (some mb), .int .i64 n, .int .i64 x0, .int .i64 x1, .int .i64 x2, .int .i64 x3] 73)) #[.int .i64 r, .int .i64 nn, .slice da dep.length dc, .int .i64 actor, .int .i64 kind, .int .i64 dst, .int .i64 bucket, .int .i64 mask, .int .i64 gr, .int .i64 gn, .slice ua ups.length uc] 32).alloc (.cells #[.bool false] 4)
  rw [World.size_alloc] at this
  exact this
 have kR : Blk (((w.alloc (.cells #[.slice (some ⟨b, off, none⟩) len cap, .map (some mb), .int .i64 n, .int .i64 x0, .int .i64 x1, .int .i64 x2, .int .i64 x3] 73)).alloc (.cells #[.int .i64 r, .int .i64 nn, .slice da dep.length dc, .int .i64 actor, .int .i64 kind, .int .i64 dst, .int .i64 bucket, .int .i64 mask, .int .i64 gr, .int .i64 gn, .slice ua ups.length uc] 32)).alloc (.cells #[.bool false] 4)) (w.heap.size + 1 + 1) [.bool false] := by
  have := Blk.new ((w.alloc (.cells #[.slice (some ⟨b, off, none⟩) len cap, .map (some mb), .int .i64 n, .int .i64 x0, .int .i64 x1, .int .i64 x2, .int .i64 x3] 73)).alloc (.cells #[.int .i64 r, .int .i64 nn, .slice da dep.length dc, .int .i64 actor, .int .i64 kind, .int .i64 dst, .int .i64 bucket, .int .i64 mask, .int .i64 gr, .int .i64 gn, .slice ua ups.length uc] 32)) #[.bool false] 4
  rw [World.size_alloc, World.size_alloc] at this
  exact this
 have b0 := (((Below.refl w.heap.size w).alloc (Nat.le_refl _) (.cells #[.slice (some ⟨b, off, none⟩) len cap, .map (some mb), .int .i64 n, .int .i64 x0, .int .i64 x1, .int .i64 x2, .int .i64 x3] 73)).alloc (by simp) (.cells #[.int .i64 r, .int .i64 nn, .slice da dep.length dc, .int .i64 actor, .int .i64 kind, .int .i64 dst, .int .i64 bucket, .int .i64 mask, .int .i64 gr, .int .i64 gn, .slice ua ups.length uc] 32)).alloc (by simp <;> omega) (.cells #[.bool false] 4)
 have HC := Lib.hid hc
 have HR := Lib.hid hr
 have HT := Lib.hid ht
 have N1 := Lib.hid h1
 have a2 := kA.cell 2
 simp only [List.getElem?_cons_zero, List.getElem?_cons_succ] at a2
 clear hc hr h1 hx0 hx1 hx2 hx3 hys hyl ht
 obtain ⟨B, hB⟩ : ∃ B, B = w.heap.size := ⟨_, rfl⟩
 have HB := Lib.hid hB
 obtain ⟨R, hR⟩ : ∃ R, R = (leqB dep ys && clIn ts dep) := ⟨_, rfl⟩
 rw [← hR]
 have HRR := Lib.hid hR
 gi_wp2_with fail
 refine ⟨trivial, ?_⟩
 rw [← hB] at kS kA kR b0 ⊢
 generalize (((w.alloc (.cells #[.slice (some ⟨b, off, none⟩) len cap, .map (some mb), .int .i64 n, .int .i64 x0, .int .i64 x1, .int .i64 x2, .int .i64 x3] 73)).alloc (.cells #[.int .i64 r, .int .i64 nn, .slice da dep.length dc, .int .i64 actor, .int .i64 kind, .int .i64 dst, .int .i64 bucket, .int .i64 mask, .int .i64 gr, .int .i64 gn, .slice ua ups.length uc] 32)).alloc (.cells #[.bool false] 4)) = W1 at kS kA kR b0 ⊢
 have KS := Lib.hid kS
 have KA := Lib.hid kA
 have KR := Lib.hid kR
 have B0 := Lib.hid b0
 have HT1 : Hid (ActT.Reads W1 _) := Lib.hid (HT.out.1.below (by rw [← HB.out]; exact b0))
 clear kS kA kR b0 a2 hR hB
 obtain ⟨y0, hy0⟩ : ∃ x, x = cx dep 0 := ⟨_, rfl⟩
 obtain ⟨y1, hy1⟩ : ∃ x, x = cx dep 1 := ⟨_, rfl⟩
 obtain ⟨y2, hy2⟩ : ∃ x, x = cx dep 2 := ⟨_, rfl⟩
 obtain ⟨y3, hy3⟩ : ∃ x, x = cx dep 3 := ⟨_, rfl⟩
 have hokd : okB dep = true := (ok_dep HT.out.2).1
 have hld : dep.length = n := (ok_parts HT.out.2).2.2
 have hcn : cn dep = n := by rw [cn, if_pos hokd, hld]
 have RC : CallsIn Fence.wide 5 Tryz.prog 130 #[.slice da dep.length dc] W1 fun e w' => e = .returned (.tuple #[.agg #[.int .i64 n, .int .i64 y0, .int .i64 y1, .int .i64 y2, .int .i64 y3], .bool true]) ∧ Below W1.heap.size W1 w' := by
  have := readClock_any (.slice da dep.length dc) dep W1 HT1.out.1
  rw [hcn, ← hy0, ← hy1, ← hy2, ← hy3, hokd] at this
  exact callsIn_wide.2 this
 have HY := Lib.hid (⟨hy0, hy1, hy2, hy3⟩ : y0 = cx dep 0 ∧ y1 = cx dep 1 ∧ y2 = cx dep 2 ∧ y3 = cx dep 3)
 have hlq : eqB ((mxk n y0 y1 y2 y3 x0 x1 x2 x3 n).drop 1) [x0, x1, x2, x3] = leqB dep ys := by
  have := leq_math dep ys (by simp [bothB, hokd, HYS.out, hld, HYL.out])
  rw [hcn, ← hy0, ← hy1, ← hy2, ← hy3, ← HX.out.1, ← HX.out.2.1, ← HX.out.2.2.1, ← HX.out.2.2.2] at this
  simpa using this
 obtain ⟨X, hX⟩ : ∃ X, X = leqB dep ys := ⟨_, rfl⟩
 have LQ := fun W => leq_any (n : Int) y0 y1 y2 y3 x0 x1 x2 x3 (n : Int) W (by omega) (by omega)
 rw [Int.toNat_natCast, hlq, ← hX] at LQ
 have hst := HRR.out
 rw [← hX] at hst
 have HST := Lib.hid hst
 have HLQ := Lib.hid LQ
 have HOD := Lib.hid hokd
 have HLD := Lib.hid hld
 clear hst LQ hy0 hy1 hy2 hy3 hokd hld hcn hlq hX HRR
 have lW : B + 3 ≤ W1.heap.size := KR.out.lt
 refine RC.mono ?_
 clear RC
 rintro e w2 ⟨rfl, b2⟩
 have B2 := Lib.hid (B0.out.trans (b2.mono (by omega)))
 have ks2 := Lib.hid (KS.out.below b2 (by omega))
 have ka2 := Lib.hid (KA.out.below b2 (by omega))
 have kr2 := Lib.hid (KR.out.below b2 (by omega))
 have s0 := ks2.out.cell 0
 have s1 := ks2.out.cell 1
 have s2 := ks2.out.cell 2
 have s3 := ks2.out.cell 3
 have s4 := ks2.out.cell 4
 have s5 := ks2.out.cell 5
 have s6 := ks2.out.cell 6
 have r0 := kr2.out.cell 0
 have f0 := kr2.out.free 0
 have lR := kr2.out.lt
 have lS := ks2.out.lt
 have lA := ka2.out.lt
 simp only [List.getElem?_cons_zero, List.getElem?_cons_succ] at s0 s1 s2 s3 s4 s5 s6 r0
 clear b2 lW
 gi_wp2_with fail
 refine ⟨trivial, ?_⟩
 have kC : Blk (w2.alloc (.cells #[.int .i64 n, .int .i64 y0, .int .i64 y1, .int .i64 y2, .int .i64 y3] 71)) w2.heap.size [.int .i64 n, .int .i64 y0, .int .i64 y1, .int .i64 y2, .int .i64 y3] := Blk.new w2 _ _
 have b3 := (Below.refl w2.heap.size w2).alloc (Nat.le_refl _) (.cells #[.int .i64 n, .int .i64 y0, .int .i64 y1, .int .i64 y2, .int .i64 y3] 71)
 obtain ⟨P, hP⟩ : ∃ P, P = w2.heap.size := ⟨_, rfl⟩
 rw [← hP] at kC b3 lR lS lA ⊢
 generalize w2.alloc (.cells #[.int .i64 n, .int .i64 y0, .int .i64 y1, .int .i64 y2, .int .i64 y3] 71) = W3 at kC b3 ⊢
 clear s0 s1 s2 s3 s4 s5 s6 r0 f0
 refine (callsIn_wide.2 (HLQ.out W3)).mono ?_
 rintro e w4 ⟨rfl, b4⟩
 have kC4 := Lib.hid (kC.below b4 kC.lt)
 have b34 := b3.trans (b4.mono (Nat.le_of_lt kC.lt))
 have B4 := Lib.hid (B2.out.trans (b34.mono (by omega)))
 have ks4 := Lib.hid (ks2.out.below b34 (by omega))
 have ka4 := Lib.hid (ka2.out.below b34 (by omega))
 have kr4 := Lib.hid (kr2.out.below b34 (by omega))
 clear kC b3 b4 b34 ks2 kr2 ka2 B2 lR lS lA hP
 have s0 := ks4.out.cell 0
 have s1 := ks4.out.cell 1
 have s2 := ks4.out.cell 2
 have s3 := ks4.out.cell 3
 have s4 := ks4.out.cell 4
 have s5 := ks4.out.cell 5
 have s6 := ks4.out.cell 6
 have q0 := kC4.out.cell 0
 have q1 := kC4.out.cell 1
 have q2 := kC4.out.cell 2
 have q3 := kC4.out.cell 3
 have q4 := kC4.out.cell 4
 have r0 := kr4.out.cell 0
 have f0 := kr4.out.free 0
 simp only [List.getElem?_cons_zero, List.getElem?_cons_succ] at s0 s1 s2 s3 s4 s5 s6 q0 q1 q2 q3 q4 r0
 cases X
 ·have hRF : R = false := by rw [HST.out]; simp
  gi_wp2_with fail
  subst hRF
  refine leaves_marks [] _ List.nodup_nil (fun D hD => nomatch hD) (fun W' hW' => ?_)
  have hc5 := hW'.cell (fun D hD => nomatch hD) (World.cell?_setCell_same' w4 ⟨B + 1 + 1, 0, none⟩ (.bool false) (by rw [r0]; rfl))
  refine ⟨.bool false, by simp [results, Tryz.f102, go_sem, hc5], rfl, ?_⟩
  rw [← HB.out]
  exact (B4.out.setCell (p := ⟨B + 1 + 1, 0, none⟩) (by simp <;> omega) _).trans (hW'.below (fun D hD => nomatch hD))
 ·have hRS : R = clIn ts dep := by rw [HST.out]; simp
  have HRS := Lib.hid hRS
  clear hRS HST
  gi_wp2_with fail
  refine ⟨trivial, (callsIn_wide.2 (upTo_any _ _ _ _ _ _ _ _ _ _ _ _ _ _ w4)).mono ?_⟩
  rintro e w6 ⟨SB, FB, rfl, hSB, hFB, kS6, kF6, b6⟩
  have l4 := kr4.out.lt
  have B6 := Lib.hid (B4.out.trans (b6.mono (by omega)))
  have kC6 := Lib.hid (kC4.out.below b6 kC4.out.lt)
  have ks6 := Lib.hid (ks4.out.below b6 ks4.out.lt)
  have ka6 := Lib.hid (ka4.out.below b6 ka4.out.lt)
  have kr6 := Lib.hid (kr4.out.below b6 kr4.out.lt)
  have lSB := kS6.lt
  have lFB := kF6.lt
  clear kC4 ks4 ka4 kr4 B4 s0 s1 s2 s3 s4 s5 s6 q0 q1 q2 q3 q4 r0 f0 b6 hSB hFB l4
  gi_wp2_with fail
  have hBw6 : Below w.heap.size w w6 := by have := B6.out; rw [HB.out] at this; exact this
  have HRG := Lib.hid (fun t ht => ((HR.out t ht).1.below hBw6 : ActT.Reads w6 t))
  have h3 : B + 3 ≤ w6.heap.size := kr6.out.lt
  have hws : w.heap.size ≤ w6.heap.size := by rw [← HB.out]; omega
  have hK6 : ∀ t ∈ ts, GoodT w6 n t := fun t ht => ⟨HRG.out t ht, (HR.out t ht).2⟩
  refine wpIn_rangeFunc_ownH rfl (by omega) (gf := 166) (lb := #[.pointer (some ⟨SB, 0, none⟩), .pointer (some ⟨FB, 0, none⟩)]) rfl trivial (enters_of Tryz.func166 (by kernel_rfl) rfl)
   (those1_stops 5 (by omega) SB FB b off cap len (.map (some mb)) n x0 x1 x2 x3 n y0 y1 y2 y3 ts (GoodT w6 n) hK6 w6 N1.out (by omega) (Nat.lt_of_lt_of_le hb hws) lSB lFB
    (fun t ht => ⟨(hK6 t ht).1, (ok_parts (hK6 t ht).2).1, by have := (ok_parts (hK6 t ht).2).2.1; omega⟩) (fun i hi => (HC.out i hi).below hBw6 hb) kS6 kF6)
   belowK_t (belowK_b (Nat.le_refl _)) (Below.refl _ _) (fun _ => rfl)
   (fun pre W => (∀ y ∈ pre, leqB y.1.a.dep dep = true) ∧ Below w6.heap.size w6 W)
   (fun c pre W => (c = .ret ∧ ∃ y ∈ pre, leqB y.1.a.dep dep = false) ∧ Below B w W ∧ Blk W (B + 1 + 1) [.bool false])
   ?hI ?hIx ⟨by simp, Below.refl _ _⟩
   (fun x a' W => ∃ Bx, w6.heap.size ≤ Bx ∧ Blk W Bx (.int .i64 x.1.a.r :: [.int .i64 x.1.a.n, x.1.vd, .int .i64 x.1.a.actor, .int .i64 x.1.a.kind, .int .i64 x.1.a.to, .int .i64 x.1.a.bucket, .int .i64 x.1.a.mask, .int .i64 x.1.a.gr, .int .i64 x.1.a.gn, x.1.vs]) ∧ a' = { tmps := List.toArray (.agg #[.slice (some ⟨b, off, none⟩) len cap, .map (some mb), .int .i64 n, .int .i64 x0, .int .i64 x1, .int .i64 x2, .int .i64 x3] :: .agg #[.int .i64 r, .int .i64 nn, .slice da dep.length dc, .int .i64 actor, .int .i64 kind, .int .i64 dst, .int .i64 bucket, .int .i64 mask, .int .i64 gr, .int .i64 gn, .slice ua ups.length uc] :: .pointer (some ⟨B, 0, none⟩) :: .pointer (some ⟨B + 1, 0, none⟩) :: .pointer (some ⟨B + 1 + 1, 0, none⟩) :: .pointer (some ⟨P, 0, none⟩) :: .bool true :: .pointer (some ⟨Bx, 0, none⟩) :: .tuple #[.agg #[.int .i64 n, .int .i64 y0, .int .i64 y1, .int .i64 y2, .int .i64 y3], .bool true] :: .pointer (some ⟨B + 1, 2, none⟩) :: .slice da dep.length dc :: .tuple #[.agg #[.int .i64 n, .int .i64 y0, .int .i64 y1, .int .i64 y2, .int .i64 y3], .bool true] :: .agg #[.int .i64 n, .int .i64 y0, .int .i64 y1, .int .i64 y2, .int .i64 y3] :: .bool true :: .agg #[.int .i64 n, .int .i64 y0, .int .i64 y1, .int .i64 y2, .int .i64 y3] :: .pointer (some ⟨B, 2, none⟩) :: .agg #[.int .i64 n, .int .i64 x0, .int .i64 x1, .int .i64 x2, .int .i64 x3] :: .bool true :: .bool false :: .agg #[.slice (some ⟨b, off, none⟩) len cap, .map (some mb), .int .i64 n, .int .i64 x0, .int .i64 x1, .int .i64 x2, .int .i64 x3] :: .agg #[.int .i64 n, .int .i64 y0, .int .i64 y1, .int .i64 y2, .int .i64 y3] :: .func (.func 166) #[] #[.pointer (some ⟨SB, 0, none⟩), .pointer (some ⟨FB, 0, none⟩)] :: x.1.val :: undef :: undef :: undef :: undef :: undef :: undef :: []), defers := [] })
   ?hAx ?assign ?body ?done ?stop
  case hI => exact OwnFrom.and (fun _ _ _ _ h _ _ => h) (ownFrom_below (Nat.le_refl _) (Nat.le_refl _))
  case hIx =>
   intro c
   refine OwnFrom.and (fun _ _ _ _ h _ _ => h) (OwnFrom.and (ownFrom_below (Nat.le_of_eq HB.out) (by rw [HB.out]; exact hws)) (Blk.ownFrom kr6.out.lt))
  case hAx =>
   rintro x a' _ V V' row ⟨Bx, h1, h2, h3⟩ hg hr
   exact ⟨Bx, h1, Blk.cellsOwn (K := w6.heap.size) () V V' row h2 hg hr, h3⟩
  case assign =>
   rintro l pre ⟨⟨⟨r', n', dep', actor', kind', dst', bucket', mask', gr', gn', ups'⟩, vd', vs'⟩, hx⟩ V K hi hK
   obtain ⟨da', dc', hvd⟩ := ints_len hx.1.1
   obtain ⟨ua', uc', hvs⟩ := ups_len hx.1.2
   simp only at hvd hvs
   subst hvd
   subst hvs
   simp only [ActT.val]
   gi_wp2
   exact hK _ _ ((KeepsOthers.alloc _ _).from _) ((Below.refl _ V).alloc hi.2.size _) ⟨hi.1, hi.2.alloc hi.2.size _⟩ ⟨V.heap.size, hi.2.size, Blk.new V _ _, rfl⟩
  case body =>
   rintro l pre ⟨⟨⟨r', n', dep', actor', kind', dst', bucket', mask', gr', gn', ups'⟩, vd', vs'⟩, hx⟩ a' V hl ⟨rc, hrc⟩ ⟨hpre, hbV⟩ ⟨Bx, hBx, kX, rfl⟩ hlt'
   obtain ⟨da', dc', hvd⟩ := ints_len hx.1.1
   obtain ⟨ua', uc', hvs⟩ := ups_len hx.1.2
   simp only at hvd hvs
   subst hvd
   subst hvs
   have e2 := kX.cell 2
   have a2 := (ka6.out.below hbV ka6.out.lt).cell 2
   simp only [List.getElem?_cons_zero, List.getElem?_cons_succ] at e2 a2
   have i1 : Ints V (.slice da' dep'.length dc') dep' := hx.1.1.below (B := 0) hbV
   have i2 : Ints V (.slice da dep.length dc) dep := (HT.out.1.below hBw6).1.below (B := 0) hbV
   have CL := ClockLeq_any _ _ dep' dep V i1 i2
   have hlq : spLeq dep' dep = leqB dep' dep := by simp [spLeq, bothB, (ok_dep hx.2).1, HOD.out, (ok_parts hx.2).2.2, HLD.out]
   rw [hlq] at CL
   obtain ⟨Y, hY⟩ : ∃ Y, Y = leqB dep' dep := ⟨_, rfl⟩
   rw [← hY] at CL
   have HY2 := Lib.hid hY
   have HPRE := Lib.hid hpre
   have HBV := Lib.hid hbV
   clear hY hlq i1 i2 hpre hbV kX
   gi_wp2_with fail
   refine ⟨trivial, (CallsIn.inRound l (callsIn_wide.2 CL)).mono ?_⟩
   clear CL e2 a2
   rintro e V2 ⟨rfl, bV⟩
   have HB2 := Lib.hid (HBV.out.trans (bV.mono HBV.out.size))
   have kr7 := Lib.hid (kr6.out.below HB2.out kr6.out.lt)
   have r0 := kr7.out.cell 0
   have f0 := kr7.out.free 0
   simp only [List.getElem?_cons_zero] at r0
   have hb7 := Lib.hid (B6.out.trans (HB2.out.mono (by omega)))
   have HKV := Lib.hid bV
   clear bV
   cases Y
   ·gi_wp2_with fail
    refine ⟨(below_keeps HKV.out).trans ((KeepsOthers.setCell _ _ _).from _), ⟨rfl, _, List.mem_append.2 (.inr (List.mem_singleton.2 rfl)), HY2.out.symm⟩, hb7.out.setCell (p := ⟨B + 1 + 1, 0, none⟩) (by simp <;> omega) _, ?_⟩
    exact kr7.out.set (j := 0) (by simp) (.bool false)
   ·gi_wp2_with fail
    refine ⟨below_keeps HKV.out, HKV.out.mono HBV.out.size, ?_, HB2.out⟩
    intro y hy
    rcases List.mem_append.1 hy with hy | hy
    ·exact HPRE.out y hy
    ·obtain rfl := List.mem_singleton.1 hy
     exact HY2.out.symm
  case done =>
   rintro D zs V hD hS ⟨hpre, hbV⟩ hK
   have hcl : clIn ts dep = true := by
    rw [clIn, ← HY.out.1, ← HY.out.2.1, ← HY.out.2.2.1, ← HY.out.2.2.2, ← hS]
    simp only [List.all_map, List.all_eq_true]
    exact hpre
   have krV := kr6.out.below hbV kr6.out.lt
   have hwV := B6.out.trans (hbV.mono (by omega))
   have hRV : R = true := by rw [HRS.out, hcl]
   have r0 := krV.cell 0
   have f0 := krV.free 0
   simp only [List.getElem?_cons_zero] at r0
   gi_wp2_with fail
   subst hRV
   have hmk : ∀ E ∈ [D], (V.setCell ⟨B + 1 + 1, 0, none⟩ (.bool true)).heap[E]? = some (.deferred (some [])) := fun E hE => (KeepsOthers.setCell V ⟨B + 1 + 1, 0, none⟩ (.bool true)).same E _ (List.mem_singleton.1 hE ▸ hK) rfl
   refine leaves_marks [D] _ (List.nodup_cons.2 ⟨List.not_mem_nil, List.nodup_nil⟩) hmk (fun W' hW' => ?_)
   have hc5 := hW'.cell hmk (World.cell?_setCell_same' V ⟨B + 1 + 1, 0, none⟩ (.bool true) (by rw [r0]; rfl))
   refine ⟨.bool true, by simp [results, Tryz.f102, go_sem, hc5], rfl, ?_⟩
   rw [← HB.out]
   exact (hwV.setCell (p := ⟨B + 1 + 1, 0, none⟩) (by simp <;> omega) _).trans (hW'.below (fun E hE => by rw [List.mem_singleton.1 hE]; omega))
  case stop =>
   rintro D c pre V hD hSp ⟨⟨rfl, y, hy, hyf⟩, hbV, kV⟩ hK
   have hRF : R = false := by
    rw [HRS.out, clIn, ← HY.out.1, ← HY.out.2.1, ← HY.out.2.2.1, ← HY.out.2.2.2]
    refine List.all_eq_false.2 ⟨y.1, hSp.subset (List.mem_map_of_mem hy), by simp [hyf]⟩
   gi_wp2_with fail
   subst hRF
   have hmk : ∀ E ∈ [D], V.heap[E]? = some (.deferred (some [])) := fun E hE => List.mem_singleton.1 hE ▸ hK
   refine leaves_marks [D] _ (List.nodup_cons.2 ⟨List.not_mem_nil, List.nodup_nil⟩) hmk (fun W' hW' => ?_)
   have hc5 := hW'.cell hmk (kV.cell 0)
   refine ⟨.bool false, by simp [results, Tryz.f102, go_sem, hc5], rfl, ?_⟩
   rw [← HB.out]
   exact hbV.trans (hW'.below (fun E hE => by rw [List.mem_singleton.1 hE]; omega))
end Go.Proofs.YtghgiefciijoeaaGreatDoor
