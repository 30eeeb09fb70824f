/- NA, NB, NC, ND, MM. -/
import Derived.Test.YtkcfcmigcphjlaaGreatGC
import Derived.Test.YtkcfcmigcphjlaaGreatMJ
import Derived.Test.YtkcfcmigcphjlaaGreatGAA
import Derived.Test.YtkcfcmigcphjlaaGreatCI
import Derived.RangeFuncNested
import Derived.Deep.DeepCutAuto






namespace Go.Proofs.YtkcfcmigcphjlaaGreat
open Go.RowKit Go.Shelf
set_option linter.unusedVariables false
attribute [local go_sem] Oper.semAt_some

/-- what an act knows: its numbers are no more than the act's -/
def clIn (ts : List ActT) (dep : List Int) : Bool := (ts.filter (knowsT [cx dep 0, cx dep 1, cx dep 2, cx dep 3])).all fun b => leqB b.a.dep dep
def clFrom (ts : List ActT) (ys : List Int) : List ActT → Bool
  | [] => true
  | t :: r => leqB t.a.dep ys && clIn ts t.a.dep && clFrom ts ys r
theorem clFrom_step (ts : List ActT) (ys : List Int) (l : List ActT) (k : Nat) (h : k < l.length) : clFrom ts ys (l.drop k) = (leqB (l.getD k t0).a.dep ys && clIn ts (l.getD k t0).a.dep && clFrom ts ys (l.drop (k + 1))) := by
  rw [List.drop_eq_getElem_cons h, clFrom]
  simp [List.getD, h]
/-- of an act: it reads in w, and it is a good one -/
def GoodT (w : World) (n : Nat) (t : ActT) : Prop := t.Reads w ∧ actOkM t.a n = true

set_option maxRecDepth 100000 in
set_option maxHeartbeats 6400000 in
theorem hasAllFor_some (b off cap len mb n : Nat) (ys : List Int) (ts : List ActT) (t : ActT) (w : World)
    (h1 : ts.length = len) (hlen : len ≤ 60) (hn : n ≤ 4) (hb : b < w.heap.size) (hr : ∀ t ∈ ts, GoodT w n t) (hc : ∀ i, i < len → ActAt w b (off + i * 11) (ts.getD i t0))
    (hys : okB ys = true) (hyl : ys.length = n) (ht : GoodT w n t) :
    Calls Tryz.prog 101 #[.agg #[.slice (some ⟨b, off, none⟩) len cap, .map (some mb), .int .i64 n, .int .i64 (cx ys 0), .int .i64 (cx ys 1), .int .i64 (cx ys 2), .int .i64 (cx ys 3)], t.val] w fun e w' =>
      e = .returned (.bool (leqB t.a.dep ys && clIn ts t.a.dep)) ∧ Below w.heap.size w w' := by
  refine (callsIn_wide (n := 6)).1 ?_
  refine callsIn_of_wp_marks Tryz.func101 rfl trivial ?_ rfl
  simp only [Tryz.ntmps101, List.size_toArray, List.length_cons, List.length_nil, Nat.reduceAdd, Nat.reduceSub, Array.replicate_succ, Array.replicate_zero, List.push_toArray, List.append_toArray, List.nil_append, List.cons_append]
  obtain ⟨⟨r, nn, dep, actor, kind, dst, bucket, mask, gr, gn, ups⟩, vd, vs⟩ := t
  have hsd := ints_len ht.1.1
  have hsu := ups_len ht.1.2
  simp only at hsd hsu
  obtain ⟨da, dc, rfl⟩ := hsd
  obtain ⟨ua, uc, rfl⟩ := hsu
  simp only [ActT.val]
  obtain ⟨x0, hx0⟩ : ∃ x, x = cx ys 0 := ⟨_, rfl⟩
  obtain ⟨x1, hx1⟩ : ∃ x, x = cx ys 1 := ⟨_, rfl⟩
  obtain ⟨x2, hx2⟩ : ∃ x, x = cx ys 2 := ⟨_, rfl⟩
  obtain ⟨x3, hx3⟩ : ∃ x, x = cx ys 3 := ⟨_, rfl⟩
  rw [← hx0, ← hx1, ← hx2, ← hx3]
  have HX := Lib.hid (⟨hx0, hx1, hx2, hx3⟩ : x0 = cx ys 0 ∧ x1 = cx ys 1 ∧ x2 = cx ys 2 ∧ x3 = cx ys 3)
  have HYS := Lib.hid hys
  have HYL := Lib.hid hyl
  have kS : Blk (((w.alloc (.cells #[.slice (some ⟨b, off, none⟩) len cap, .map (some mb), .int .i64 n, .int .i64 x0, .int .i64 x1, .int .i64 x2, .int .i64 x3] 57)).alloc (.cells #[.int .i64 r, .int .i64 nn, .slice da dep.length dc, .int .i64 actor, .int .i64 kind, .int .i64 dst, .int .i64 bucket, .int .i64 mask, .int .i64 gr, .int .i64 gn, .slice ua ups.length uc] 33)).alloc (.cells #[.bool false] 4)) w.heap.size [.slice (some ⟨b, off, none⟩) len cap, .map (some mb), .int .i64 n, .int .i64 x0, .int .i64 x1, .int .i64 x2, .int .i64 x3] := ((Blk.new w _ _).alloc _).alloc _
  have kA : Blk (((w.alloc (.cells #[.slice (some ⟨b, off, none⟩) len cap, .map (some mb), .int .i64 n, .int .i64 x0, .int .i64 x1, .int .i64 x2, .int .i64 x3] 57)).alloc (.cells #[.int .i64 r, .int .i64 nn, .slice da dep.length dc, .int .i64 actor, .int .i64 kind, .int .i64 dst, .int .i64 bucket, .int .i64 mask, .int .i64 gr, .int .i64 gn, .slice ua ups.length uc] 33)).alloc (.cells #[.bool false] 4)) (w.heap.size + 1) [.int .i64 r, .int .i64 nn, .slice da dep.length dc, .int .i64 actor, .int .i64 kind, .int .i64 dst, .int .i64 bucket, .int .i64 mask, .int .i64 gr, .int .i64 gn, .slice ua ups.length uc] := by
    have := (Blk.new (w.alloc (.cells #[.slice (some ⟨b, off, none⟩) len cap, .map (some mb), .int .i64 n, .int .i64 x0, .int .i64 x1, .int .i64 x2, .int .i64 x3] 57)) #[.int .i64 r, .int .i64 nn, .slice da dep.length dc, .int .i64 actor, .int .i64 kind, .int .i64 dst, .int .i64 bucket, .int .i64 mask, .int .i64 gr, .int .i64 gn, .slice ua ups.length uc] 33).alloc (.cells #[.bool false] 4)
    rw [World.size_alloc] at this
    exact this
  have kR : Blk (((w.alloc (.cells #[.slice (some ⟨b, off, none⟩) len cap, .map (some mb), .int .i64 n, .int .i64 x0, .int .i64 x1, .int .i64 x2, .int .i64 x3] 57)).alloc (.cells #[.int .i64 r, .int .i64 nn, .slice da dep.length dc, .int .i64 actor, .int .i64 kind, .int .i64 dst, .int .i64 bucket, .int .i64 mask, .int .i64 gr, .int .i64 gn, .slice ua ups.length uc] 33)).alloc (.cells #[.bool false] 4)) (w.heap.size + 1 + 1) [.bool false] := by
    have := Blk.new ((w.alloc (.cells #[.slice (some ⟨b, off, none⟩) len cap, .map (some mb), .int .i64 n, .int .i64 x0, .int .i64 x1, .int .i64 x2, .int .i64 x3] 57)).alloc (.cells #[.int .i64 r, .int .i64 nn, .slice da dep.length dc, .int .i64 actor, .int .i64 kind, .int .i64 dst, .int .i64 bucket, .int .i64 mask, .int .i64 gr, .int .i64 gn, .slice ua ups.length uc] 33)) #[.bool false] 4
    rw [World.size_alloc, World.size_alloc] at this
    exact this
  have b0 := (((Below.refl w.heap.size w).alloc (Nat.le_refl _) (.cells #[.slice (some ⟨b, off, none⟩) len cap, .map (some mb), .int .i64 n, .int .i64 x0, .int .i64 x1, .int .i64 x2, .int .i64 x3] 57)).alloc (by simp) (.cells #[.int .i64 r, .int .i64 nn, .slice da dep.length dc, .int .i64 actor, .int .i64 kind, .int .i64 dst, .int .i64 bucket, .int .i64 mask, .int .i64 gr, .int .i64 gn, .slice ua ups.length uc] 33)).alloc (by simp <;> omega) (.cells #[.bool false] 4)
  have HC := Lib.hid hc
  have HR := Lib.hid hr
  have HT := Lib.hid ht
  have N1 := Lib.hid h1
  have a2 := kA.cell 2
  simp only [List.getElem?_cons_zero, List.getElem?_cons_succ] at a2
  clear hc hr h1 hx0 hx1 hx2 hx3 hys hyl ht
  obtain ⟨B, hB⟩ : ∃ B, B = w.heap.size := ⟨_, rfl⟩
  have HB := Lib.hid hB
  obtain ⟨R, hR⟩ : ∃ R, R = (leqB dep ys && clIn ts dep) := ⟨_, rfl⟩
  rw [← hR]
  have HRR := Lib.hid hR
  gi_wp2_with fail
  refine ⟨trivial, ?_⟩
  rw [← hB] at kS kA kR b0 ⊢
  generalize (((w.alloc (.cells #[.slice (some ⟨b, off, none⟩) len cap, .map (some mb), .int .i64 n, .int .i64 x0, .int .i64 x1, .int .i64 x2, .int .i64 x3] 57)).alloc (.cells #[.int .i64 r, .int .i64 nn, .slice da dep.length dc, .int .i64 actor, .int .i64 kind, .int .i64 dst, .int .i64 bucket, .int .i64 mask, .int .i64 gr, .int .i64 gn, .slice ua ups.length uc] 33)).alloc (.cells #[.bool false] 4)) = W1 at kS kA kR b0 ⊢
  have KS := Lib.hid kS
  have KA := Lib.hid kA
  have KR := Lib.hid kR
  have B0 := Lib.hid b0
  have HT1 : Hid (ActT.Reads W1 _) := Lib.hid (HT.out.1.below (by rw [← HB.out]; exact b0))
  clear kS kA kR b0 a2 hR hB
  obtain ⟨y0, hy0⟩ : ∃ x, x = cx dep 0 := ⟨_, rfl⟩
  obtain ⟨y1, hy1⟩ : ∃ x, x = cx dep 1 := ⟨_, rfl⟩
  obtain ⟨y2, hy2⟩ : ∃ x, x = cx dep 2 := ⟨_, rfl⟩
  obtain ⟨y3, hy3⟩ : ∃ x, x = cx dep 3 := ⟨_, rfl⟩
  have hokd : okB dep = true := (ok_dep HT.out.2).1
  have hld : dep.length = n := (ok_parts HT.out.2).2.2
  have hcn : cn dep = n := by rw [cn, if_pos hokd, hld]
  have RC : CallsIn Fence.wide 5 Tryz.prog 47 #[.slice da dep.length dc] W1 fun e w' => e = .returned (.tuple #[.agg #[.int .i64 n, .int .i64 y0, .int .i64 y1, .int .i64 y2, .int .i64 y3], .bool true]) ∧ Below W1.heap.size W1 w' := by
    have := readClock_any (.slice da dep.length dc) dep W1 HT1.out.1
    rw [hcn, ← hy0, ← hy1, ← hy2, ← hy3, hokd] at this
    exact callsIn_wide.2 this
  have HY := Lib.hid (⟨hy0, hy1, hy2, hy3⟩ : y0 = cx dep 0 ∧ y1 = cx dep 1 ∧ y2 = cx dep 2 ∧ y3 = cx dep 3)
  have hlq : eqB ((mxk n y0 y1 y2 y3 x0 x1 x2 x3 n).drop 1) [x0, x1, x2, x3] = leqB dep ys := by
    have := leq_math dep ys (by simp [bothB, hokd, HYS.out, hld, HYL.out])
    rw [hcn, ← hy0, ← hy1, ← hy2, ← hy3, ← HX.out.1, ← HX.out.2.1, ← HX.out.2.2.1, ← HX.out.2.2.2] at this
    simpa using this
  obtain ⟨X, hX⟩ : ∃ X, X = leqB dep ys := ⟨_, rfl⟩
  have LQ := fun W => leq_any (n : Int) y0 y1 y2 y3 x0 x1 x2 x3 (n : Int) W (by omega) (by omega)
  rw [Int.toNat_natCast, hlq, ← hX] at LQ
  have hst := HRR.out
  rw [← hX] at hst
  have HST := Lib.hid hst
  have HLQ := Lib.hid LQ
  have HOD := Lib.hid hokd
  have HLD := Lib.hid hld
  clear hst LQ hy0 hy1 hy2 hy3 hokd hld hcn hlq hX HRR
  have lW : B + 3 ≤ W1.heap.size := KR.out.lt
  refine RC.mono ?_
  clear RC
  rintro e w2 ⟨rfl, b2⟩
  have B2 := Lib.hid (B0.out.trans (b2.mono (by omega)))
  have ks2 := Lib.hid (KS.out.below b2 (by omega))
  have ka2 := Lib.hid (KA.out.below b2 (by omega))
  have kr2 := Lib.hid (KR.out.below b2 (by omega))
  have s0 := ks2.out.cell 0
  have s1 := ks2.out.cell 1
  have s2 := ks2.out.cell 2
  have s3 := ks2.out.cell 3
  have s4 := ks2.out.cell 4
  have s5 := ks2.out.cell 5
  have s6 := ks2.out.cell 6
  have r0 := kr2.out.cell 0
  have f0 := kr2.out.free 0
  have lR := kr2.out.lt
  have lS := ks2.out.lt
  have lA := ka2.out.lt
  simp only [List.getElem?_cons_zero, List.getElem?_cons_succ] at s0 s1 s2 s3 s4 s5 s6 r0
  clear b2 lW
  gi_wp2_with fail
  refine ⟨trivial, ?_⟩
  have kC : Blk (w2.alloc (.cells #[.int .i64 n, .int .i64 y0, .int .i64 y1, .int .i64 y2, .int .i64 y3] 55)) w2.heap.size [.int .i64 n, .int .i64 y0, .int .i64 y1, .int .i64 y2, .int .i64 y3] := Blk.new w2 _ _
  have b3 := (Below.refl w2.heap.size w2).alloc (Nat.le_refl _) (.cells #[.int .i64 n, .int .i64 y0, .int .i64 y1, .int .i64 y2, .int .i64 y3] 55)
  obtain ⟨P, hP⟩ : ∃ P, P = w2.heap.size := ⟨_, rfl⟩
  rw [← hP] at kC b3 lR lS lA ⊢
  generalize w2.alloc (.cells #[.int .i64 n, .int .i64 y0, .int .i64 y1, .int .i64 y2, .int .i64 y3] 55) = W3 at kC b3 ⊢
  clear s0 s1 s2 s3 s4 s5 s6 r0 f0
  refine (callsIn_wide.2 (HLQ.out W3)).mono ?_
  rintro e w4 ⟨rfl, b4⟩
  have kC4 := Lib.hid (kC.below b4 kC.lt)
  have b34 := b3.trans (b4.mono (Nat.le_of_lt kC.lt))
  have B4 := Lib.hid (B2.out.trans (b34.mono (by omega)))
  have ks4 := Lib.hid (ks2.out.below b34 (by omega))
  have ka4 := Lib.hid (ka2.out.below b34 (by omega))
  have kr4 := Lib.hid (kr2.out.below b34 (by omega))
  clear kC b3 b4 b34 ks2 kr2 ka2 B2 lR lS lA hP
  have s0 := ks4.out.cell 0
  have s1 := ks4.out.cell 1
  have s2 := ks4.out.cell 2
  have s3 := ks4.out.cell 3
  have s4 := ks4.out.cell 4
  have s5 := ks4.out.cell 5
  have s6 := ks4.out.cell 6
  have q0 := kC4.out.cell 0
  have q1 := kC4.out.cell 1
  have q2 := kC4.out.cell 2
  have q3 := kC4.out.cell 3
  have q4 := kC4.out.cell 4
  have r0 := kr4.out.cell 0
  have f0 := kr4.out.free 0
  simp only [List.getElem?_cons_zero, List.getElem?_cons_succ] at s0 s1 s2 s3 s4 s5 s6 q0 q1 q2 q3 q4 r0
  cases X
  · have hRF : R = false := by rw [HST.out]; simp
    gi_wp2_with fail
    subst hRF
    refine leaves_marks [] _ List.nodup_nil (fun D hD => nomatch hD) (fun W' hW' => ?_)
    have hc5 := hW'.cell (fun D hD => nomatch hD) (World.cell?_setCell_same' w4 ⟨B + 1 + 1, 0, none⟩ (.bool false) (by rw [r0]; rfl))
    refine ⟨.bool false, by simp [results, Tryz.f101, go_sem, hc5], rfl, ?_⟩
    rw [← HB.out]
    exact (B4.out.setCell (p := ⟨B + 1 + 1, 0, none⟩) (by simp <;> omega) _).trans (hW'.below (fun D hD => nomatch hD))
  · have hRS : R = clIn ts dep := by rw [HST.out]; simp
    have HRS := Lib.hid hRS
    clear hRS HST
    gi_wp2_with fail
    refine ⟨trivial, (callsIn_wide.2 (upTo_any _ _ _ _ _ _ _ _ _ _ _ _ _ _ w4)).mono ?_⟩
    rintro e w6 ⟨SB, FB, rfl, hSB, hFB, kS6, kF6, b6⟩
    have l4 := kr4.out.lt
    have B6 := Lib.hid (B4.out.trans (b6.mono (by omega)))
    have kC6 := Lib.hid (kC4.out.below b6 kC4.out.lt)
    have ks6 := Lib.hid (ks4.out.below b6 ks4.out.lt)
    have ka6 := Lib.hid (ka4.out.below b6 ka4.out.lt)
    have kr6 := Lib.hid (kr4.out.below b6 kr4.out.lt)
    have lSB := kS6.lt
    have lFB := kF6.lt
    clear kC4 ks4 ka4 kr4 B4 s0 s1 s2 s3 s4 s5 s6 q0 q1 q2 q3 q4 r0 f0 b6 hSB hFB l4
    gi_wp2_with fail
    have hBw6 : Below w.heap.size w w6 := by have := B6.out; rw [HB.out] at this; exact this
    have HRG := Lib.hid (fun t ht => ((HR.out t ht).1.below hBw6 : ActT.Reads w6 t))
    have h3 : B + 3 ≤ w6.heap.size := kr6.out.lt
    have hws : w.heap.size ≤ w6.heap.size := by rw [← HB.out]; omega
    have hK6 : ∀ t ∈ ts, GoodT w6 n t := fun t ht => ⟨HRG.out t ht, (HR.out t ht).2⟩
    refine wpIn_rangeFunc_ownH rfl (by omega) (gf := 111) (lb := #[.pointer (some ⟨SB, 0, none⟩), .pointer (some ⟨FB, 0, none⟩)]) rfl trivial (enters_of Tryz.func111 (by kernel_rfl) rfl)
      (those1_stops 5 (by omega) SB FB b off cap len (.map (some mb)) n x0 x1 x2 x3 n y0 y1 y2 y3 ts (GoodT w6 n) hK6 w6 N1.out (by omega) (Nat.lt_of_lt_of_le hb hws) lSB lFB
        (fun t ht => ⟨(hK6 t ht).1, (ok_parts (hK6 t ht).2).1, by have := (ok_parts (hK6 t ht).2).2.1; omega⟩) (fun i hi => (HC.out i hi).below hBw6 hb) kS6 kF6)
      belowK_t (belowK_b (Nat.le_refl _)) (Below.refl _ _) (fun _ => rfl)
      (fun pre W => (∀ y ∈ pre, leqB y.1.a.dep dep = true) ∧ Below w6.heap.size w6 W)
      (fun c pre W => (c = .ret ∧ ∃ y ∈ pre, leqB y.1.a.dep dep = false) ∧ Below B w W ∧ Blk W (B + 1 + 1) [.bool false])
      ?hI ?hIx ⟨by simp, Below.refl _ _⟩
      (fun x a' W => ∃ Bx, w6.heap.size ≤ Bx ∧ Blk W Bx (.int .i64 x.1.a.r :: [.int .i64 x.1.a.n, x.1.vd, .int .i64 x.1.a.actor, .int .i64 x.1.a.kind, .int .i64 x.1.a.to, .int .i64 x.1.a.bucket, .int .i64 x.1.a.mask, .int .i64 x.1.a.gr, .int .i64 x.1.a.gn, x.1.vs]) ∧ a' = { tmps := List.toArray (.agg #[.slice (some ⟨b, off, none⟩) len cap, .map (some mb), .int .i64 n, .int .i64 x0, .int .i64 x1, .int .i64 x2, .int .i64 x3] :: .agg #[.int .i64 r, .int .i64 nn, .slice da dep.length dc, .int .i64 actor, .int .i64 kind, .int .i64 dst, .int .i64 bucket, .int .i64 mask, .int .i64 gr, .int .i64 gn, .slice ua ups.length uc] :: .pointer (some ⟨B, 0, none⟩) :: .pointer (some ⟨B + 1, 0, none⟩) :: .pointer (some ⟨B + 1 + 1, 0, none⟩) :: .pointer (some ⟨P, 0, none⟩) :: .bool true :: .pointer (some ⟨Bx, 0, none⟩) :: .tuple #[.agg #[.int .i64 n, .int .i64 y0, .int .i64 y1, .int .i64 y2, .int .i64 y3], .bool true] :: .pointer (some ⟨B + 1, 2, none⟩) :: .slice da dep.length dc :: .tuple #[.agg #[.int .i64 n, .int .i64 y0, .int .i64 y1, .int .i64 y2, .int .i64 y3], .bool true] :: .agg #[.int .i64 n, .int .i64 y0, .int .i64 y1, .int .i64 y2, .int .i64 y3] :: .bool true :: .agg #[.int .i64 n, .int .i64 y0, .int .i64 y1, .int .i64 y2, .int .i64 y3] :: .pointer (some ⟨B, 2, none⟩) :: .agg #[.int .i64 n, .int .i64 x0, .int .i64 x1, .int .i64 x2, .int .i64 x3] :: .bool true :: .bool false :: .agg #[.slice (some ⟨b, off, none⟩) len cap, .map (some mb), .int .i64 n, .int .i64 x0, .int .i64 x1, .int .i64 x2, .int .i64 x3] :: .agg #[.int .i64 n, .int .i64 y0, .int .i64 y1, .int .i64 y2, .int .i64 y3] :: .func (.func 111) #[] #[.pointer (some ⟨SB, 0, none⟩), .pointer (some ⟨FB, 0, none⟩)] :: x.1.val :: undef :: undef :: undef :: undef :: undef :: undef :: []), defers := [] })
      ?hAx ?assign ?body ?done ?stop
    case hI => exact OwnFrom.and (fun _ _ _ _ h _ _ => h) (ownFrom_below (Nat.le_refl _) (Nat.le_refl _))
    case hIx =>
      intro c
      refine OwnFrom.and (fun _ _ _ _ h _ _ => h) (OwnFrom.and (ownFrom_below (Nat.le_of_eq HB.out) (by rw [HB.out]; exact hws)) (Blk.ownFrom kr6.out.lt))
    case hAx =>
      rintro x a' _ V V' row ⟨Bx, h1, h2, h3⟩ hg hr
      exact ⟨Bx, h1, Blk.cellsOwn (K := w6.heap.size) () V V' row h2 hg hr, h3⟩
    case assign =>
      rintro l pre ⟨⟨⟨r', n', dep', actor', kind', dst', bucket', mask', gr', gn', ups'⟩, vd', vs'⟩, hx⟩ V K hi hK
      obtain ⟨da', dc', hvd⟩ := ints_len hx.1.1
      obtain ⟨ua', uc', hvs⟩ := ups_len hx.1.2
      simp only at hvd hvs
      subst hvd
      subst hvs
      simp only [ActT.val]
      gi_wp2
      exact hK _ _ ((KeepsOthers.alloc _ _).from _) ((Below.refl _ V).alloc hi.2.size _) ⟨hi.1, hi.2.alloc hi.2.size _⟩ ⟨V.heap.size, hi.2.size, Blk.new V _ _, rfl⟩
    case body =>
      rintro l pre ⟨⟨⟨r', n', dep', actor', kind', dst', bucket', mask', gr', gn', ups'⟩, vd', vs'⟩, hx⟩ a' V hl ⟨rc, hrc⟩ ⟨hpre, hbV⟩ ⟨Bx, hBx, kX, rfl⟩ hlt'
      obtain ⟨da', dc', hvd⟩ := ints_len hx.1.1
      obtain ⟨ua', uc', hvs⟩ := ups_len hx.1.2
      simp only at hvd hvs
      subst hvd
      subst hvs
      have e2 := kX.cell 2
      have a2 := (ka6.out.below hbV ka6.out.lt).cell 2
      simp only [List.getElem?_cons_zero, List.getElem?_cons_succ] at e2 a2
      have i1 : Ints V (.slice da' dep'.length dc') dep' := hx.1.1.below (B := 0) hbV
      have i2 : Ints V (.slice da dep.length dc) dep := (HT.out.1.below hBw6).1.below (B := 0) hbV
      have CL := ClockLeq_any _ _ dep' dep V i1 i2
      have hlq : spLeq dep' dep = leqB dep' dep := by simp [spLeq, bothB, (ok_dep hx.2).1, HOD.out, (ok_parts hx.2).2.2, HLD.out]
      rw [hlq] at CL
      obtain ⟨Y, hY⟩ : ∃ Y, Y = leqB dep' dep := ⟨_, rfl⟩
      rw [← hY] at CL
      have HY2 := Lib.hid hY
      have HPRE := Lib.hid hpre
      have HBV := Lib.hid hbV
      clear hY hlq i1 i2 hpre hbV kX
      gi_wp2_with fail
      refine ⟨trivial, (CallsIn.inRound l (callsIn_wide.2 CL)).mono ?_⟩
      clear CL e2 a2
      rintro e V2 ⟨rfl, bV⟩
      have HB2 := Lib.hid (HBV.out.trans (bV.mono HBV.out.size))
      have kr7 := Lib.hid (kr6.out.below HB2.out kr6.out.lt)
      have r0 := kr7.out.cell 0
      have f0 := kr7.out.free 0
      simp only [List.getElem?_cons_zero] at r0
      have hb7 := Lib.hid (B6.out.trans (HB2.out.mono (by omega)))
      have HKV := Lib.hid bV
      clear bV
      cases Y
      · gi_wp2_with fail
        refine ⟨(below_keeps HKV.out).trans ((KeepsOthers.setCell _ _ _).from _), ⟨rfl, _, List.mem_append.2 (.inr (List.mem_singleton.2 rfl)), HY2.out.symm⟩, hb7.out.setCell (p := ⟨B + 1 + 1, 0, none⟩) (by simp <;> omega) _, ?_⟩
        exact kr7.out.set (j := 0) (by simp) (.bool false)
      · gi_wp2_with fail
        refine ⟨below_keeps HKV.out, HKV.out.mono HBV.out.size, ?_, HB2.out⟩
        intro y hy
        rcases List.mem_append.1 hy with hy | hy
        · exact HPRE.out y hy
        · obtain rfl := List.mem_singleton.1 hy
          exact HY2.out.symm
    case done =>
      rintro D zs V hD hS ⟨hpre, hbV⟩ hK
      have hcl : clIn ts dep = true := by
        rw [clIn, ← HY.out.1, ← HY.out.2.1, ← HY.out.2.2.1, ← HY.out.2.2.2, ← hS]
        simp only [List.all_map, List.all_eq_true]
        exact hpre
      have krV := kr6.out.below hbV kr6.out.lt
      have hwV := B6.out.trans (hbV.mono (by omega))
      have hRV : R = true := by rw [HRS.out, hcl]
      have r0 := krV.cell 0
      have f0 := krV.free 0
      simp only [List.getElem?_cons_zero] at r0
      gi_wp2_with fail
      subst hRV
      have hmk : ∀ E ∈ [D], (V.setCell ⟨B + 1 + 1, 0, none⟩ (.bool true)).heap[E]? = some (.deferred (some [])) := fun E hE => (KeepsOthers.setCell V ⟨B + 1 + 1, 0, none⟩ (.bool true)).same E _ (List.mem_singleton.1 hE ▸ hK) rfl
      refine leaves_marks [D] _ (List.nodup_cons.2 ⟨List.not_mem_nil, List.nodup_nil⟩) hmk (fun W' hW' => ?_)
      have hc5 := hW'.cell hmk (World.cell?_setCell_same' V ⟨B + 1 + 1, 0, none⟩ (.bool true) (by rw [r0]; rfl))
      refine ⟨.bool true, by simp [results, Tryz.f101, go_sem, hc5], rfl, ?_⟩
      rw [← HB.out]
      exact (hwV.setCell (p := ⟨B + 1 + 1, 0, none⟩) (by simp <;> omega) _).trans (hW'.below (fun E hE => by rw [List.mem_singleton.1 hE]; omega))
    case stop =>
      rintro D c pre V hD hSp ⟨⟨rfl, y, hy, hyf⟩, hbV, kV⟩ hK
      have hRF : R = false := by
        rw [HRS.out, clIn, ← HY.out.1, ← HY.out.2.1, ← HY.out.2.2.1, ← HY.out.2.2.2]
        refine List.all_eq_false.2 ⟨y.1, hSp.subset (List.mem_map_of_mem hy), by simp [hyf]⟩
      gi_wp2_with fail
      subst hRF
      have hmk : ∀ E ∈ [D], V.heap[E]? = some (.deferred (some [])) := fun E hE => List.mem_singleton.1 hE ▸ hK
      refine leaves_marks [D] _ (List.nodup_cons.2 ⟨List.not_mem_nil, List.nodup_nil⟩) hmk (fun W' hW' => ?_)
      have hc5 := hW'.cell hmk (kV.cell 0)
      refine ⟨.bool false, by simp [results, Tryz.f101, go_sem, hc5], rfl, ?_⟩
      rw [← HB.out]
      exact hbV.trans (hW'.below (fun E hE => by rw [List.mem_singleton.1 hE]; omega))
end Go.Proofs.YtkcfcmigcphjlaaGreat

namespace Go.Proofs.YtkcfcmigcphjlaaGreat
open Go.RowKit
set_option linter.unusedVariables false

set_option maxRecDepth 100000 in
set_option maxHeartbeats 3200000 in
theorem isClosed_some (b off cap len mb n : Nat) (ys : List Int) (ts : List ActT) (w : World)
    (h1 : ts.length = len) (hlen : len ≤ 60) (hn : n ≤ 4) (hb : b < w.heap.size) (hr : ∀ t ∈ ts, GoodT w n t) (hc : ∀ i, i < len → ActAt w b (off + i * 11) (ts.getD i t0))
    (hys : okB ys = true) (hyl : ys.length = n) :
    Calls Tryz.prog 78 #[.agg #[.slice (some ⟨b, off, none⟩) len cap, .map (some mb), .int .i64 n, .int .i64 (cx ys 0), .int .i64 (cx ys 1), .int .i64 (cx ys 2), .int .i64 (cx ys 3)]] w fun e w' =>
      e = .returned (.bool (clFrom ts ys ts)) ∧ Below w.heap.size w w' := by
  have HH := Lib.hid (fun (t : ActT) (ht : t ∈ ts) (W : World) (hW : Below w.heap.size w W) => hasAllFor_some b off cap len mb n ys ts t W h1 hlen hn (Nat.lt_of_lt_of_le hb hW.size) (fun t ht => ⟨(hr t ht).1.below hW, (hr t ht).2⟩) (fun i hi => (hc i hi).below hW hb) hys hyl ⟨(hr t ht).1.below hW, (hr t ht).2⟩)
  have HC := Lib.hid hc
  have HR := Lib.hid hr
  have N1 := Lib.hid h1
  obtain ⟨x0, hx0⟩ : ∃ x, x = cx ys 0 := ⟨_, rfl⟩
  obtain ⟨x1, hx1⟩ : ∃ x, x = cx ys 1 := ⟨_, rfl⟩
  obtain ⟨x2, hx2⟩ : ∃ x, x = cx ys 2 := ⟨_, rfl⟩
  obtain ⟨x3, hx3⟩ : ∃ x, x = cx ys 3 := ⟨_, rfl⟩
  simp only [← hx0, ← hx1, ← hx2, ← hx3] at HH ⊢
  clear hx0 hx1 hx2 hx3 hys hyl hc hr h1
  have kS : Blk (w.alloc (.cells #[.slice (some ⟨b, off, none⟩) len cap, .map (some mb), .int .i64 n, .int .i64 x0, .int .i64 x1, .int .i64 x2, .int .i64 x3] 57)) w.heap.size [.slice (some ⟨b, off, none⟩) len cap, .map (some mb), .int .i64 n, .int .i64 x0, .int .i64 x1, .int .i64 x2, .int .i64 x3] := Blk.new w _ _
  have b0 := (Below.refl w.heap.size w).alloc (Nat.le_refl _) (.cells #[.slice (some ⟨b, off, none⟩) len cap, .map (some mb), .int .i64 n, .int .i64 x0, .int .i64 x1, .int .i64 x2, .int .i64 x3] 57)
  obtain ⟨B, hB⟩ : ∃ B, B = w.heap.size := ⟨_, rfl⟩
  obtain ⟨R, hR⟩ : ∃ R, R = clFrom ts ys ts := ⟨_, rfl⟩
  rw [← hR]
  have HRR := Lib.hid hR
  clear hR
  go_enter Tryz.func78, Tryz.ntmps78
  go_upto_region 1 with (fail)
  rw [← hB] at kS b0 ⊢
  have HB := Lib.hid hB
  clear hB
  generalize w.alloc (.cells #[.slice (some ⟨b, off, none⟩) len cap, .map (some mb), .int .i64 n, .int .i64 x0, .int .i64 x1, .int .i64 x2, .int .i64 x3] 57) = W0 at kS b0 ⊢
  have KS := Lib.hid kS
  have B0 := Lib.hid b0
  have s0 := kS.cell 0
  simp only [List.getElem?_cons_zero] at s0
  clear kS b0
  go_wp2_with fail
  clear s0
  go_loopw [8] (fun i wr => ∃ k : Nat, k ≤ len ∧ i = .int .i64 k ∧ Hid (R = clFrom ts ys (ts.drop k)) ∧ Hid (Blk wr B [.slice (some ⟨b, off, none⟩) len cap, .map (some mb), .int .i64 n, .int .i64 x0, .int .i64 x1, .int .i64 x2, .int .i64 x3]) ∧ Hid (Below B w wr)) (fun i _ => len - (intOf i).toNat)
  case atStart => exact ⟨0, Nat.zero_le _, rfl, HRR.out, KS.out, B0.out⟩
  case round =>
    obtain ⟨k, hk, rfl, hg, ks, hbel⟩ := hrel
    clear KS B0 HRR
    by_cases hlt : k < len
    · have hlt2 : k < ts.length := by rw [N1.out]; exact hlt
      have hBw : Below w.heap.size w wr := by have := hbel.out; rw [HB.out] at this; exact this
      have AT := Lib.hid ((HC.out k hlt).below hBw hb)
      have HT := Lib.hid ((HR.out _ (getD_mem hlt2)).1.below hBw)
      have HK := Lib.hid (HH.out _ (getD_mem hlt2))
      have hst := hg.out
      rw [clFrom_step ts ys ts k hlt2] at hst
      obtain ⟨t, htt⟩ : ∃ t, t = ts.getD k t0 := ⟨_, rfl⟩
      rw [← htt] at AT HT HK hst
      clear htt hg
      obtain ⟨⟨r, nn, dep, actor, kind, dst, bucket, mask, gr, gn, ups⟩, vd, vs⟩ := t
      have hsd := ints_len HT.out.1
      have hsu := ups_len HT.out.2
      simp only at hsd hsu
      obtain ⟨da, dc, rfl⟩ := hsd
      obtain ⟨ua, uc, rfl⟩ := hsu
      simp only [ActT.val] at HK
      try simp only at hst
      obtain ⟨X, hX⟩ : ∃ X, X = (leqB dep ys && clIn ts dep) := ⟨_, rfl⟩
      rw [← hX] at hst
      have HK2 := Lib.hid (fun W (hW : Below w.heap.size w W) => (HK.out W hW))
      simp only [← hX] at HK2
      have HST := Lib.hid hst
      have c0 := AT.out.c0
      have c1 := AT.out.c1
      have c2 := AT.out.c2
      have c3 := AT.out.c3
      have c4 := AT.out.c4
      have c5 := AT.out.c5
      have c6 := AT.out.c6
      have c7 := AT.out.c7
      have c8 := AT.out.c8
      have c9 := AT.out.c9
      have c10 := AT.out.c10
      simp only at c0 c1 c2 c3 c4 c5 c6 c7 c8 c9 c10
      clear AT HK hX hst
      go_upto_region 4 with (fail)
      have kA : Blk (wr.alloc (.cells #[.int .i64 r, .int .i64 nn, .slice da dep.length dc, .int .i64 actor, .int .i64 kind, .int .i64 dst, .int .i64 bucket, .int .i64 mask, .int .i64 gr, .int .i64 gn, .slice ua ups.length uc] 33)) wr.heap.size [.int .i64 r, .int .i64 nn, .slice da dep.length dc, .int .i64 actor, .int .i64 kind, .int .i64 dst, .int .i64 bucket, .int .i64 mask, .int .i64 gr, .int .i64 gn, .slice ua ups.length uc] := Blk.new wr _ _
      have b1 := (Below.refl wr.heap.size wr).alloc (Nat.le_refl _) (.cells #[.int .i64 r, .int .i64 nn, .slice da dep.length dc, .int .i64 actor, .int .i64 kind, .int .i64 dst, .int .i64 bucket, .int .i64 mask, .int .i64 gr, .int .i64 gn, .slice ua ups.length uc] 33)
      obtain ⟨Q, hQ⟩ : ∃ Q, Q = wr.heap.size := ⟨_, rfl⟩
      have hBQ : B < Q := by rw [hQ]; exact ks.out.lt
      rw [← hQ] at kA b1 ⊢
      generalize wr.alloc (.cells #[.int .i64 r, .int .i64 nn, .slice da dep.length dc, .int .i64 actor, .int .i64 kind, .int .i64 dst, .int .i64 bucket, .int .i64 mask, .int .i64 gr, .int .i64 gn, .slice ua ups.length uc] 33) = W1 at kA b1 ⊢
      clear c0 c1 c2 c3 c4 c5 c6 c7 c8 c9 c10 hQ
      have ks1 := Lib.hid (ks.out.below b1 hBQ)
      have hb1 := Lib.hid (hbel.out.trans (b1.mono (by omega)))
      have hw1 := Lib.hid (by have := hb1.out; rw [HB.out] at this; exact this : Below w.heap.size w W1)
      have s0 := ks1.out.cell 0
      have s1 := ks1.out.cell 1
      have s2 := ks1.out.cell 2
      have s3 := ks1.out.cell 3
      have s4 := ks1.out.cell 4
      have s5 := ks1.out.cell 5
      have s6 := ks1.out.cell 6
      have a0 := kA.cell 0
      have a1 := kA.cell 1
      have a2 := kA.cell 2
      have a3 := kA.cell 3
      have a4 := kA.cell 4
      have a5 := kA.cell 5
      have a6 := kA.cell 6
      have a7 := kA.cell 7
      have a8 := kA.cell 8
      have a9 := kA.cell 9
      have a10 := kA.cell 10
      simp only [List.getElem?_cons_zero, List.getElem?_cons_succ] at s0 s1 s2 s3 s4 s5 s6 a0 a1 a2 a3 a4 a5 a6 a7 a8 a9 a10
      clear kA b1 ks hbel
      go_wp2_with fail
      refine (HK2.out W1 hw1.out).mono ?_
      rintro e w2 ⟨rfl, b2⟩
      have ks2 := Lib.hid (ks1.out.below b2 ks1.out.lt)
      have hb2 := Lib.hid (hb1.out.trans (b2.mono (Nat.le_of_lt ks1.out.lt)))
      clear s0 s1 s2 s3 s4 s5 s6 a0 a1 a2 a3 a4 a5 a6 a7 a8 a9 a10 b2 HK2
      cases X
      · have HRF := Lib.hid (show R = false by rw [HST.out]; simp)
        go_wp2_with fail
        go_ret
        exact ⟨ret_bool HRF.out.symm, by rw [← HB.out]; exact hb2.out⟩
      · have HRT := Lib.hid (show R = clFrom ts ys (ts.drop (k + 1)) by rw [HST.out]; simp)
        go_wp2_with fail
        go_roundw
        case rel => exact ⟨k + 1, by omega, by go_num, HRT.out, ks2.out, hb2.out⟩
        case measure => simp [intOf]; omega
    · have HRT := Lib.hid (show R = true by rw [hg.out, ← N1.out.trans (show len = k by omega), List.drop_length]; rfl)
      go_wp2_with fail
      go_ret
      exact ⟨ret_bool HRT.out.symm, by rw [← HB.out]; exact hbel.out⟩

theorem cx_ok {xs : List Int} (h : okB xs = true) (i : Nat) : cx xs i = xs.getD i 0 := if_pos h
theorem four_getD (xs : List Int) (h : xs.length ≤ 4) (i : Nat) : [xs.getD 0 0, xs.getD 1 0, xs.getD 2 0, xs.getD 3 0].getD i 0 = xs.getD i 0 := by
  match i with
  | 0 => rfl
  | 1 => rfl
  | 2 => rfl
  | 3 => rfl
  | i + 4 => simp [List.getD, List.getElem?_eq_none (show xs.length ≤ i + 4 by omega)]
/-- isClosed as the model has it -/
theorem clFrom_closed (ts : List ActT) (n : Nat) (hok : ∀ t ∈ ts, actOkM t.a n = true) : clFrom ts (clockM (ts.map ActT.a) n) ts = closedM (ts.map ActT.a) n := by
  have key : ∀ r : List ActT, (∀ t ∈ r, actOkM t.a n = true) → clFrom ts (clockM (ts.map ActT.a) n) r = (r.map ActT.a).all fun a => leqB a.dep (clockM (ts.map ActT.a) n) && (ts.map ActT.a).all fun b => !decide (b.n ≤ a.dep.getD b.r.toNat 0) || leqB b.dep a.dep := by
    intro r
    induction r with
    | nil => intro _; rfl
    | cons t r ih =>
      intro h
      rw [clFrom, ih (fun x hx => h x (List.mem_cons_of_mem _ hx)), List.map_cons, List.all_cons]
      congr 1
      congr 1
      have hd := ok_dep (h t (by simp))
      have hl := (okB_iff _).1 hd.1
      rw [clIn, List.all_filter, List.all_map]
      congr 1
      funext b
      simp only [Function.comp, knowsT, cx_ok hd.1]
      rw [four_getD t.a.dep hl.2.1]
  exact key ts hok

set_option maxRecDepth 100000 in
set_option maxHeartbeats 1600000 in
theorem isClosed_nil (a : Option Addr) (cap mb n : Nat) (x0 x1 x2 x3 : Int) (w : World) :
    Calls Tryz.prog 78 #[.agg #[.slice a 0 cap, .map (some mb), .int .i64 n, .int .i64 x0, .int .i64 x1, .int .i64 x2, .int .i64 x3]] w fun e w' =>
      e = .returned (.bool true) ∧ Below w.heap.size w w' := by
  have b0 := (Below.refl w.heap.size w).alloc (Nat.le_refl _) (.cells #[.slice a 0 cap, .map (some mb), .int .i64 n, .int .i64 x0, .int .i64 x1, .int .i64 x2, .int .i64 x3] 57)
  go_enter Tryz.func78, Tryz.ntmps78
  go_wp2
  go_loop [8] (fun i => i = .int .i64 0) (fun _ => 0)
  case atStart => exact rfl
  case round =>
    obtain rfl := hrel
    go_wp2
    go_ret
    exact ⟨rfl, b0⟩
theorem isClosed_any (v : Value) (ts : List ActT) (mb n : Nat) (w : World) (h : ActsT w v ts) (hlen : ts.length ≤ 60) (h1 : 1 ≤ n) (hn : n ≤ 4) (hok : ∀ t ∈ ts, actOkM t.a n = true)
    (hys : okB (clockM (ts.map ActT.a) n) = true) (x0 x1 x2 x3 : Int) (e0 : x0 = cx (clockM (ts.map ActT.a) n) 0) (e1 : x1 = cx (clockM (ts.map ActT.a) n) 1) (e2 : x2 = cx (clockM (ts.map ActT.a) n) 2) (e3 : x3 = cx (clockM (ts.map ActT.a) n) 3) :
    Calls Tryz.prog 78 #[.agg #[v, .map (some mb), .int .i64 n, .int .i64 x0, .int .i64 x1, .int .i64 x2, .int .i64 x3]] w fun e w' =>
      e = .returned (.bool (closedM (ts.map ActT.a) n)) ∧ Below w.heap.size w w' := by
  rcases h.2 with ⟨a, cap, rfl, rfl⟩ | ⟨b, off, cap, rfl, q1, q2, q3, q4⟩
  · exact isClosed_nil a cap mb n x0 x1 x2 x3 w
  · subst e0
    subst e1
    subst e2
    subst e3
    rw [← clFrom_closed ts n hok]
    exact isClosed_some b off cap _ mb n _ ts w rfl hlen hn q1 (fun t ht => ⟨h.1 t ht, hok t ht⟩) q4 hys (by rw [clockM, clockFrom_length]; simp)
end Go.Proofs.YtkcfcmigcphjlaaGreat


namespace Go.Proofs.YtkcfcmigcphjlaaGreat
open Go.RowKit
set_option linter.unusedVariables false

/-- a set that was read, as a value -/
def setVal (v : Value) (mb : Nat) (n : Int) (l : List ActM) : Value := .agg #[v, .map (some mb), .int .i64 n, .int .i64 (cntM l 0), .int .i64 (cntM l 1), .int .i64 (cntM l 2), .int .i64 (cntM l 3)]
def noSet : Value := .agg #[.slice none 0 0, .map none, .int .i64 0, .int .i64 0, .int .i64 0, .int .i64 0, .int .i64 0]
def SetRead (w : World) (v : Value) (l : List ActM) (n : Int) (e : Ending) (w' : World) : Prop := Below w.heap.size w w' ∧
  ((setOkM l n = true ∧ ∃ mb, w.heap.size ≤ mb ∧ e = .returned (.tuple #[setVal v mb n l, .bool true]) ∧ w'.ownsMap Tryz.prog 91 (plainElem Tryz.prog 3) mb l.length (atD l 0 (.map []))) ∨
   (setOkM l n = false ∧ e = .returned (.tuple #[noSet, .bool false])))
theorem setOk_prog (l : List ActM) (n : Int) : setOkM l n = (decide (1 ≤ n) && decide (n ≤ 4) && decide (l.length ≤ 60) && (orderM n none l && countsUpM l n.toNat && closedM l n.toNat)) := by
  unfold setOkM
  by_cases h : 1 ≤ n
  · obtain ⟨m, rfl⟩ := Int.eq_ofNat_of_zero_le (show 0 ≤ n by omega)
    congr 1
    have := prog_ref l m
    unfold progM afterM at this
    rw [Int.toNat_natCast]
    exact this.symm
  · simp [h]

/-- a store into a map of the call's own, as one step of a region that draws -/
theorem step_mapUpdate_own {H : Type} {P : Program} {ops : Array Oper} {o : Oper} {a : Act} {w : World} {K : Act → World → Prop} {Q : Exit → Act → World → Prop} {E : Prop}
    (hg : o.guard = none) (hd : o.dst = none) (m x v : Operand) (t : TypeId) (hop : o.op = Op.mapUpdate t m x v)
    (k e : TypeId) (kd : Maps.Keyed P k) (ht : P.underlying t = some (.map k e)) (R : Value → Option (DataW H × List MemPlace)) (b n : Nat) (D : DataW H)
    (hm : a.eval m = .map (some b)) (hown : w.ownsMap P k R b n D) (hn : n < maxLen) (key val : Value) (kl : Lit) (hx : a.eval x = key) (hv : a.eval v = val) (hkey : keyOf P k key = some kl)
    (d : DataW H) (ps : List MemPlace) (hval : R val = some (d, ps))
    (hK : ∀ w', w'.ownsMap P k R b (n + 1) (D.put kl d) → w.grownBy w' (some b) → K a w') :
    if Region.wanted o (yielded ops a.tmps) = true then Oper.wp P o a w K Q else E := by
  have hw : Region.wanted o (yielded ops a.tmps) = true := by simp [Region.wanted, hg]
  rw [if_pos hw]
  obtain ⟨w', hrun, r1, r2⟩ := hown.update kd ht hn hkey hval
  unfold Oper.wp
  simp [execOp, hop, hm, hx, hv, hrun, Result.andThen]
  unfold Oper.upon
  simp [hd, Act.put]
  exact hK w' r1 r2
theorem name_bounds {a : ActM} {n : Int} (h : actOkM a n = true) : I64 a.r ∧ I64 a.n := by
  simp only [actOkM, Bool.and_eq_true, decide_eq_true_eq] at h
  unfold I64
  omega
theorem wf_small (k : Nat) (h : k ≤ 60) : (Lit.int .i64 (k : Int)).wf = true := by
  rw [← wrap_small (k : Int) (by omega) (by omega)]
  exact wrap64_wf _
theorem cnt_le (l : List ActM) (q n : Nat) (h : l.length ≤ n) : cntM l q ≤ n := Nat.le_trans (List.length_filter_le _ _) h
theorem cnt_cell (a : Option Addr) (cap M : Nat) (m : Int) (l : List ActM) (q : Nat) (h : q < 4) (L : Nat) : ([.slice a L cap, .map (some M), .int .i64 m, .int .i64 (cntM l 0), .int .i64 (cntM l 1), .int .i64 (cntM l 2), .int .i64 (cntM l 3)] : List Value)[3 + q]? = some (.int .i64 (cntM l q)) := by
  match q, h with
  | 0, _ => rfl
  | 1, _ => rfl
  | 2, _ => rfl
  | 3, _ => rfl
theorem cnt_set (a : Option Addr) (cap M : Nat) (m : Int) (l : List ActM) (q : Nat) (h : q < 4) (L : Nat) (t : ActM) (ht : t.r = (q : Int)) : ([.slice a L cap, .map (some M), .int .i64 m, .int .i64 (cntM l 0), .int .i64 (cntM l 1), .int .i64 (cntM l 2), .int .i64 (cntM l 3)] : List Value).set (3 + q) (.int .i64 ((cntM l q : Int) + 1)) = [.slice a L cap, .map (some M), .int .i64 m, .int .i64 (cntM (l ++ [t]) 0), .int .i64 (cntM (l ++ [t]) 1), .int .i64 (cntM (l ++ [t]) 2), .int .i64 (cntM (l ++ [t]) 3)] := by
  simp only [cnt_app, cnt_one, ht]
  match q, h with
  | 0, _ => simp
  | 1, _ => simp
  | 2, _ => simp
  | 3, _ => simp
theorem cnt_range (l : List ActM) (q : Nat) (h : l.length ≤ 60) : (0 : Int) ≤ (cntM l q : Int) ∧ (cntM l q : Int) ≤ 100 := by
  have := cnt_le l q 60 h
  omega
theorem four_cnt (l : List ActM) (p : Nat) (h : p < 4) : [(cntM l 0 : Int), cntM l 1, cntM l 2, cntM l 3].getD p 0 = (cntM l p : Int) := by
  match p, h with
  | 0, _ => rfl
  | 1, _ => rfl
  | 2, _ => rfl
  | 3, _ => rfl
theorem clockM_len (l : List ActM) (n : Nat) : (clockM l n).length = n := by rw [clockM, clockFrom_length]; simp
theorem cnt_out (l : List ActM) (n p : Nat) (h : n ≤ p) (hl : ∀ a ∈ l, a.r < n) : cntM l p = 0 := by
  unfold cntM
  rw [List.length_eq_zero_iff, List.filter_eq_nil_iff]
  intro a ha
  have := hl a ha
  simp
  omega
theorem clock_counts (l : List ActM) (m : Nat) (h1 : 1 ≤ m) (h4 : m ≤ 4) (hl : l.length ≤ 60) (hok : ∀ a ∈ l, actOkM a m = true) :
    okB (clockM l m) = true ∧ (cntM l 0 : Int) = cx (clockM l m) 0 ∧ (cntM l 1 : Int) = cx (clockM l m) 1 ∧ (cntM l 2 : Int) = cx (clockM l m) 2 ∧ (cntM l 3 : Int) = cx (clockM l m) 3 := by
  have hr : ∀ a ∈ l, 0 ≤ a.r ∧ a.r < m := fun a ha => ⟨(ok_parts (hok a ha)).1, (ok_parts (hok a ha)).2.1⟩
  have hlen := clockM_len l m
  have key : ∀ p, (clockM l m).getD p 0 = (cntM l p : Int) := by
    intro p
    by_cases hp : p < m
    · exact clockM_cnt l hr p hp
    · rw [cnt_out l m p (by omega) (fun a ha => (hr a ha).2)]
      simp [List.getD, List.getElem?_eq_none (show (clockM l m).length ≤ p by omega)]
  have hok : okB (clockM l m) = true := by
    rw [okB_iff]
    refine ⟨by omega, by omega, fun x hx => ?_⟩
    obtain ⟨i, hi, rfl⟩ := List.mem_iff_getElem.1 hx
    have := key i
    simp only [List.getD, List.getElem?_eq_getElem hi, Option.getD_some] at this
    have := cnt_le l i 60 hl
    omega
  refine ⟨hok, ?_, ?_, ?_, ?_⟩ <;> rw [cx_ok hok, key]
theorem take_step (ts : List ActT) (k : Nat) (h : k < ts.length) : (ts.map ActT.a).take (k + 1) = (ts.map ActT.a).take k ++ [(ts.getD k t0).a] := by
  rw [List.take_add_one]
  simp [List.getD, h]

def SetMade (w : World) (v : Value) (l : List ActM) (n : Int) (e : Ending) (w' : World) : Prop := Below w.heap.size w w' ∧
  ∃ mb, w.heap.size ≤ mb ∧ e = .returned (setVal v mb n l) ∧ w'.ownsMap Tryz.prog 91 (plainElem Tryz.prog 3) mb l.length (atD l 0 (.map []))
set_option maxRecDepth 100000 in
set_option maxHeartbeats 6400000 in
theorem setOf_any (v : Value) (ts : List ActT) (n : Int) (m : Nat) (w : World) (h : ActsT w v ts) (h60 : ts.length ≤ 60) (hm4 : m ≤ 4) (hok : ∀ t ∈ ts, actOkM t.a m = true) :
    Calls Tryz.prog 76 #[v, .int .i64 n] w (SetMade w v (ts.map ActT.a) n) := by
  obtain ⟨a, cap, rfl⟩ := actsT_len h
  have HA := Lib.hid h
  have HOKS := Lib.hid hok
  obtain ⟨L, hL⟩ : ∃ L, L = ts.length := ⟨_, rfl⟩
  rw [← hL] at HA h60 ⊢
  have HL := Lib.hid hL
  have hL60 := h60
  clear h hL hok
  have b0 := (Below.refl w.heap.size w).alloc (Nat.le_refl _) (.cells #[.slice none 0 0, .map none, .int .i64 0, .int .i64 0, .int .i64 0, .int .i64 0, .int .i64 0] 57)
  obtain ⟨RB, hRB⟩ : ∃ RB, RB = w.heap.size := ⟨_, rfl⟩
  have kR := Blk.new w #[.slice none 0 0, .map none, .int .i64 0, .int .i64 0, .int .i64 0, .int .i64 0, .int .i64 0] 57
  rw [← hRB] at kR
  go_enter Tryz.func76, Tryz.ntmps76
  go_upto_region 1 with (fail)
  rw [← hRB] at b0 ⊢
  have HRB := Lib.hid hRB
  clear hRB
  generalize w.alloc (.cells #[.slice none 0 0, .map none, .int .i64 0, .int .i64 0, .int .i64 0, .int .i64 0, .int .i64 0] 57) = w1 at kR b0 ⊢
  have kR1 := Lib.hid kR
  have B1 := Lib.hid b0
  clear kR b0
  have hmm := @run_makeMap Tryz.prog
  go_upto_region 2 with (fail)
  have kS := Blk.new (w1.alloc (.map #[] 0)) #[.slice a L cap, .map (some w1.heap.size), .int .i64 n, .int .i64 0, .int .i64 0, .int .i64 0, .int .i64 0] 57
  have own := (World.ownsMap_made w1 Tryz.prog 91 (plainElem (H := Unit) Tryz.prog 3)).alloc (.cells #[.slice a L cap, .map (some w1.heap.size), .int .i64 n, .int .i64 0, .int .i64 0, .int .i64 0, .int .i64 0] 57)
  have b2 := ((Below.refl w1.heap.size w1).alloc (Nat.le_refl _) (.map #[] 0)).alloc (by simp) (.cells #[.slice a L cap, .map (some w1.heap.size), .int .i64 n, .int .i64 0, .int .i64 0, .int .i64 0, .int .i64 0] 57)
  rw [World.size_alloc] at kS
  obtain ⟨M, hM⟩ : ∃ M, M = w1.heap.size := ⟨_, rfl⟩
  rw [← hM] at kS own b2 ⊢
  have hRM : RB < M := by rw [hM]; exact kR1.out.lt
  have HM := Lib.hid hM
  generalize (w1.alloc (.map #[] 0)).alloc (.cells #[.slice a L cap, .map (some M), .int .i64 n, .int .i64 0, .int .i64 0, .int .i64 0, .int .i64 0] 57) = W2 at kS own b2 ⊢
  have kR2 := Lib.hid (kR1.out.below b2 hRM)
  have B2 := Lib.hid (B1.out.trans (b2.mono (by omega)))
  have HKS := Lib.hid kS
  have HOWN := Lib.hid own
  clear kS own b2 hmm kR1 B1 hM
  go_wp2_with fail
  go_loopw [15] (fun i wr => ∃ k : Nat, k ≤ L ∧ i = .int .i64 k ∧ Hid (wr.ownsMap Tryz.prog 91 (plainElem Tryz.prog 3) M k (atD ((ts.map ActT.a).take k) 0 (.map []))) ∧ Hid (Blk wr (M + 1) [.slice a L cap, .map (some M), .int .i64 n, .int .i64 (cntM ((ts.map ActT.a).take k) 0), .int .i64 (cntM ((ts.map ActT.a).take k) 1), .int .i64 (cntM ((ts.map ActT.a).take k) 2), .int .i64 (cntM ((ts.map ActT.a).take k) 3)]) ∧ Hid (Blk wr RB [.slice none 0 0, .map none, .int .i64 0, .int .i64 0, .int .i64 0, .int .i64 0, .int .i64 0]) ∧ Hid (Below RB w wr)) (fun i _ => L - (intOf i).toNat)
  case atStart => exact ⟨0, Nat.zero_le _, rfl, HOWN.out, HKS.out, kR2.out, B2.out⟩
  case round =>
    obtain ⟨k, hk, rfl, hown, hks, hkr, hbel⟩ := hrel
    have hA := Lib.hid (HA.out.below (by rw [← HRB.out]; exact hbel.out))
    clear HKS HOWN kR2 B2
    by_cases hlt : k < L
    · have hlt2 : k < ts.length := by rw [← HL.out]; exact hlt
      have hgo := hA.out.1 _ (getD_mem hlt2)
      have hok := HOKS.out _ (getD_mem hlt2)
      have HTK := Lib.hid (take_step ts k hlt2)
      obtain ⟨b, off, rfl, hb, hat⟩ : ∃ b off, a = some ⟨b, off, none⟩ ∧ b < wr.heap.size ∧ ∀ i, i < ts.length → ActAt wr b (off + i * 11) (ts.getD i t0) := by
        rcases hA.out.2 with ⟨a', cap', he, hz⟩ | ⟨b, off, cap', he, q1, q2, q3, q4⟩
        · rw [hz] at hlt2
          exact absurd hlt2 (by simp)
        · simp only [Value.slice.injEq] at he
          exact ⟨b, off, he.1, q1, q4⟩
      have AT := Lib.hid (hat k hlt2)
      have HT := Lib.hid hgo
      obtain ⟨t, htt⟩ : ∃ t, t = ts.getD k t0 := ⟨_, rfl⟩
      rw [← htt] at AT HT hok HTK
      have HOK := Lib.hid hok
      clear hgo htt hat hok
      obtain ⟨⟨r, nn, dep, actor, kind, dst, bucket, mask, gr, gn, ups⟩, vd, vs⟩ := t
      have hsd := ints_len HT.out.1
      have hsu := ups_len HT.out.2
      simp only at hsd hsu
      obtain ⟨da, dc, rfl⟩ := hsd
      obtain ⟨ua, uc, rfl⟩ := hsu
      have c0 := AT.out.c0
      have c1 := AT.out.c1
      have c2 := AT.out.c2
      have c3 := AT.out.c3
      have c4 := AT.out.c4
      have c5 := AT.out.c5
      have c6 := AT.out.c6
      have c7 := AT.out.c7
      have c8 := AT.out.c8
      have c9 := AT.out.c9
      have c10 := AT.out.c10
      simp only at c0 c1 c2 c3 c4 c5 c6 c7 c8 c9 c10
      clear AT
      go_upto_region 5 with (fail)
      have kA := Blk.new wr #[.int .i64 r, .int .i64 nn, .slice da dep.length dc, .int .i64 actor, .int .i64 kind, .int .i64 dst, .int .i64 bucket, .int .i64 mask, .int .i64 gr, .int .i64 gn, .slice ua ups.length uc] 33
      have bA := (Below.refl wr.heap.size wr).alloc (Nat.le_refl _) (.cells #[.int .i64 r, .int .i64 nn, .slice da dep.length dc, .int .i64 actor, .int .i64 kind, .int .i64 dst, .int .i64 bucket, .int .i64 mask, .int .i64 gr, .int .i64 gn, .slice ua ups.length uc] 33)
      obtain ⟨Q, hQ⟩ : ∃ Q, Q = wr.heap.size := ⟨_, rfl⟩
      have own3 := hown.out.alloc (.cells #[.int .i64 r, .int .i64 nn, .slice da dep.length dc, .int .i64 actor, .int .i64 kind, .int .i64 dst, .int .i64 bucket, .int .i64 mask, .int .i64 gr, .int .i64 gn, .slice ua ups.length uc] 33)
      generalize wr.alloc (.cells #[.int .i64 r, .int .i64 nn, .slice da dep.length dc, .int .i64 actor, .int .i64 kind, .int .i64 dst, .int .i64 bucket, .int .i64 mask, .int .i64 gr, .int .i64 gn, .slice ua ups.length uc] 33) = W3 at kA bA own3 ⊢
      rw [← hQ] at kA ⊢
      have hMQ : M + 1 < Q := by rw [hQ]; exact hks.out.lt
      have kS3 := Lib.hid (hks.out.below bA (by rw [← hQ]; exact hMQ))
      have kR3 := Lib.hid (hkr.out.below bA hkr.out.lt)
      have HT3 := Lib.hid (HT.out.below bA)
      have B3 := Lib.hid (hbel.out.trans (bA.mono (by omega)))
      have kA3 := Lib.hid kA
      have HO3 := Lib.hid own3
      clear kA own3 bA hown hks hkr HT hA hbel c0 c1 c2 c3 c4 c5 c6 c7 c8 c9 c10 hQ hb
      refine wp_region_held_drew (S := fun W => W3.grownBy W (some M)) (by kernel_rfl) (⟨rfl, rfl, rfl, Nat.le_refl _, fun _ _ _ => rfl⟩) (fun hHeld => ?_)
      refine held_take (i := 0) (d := some 20) (v := ?_) rfl (by kernel_rfl) (by kernel_rfl) (by kernel_rfl) (by kernel_rfl) (fun _ _ _ h => h) (by kernel_rfl) ?_ hHeld ?_
      rotate_left
      · intro w' hSw
        go_simp
        first | done | with_reducible rfl
      simp only [Act.put, List.setIfInBounds_toArray, List.set_cons_zero, List.set_cons_succ]
      refine held_take (i := 1) (d := some 21) (v := ?_) rfl (by kernel_rfl) (by kernel_rfl) (by kernel_rfl) (by kernel_rfl) (fun _ _ _ h => h) (by kernel_rfl) ?_ hHeld ?_
      rotate_left
      · intro w' hSw
        have gS := kS3.out.same hSw.size (hSw.block (M + 1) kS3.out.lt (by simp))
        have s0 := gS.cell 0
        have s1 := gS.cell 1
        have s2 := gS.cell 2
        simp only [List.getElem?_cons_zero, List.getElem?_cons_succ] at s0 s1 s2
        go_simp
        first | done | with_reducible rfl
      simp only [Act.put, List.setIfInBounds_toArray, List.set_cons_zero, List.set_cons_succ]
      refine held_take (i := 2) (d := some 22) (v := ?_) rfl (by kernel_rfl) (by kernel_rfl) (by kernel_rfl) (by kernel_rfl) (fun _ _ _ h => h) (by kernel_rfl) ?_ hHeld ?_
      rotate_left
      · intro w' hSw
        have gA := kA3.out.same hSw.size (hSw.block Q kA3.out.lt (by simp; omega))
        have a0 := gA.cell 0
        have a1 := gA.cell 1
        have a2 := gA.cell 2
        have a3 := gA.cell 3
        have a4 := gA.cell 4
        have a5 := gA.cell 5
        have a6 := gA.cell 6
        have a7 := gA.cell 7
        have a8 := gA.cell 8
        have a9 := gA.cell 9
        have a10 := gA.cell 10
        simp only [List.getElem?_cons_zero, List.getElem?_cons_succ] at a0 a1 a2 a3 a4 a5 a6 a7 a8 a9 a10
        go_simp
        first | done | with_reducible rfl
      simp only [Act.put, List.setIfInBounds_toArray, List.set_cons_zero, List.set_cons_succ]
      refine held_take (i := 4) (d := some 24) (v := ?_) rfl (by kernel_rfl) (by kernel_rfl) (by kernel_rfl) (by kernel_rfl) (fun _ _ _ h => h) (by kernel_rfl) ?_ hHeld ?_
      rotate_left
      · intro w' hSw
        go_simp
        first | done | with_reducible rfl
      simp only [Act.put, List.setIfInBounds_toArray, List.set_cons_zero, List.set_cons_succ]
      refine wpAnyH_ready (rs := [3]) (by kernel_rfl) (by simp) ?_
      refine AllReadyH.cons rfl (fun K hK => ?_) AllReadyH.nil
      go_simp
      refine (nameOf_any (⟨⟨r, nn, dep, actor, kind, dst, bucket, mask, gr, gn, ups⟩, .slice da dep.length dc, .slice ua ups.length uc⟩ : ActT) W3.drew (by exact HT3.out)).mono ?_
      rintro e W4 ⟨rfl, b4⟩
      refine hK.out _ _ ((grown_drewN W3 1 (some M)).trans (below_grown b4 (some M))) (fun hHeld => ?_)
      clear hK K
      have o3d : W3.drew.ownsMap Tryz.prog 91 (plainElem Tryz.prog 3) M k (atD ((ts.map ActT.a).take k) 0 (.map [])) := HO3.out
      have own4 := o3d.kept (below_grown b4 none) (by simp)
      refine wpAnyH_ready (rs := [5]) (by kernel_rfl) (by simp) ?_
      refine AllReadyH.cons rfl (fun K hK => ?_) AllReadyH.nil
      have hbd := name_bounds HOK.out
      refine step_mapUpdate_own rfl rfl (.tmp 21) (.tmp 23) (.tmp 24) 52 rfl 91 3 keyedName Tryz.underlying52 (plainElem Tryz.prog 3) M k _ rfl own4 (by unfold maxLen; omega) (nameV r nn) (.int .i64 k) (nameL r nn) rfl rfl (nameKey r nn hbd.1 hbd.2) _ _ (plainElem_int Tryz.underlying3 (wf_small k (by omega))) ?_
      intro W5 own5 g5
      have G5 := Lib.hid (hHeld.trans g5)
      refine hK.out _ _ (hHeld.trans g5) (fun _ => ?_)
      clear hK K hHeld g5 own4 o3d b4
      refine wpAnyH_done (by kernel_rfl) ?_ _
      have HO5 := Lib.hid own5
      have kS5 := Lib.hid (kS3.out.same G5.out.size (G5.out.block (M + 1) kS3.out.lt (by simp)))
      have kA5 := Lib.hid (kA3.out.same G5.out.size (G5.out.block Q kA3.out.lt (by simp; omega)))
      have kR5 := Lib.hid (kR3.out.same G5.out.size (G5.out.block RB kR3.out.lt (by simp; omega)))
      have B5 := Lib.hid (B3.out.trans ((Below.refl RB W3).grown G5.out (by have := kR3.out.lt; omega) (fun k e => by cases e; omega)))
      clear own5 kS3 kA3 kR3 B3 G5 HO3 HT3
      obtain ⟨q, rfl⟩ := Int.eq_ofNat_of_zero_le (ok_parts HOK.out).1
      have hq : q < m := by have hq2 : (q : Int) < (m : Int) := (ok_parts HOK.out).2.1; omega
      have a0 := kA5.out.cell 0
      simp only [List.getElem?_cons_zero] at a0
      have hcx := cnt_cell (some ⟨b, off, none⟩) cap M n ((ts.map ActT.a).take k) q (by omega) L
      have cx := (kS5.out.cell (3 + q)).trans hcx
      have hcb := cnt_le ((ts.map ActT.a).take k) q 60 (by simp; omega)
      have f0 := kS5.out.free (3 + q)
      clear hcx
      obtain ⟨x, hx⟩ : ∃ x, x = cntM ((ts.map ActT.a).take k) q := ⟨_, rfl⟩
      rw [← hx] at cx hcb
      have HXC := Lib.hid hx
      clear hx
      have i0 : (0 : Int) ≤ (q : Int) := by omega
      have i1 : (q : Int) < 4 := by omega
      go_wp2_with fail
      have hlk : ((ts.map ActT.a).take k).length = k := by simp; omega
      refine ⟨⟨k + 1, by omega, by simp, ?_, ?_, ?_, ?_⟩, ?_⟩
      · have h1 := HO5.out.kept (grown_set (w := W5) (M + 1) (3 + q) (.int .i64 ((x : Int) + 1))) (by simp)
        rw [HTK.out, atD_snoc, hlk, Nat.zero_add]
        exact h1
      · have h1 := kS5.out.set (j := 3 + q) (by simp; omega) (.int .i64 ((x : Int) + 1))
        rw [HXC.out, cnt_set (some ⟨b, off, none⟩) cap M n ((ts.map ActT.a).take k) q (by omega) L (⟨(q : Int), nn, dep, actor, kind, dst, bucket, mask, gr, gn, ups⟩ : ActM) rfl] at h1
        rw [HTK.out, HXC.out]
        exact h1
      · exact kR5.out.other (by simp; omega) _
      · exact B5.out.setCell (p := ⟨M + 1, 3 + q, none⟩) (by simp; omega) _
      · simp [intOf]; omega
    · obtain rfl : k = L := by omega
      have hown2 := hown.out
      have hks2 := hks.out
      have htl : (ts.map ActT.a).take k = ts.map ActT.a := List.take_of_length_le (by rw [List.length_map, ← HL.out]; exact Nat.le_refl _)
      rw [htl] at hown2 hks2
      have HOW := Lib.hid hown2
      obtain ⟨x0, hc0⟩ : ∃ x : Int, x = (cntM (ts.map ActT.a) 0 : Int) := ⟨_, rfl⟩
      obtain ⟨x1, hc1⟩ : ∃ x : Int, x = (cntM (ts.map ActT.a) 1 : Int) := ⟨_, rfl⟩
      obtain ⟨x2, hc2⟩ : ∃ x : Int, x = (cntM (ts.map ActT.a) 2 : Int) := ⟨_, rfl⟩
      obtain ⟨x3, hc3⟩ : ∃ x : Int, x = (cntM (ts.map ActT.a) 3 : Int) := ⟨_, rfl⟩
      have HSV : Hid (setVal (.slice a k cap) M n (ts.map ActT.a) = .agg #[.slice a k cap, .map (some M), .int .i64 n, .int .i64 x0, .int .i64 x1, .int .i64 x2, .int .i64 x3]) := by
        subst hc0 hc1 hc2 hc3
        exact rfl
      rw [← hc0, ← hc1, ← hc2, ← hc3] at hks2
      have s0 := hks2.cell 0
      have s1 := hks2.cell 1
      have s2 := hks2.cell 2
      have s3 := hks2.cell 3
      have s4 := hks2.cell 4
      have s5 := hks2.cell 5
      have s6 := hks2.cell 6
      have r0 := hkr.out.cell 0
      have r1 := hkr.out.cell 1
      have r2 := hkr.out.cell 2
      have r3 := hkr.out.cell 3
      have r4 := hkr.out.cell 4
      have r5 := hkr.out.cell 5
      have r6 := hkr.out.cell 6
      simp only [List.getElem?_cons_zero, List.getElem?_cons_succ] at s0 s1 s2 s3 s4 s5 s6 r0 r1 r2 r3 r4 r5 r6
      have f0 := hkr.out.free
      clear hown hks hown2 hks2 htl hc0 hc1 hc2 hc3 HA hA
      go_wp2_with fail
      have hMR : (some M : Option Nat) ≠ some RB := by simp; omega
      refine bodyPost_ret (v := setVal (.slice a k cap) M n (ts.map ActT.a)) (by rw [HSV.out]; simp [results, Tryz.results76, go_sem, r0, r1, r2, r3, r4, r5, r6]) rfl ⟨?_, M, by rw [← HRB.out]; omega, rfl, ?_⟩
      · rw [← HRB.out]
        exact ((((((hbel.out.setCell (by simp) _).setCell (by simp) _).setCell (by simp) _).setCell (by simp) _).setCell (by simp) _).setCell (by simp) _).setCell (by simp) _
      · rw [List.length_map, ← HL.out]
        exact (((((((HOW.out.kept (grown_set RB 0 _) hMR).kept (grown_set RB 1 _) hMR).kept (grown_set RB 2 _) hMR).kept (grown_set RB 3 _) hMR).kept (grown_set RB 4 _) hMR).kept (grown_set RB 5 _) hMR).kept (grown_set RB 6 _) hMR)
end Go.Proofs.YtkcfcmigcphjlaaGreat

namespace Go.Proofs.YtkcfcmigcphjlaaGreat
open Go.RowKit
set_option linter.unusedVariables false

set_option maxRecDepth 100000 in
set_option maxHeartbeats 6400000 in
theorem readSet_any (v : Value) (ts : List ActT) (n : Int) (w : World) (h : ActsT w v ts) (hn : I64 n) : Calls Tryz.prog 33 #[v, .int .i64 n] w (SetRead w v (ts.map ActT.a) n) := by
  obtain ⟨a, cap, rfl⟩ := actsT_len h
  have hmax := actsT_max h
  have HA := Lib.hid h
  have HN := Lib.hid hn
  obtain ⟨L, hL⟩ : ∃ L, L = ts.length := ⟨_, rfl⟩
  rw [← hL] at HA hmax ⊢
  have HL := Lib.hid hL
  clear h hL hn
  have b0 := (Below.refl w.heap.size w).alloc (Nat.le_refl _) (.cells #[.slice none 0 0, .map none, .int .i64 0, .int .i64 0, .int .i64 0, .int .i64 0, .int .i64 0] 57)
  obtain ⟨RB, hRB⟩ : ∃ RB, RB = w.heap.size := ⟨_, rfl⟩
  have kR := Blk.new w #[.slice none 0 0, .map none, .int .i64 0, .int .i64 0, .int .i64 0, .int .i64 0, .int .i64 0] 57
  rw [← hRB] at kR
  go_enter Tryz.func33, Tryz.ntmps33
  go_upto_region 1 with (fail)
  have A0 := HA.out.below b0
  rw [← hRB] at b0 ⊢
  have HRB := Lib.hid hRB
  clear hRB
  generalize w.alloc (.cells #[.slice none 0 0, .map none, .int .i64 0, .int .i64 0, .int .i64 0, .int .i64 0, .int .i64 0] 57) = W0 at kR b0 A0 ⊢
  have kR0 := Lib.hid kR
  have HB0 := Lib.hid b0
  have HA0 := Lib.hid A0
  have r0 := kR0.out.cell 0
  have r1 := kR0.out.cell 1
  have r2 := kR0.out.cell 2
  have r3 := kR0.out.cell 3
  have r4 := kR0.out.cell 4
  have r5 := kR0.out.cell 5
  have r6 := kR0.out.cell 6
  have f0 := kR0.out.free
  simp only [List.getElem?_cons_zero, List.getElem?_cons_succ] at r0 r1 r2 r3 r4 r5 r6
  clear kR b0 A0
  have hbad : ∀ (wx : World), Below RB w wx → Below w.heap.size w ((((((((wx).setCell ⟨RB, 0, none⟩ (.slice none 0 0)).setCell ⟨RB, 1, none⟩ (.map none)).setCell ⟨RB, 2, none⟩ (.int .i64 0)).setCell ⟨RB, 3, none⟩ (.int .i64 0)).setCell ⟨RB, 4, none⟩ (.int .i64 0)).setCell ⟨RB, 5, none⟩ (.int .i64 0)).setCell ⟨RB, 6, none⟩ (.int .i64 0)) := fun wx h => by
    rw [← HRB.out]
    exact ((((((h.setCell (by simp) _).setCell (by simp) _).setCell (by simp) _).setCell (by simp) _).setCell (by simp) _).setCell (by simp) _).setCell (by simp) _
  have HBAD := Lib.hid hbad
  clear hbad
  go_wp2_with fail
  refine (isIn_any _ _ _ _).mono ?_
  rintro e w1 ⟨rfl, rfl⟩
  by_cases hr : 1 ≤ n ∧ n ≤ 4
  · have e1 : inB n 1 4 = true := inB_yes hr.1 hr.2
    rw [e1]
    by_cases hL60 : L ≤ 60
    · obtain ⟨m, rfl⟩ := Int.eq_ofNat_of_zero_le (show 0 ≤ n by omega)
      have hm4 : m ≤ 4 := by omega
      have hm1 : 1 ≤ m := by omega
      have hL60i : ¬ (60 : Int) < (L : Int) := by omega
      have hsp : (setOkM (ts.map ActT.a) m = (orderM m none (ts.map ActT.a) && countsUpM (ts.map ActT.a) m && closedM (ts.map ActT.a) m)) := by
        have := setOk_prog (ts.map ActT.a) m
        rw [this, decide_eq_true hr.1, decide_eq_true hr.2, decide_eq_true (show (ts.map ActT.a).length ≤ 60 by rw [List.length_map, ← HL.out]; exact hL60)]
        simp
      have HSP := Lib.hid hsp
      obtain ⟨X, hX⟩ : ∃ X, X = orderM m none (ts.map ActT.a) := ⟨_, rfl⟩
      have IO := fun W (h : ActsT W (.slice a L cap) ts) => inOrder_any (.slice a L cap) (ts.map ActT.a) m W ⟨ts, rfl, h⟩ HN.out
      rw [← hX] at IO
      have HX := Lib.hid hX
      have HIO := Lib.hid IO
      clear hX IO hsp
      go_wp2_with fail
      refine (HIO.out w1 HA0.out).mono ?_
      rintro e w2 ⟨rfl, b2⟩
      have A1 := Lib.hid (HA0.out.below b2)
      have B1 := Lib.hid (HB0.out.trans (b2.mono (Nat.le_of_lt kR0.out.lt)))
      have kR1 := Lib.hid (kR0.out.below b2 kR0.out.lt)
      clear kR0 HB0 HA0 b2 HIO r0 r1 r2 r3 r4 r5 r6 f0
      cases X
      · have HSF : Hid (setOkM (ts.map ActT.a) m = false) := Lib.hid (by rw [HSP.out, ← HX.out]; rfl)
        have r0 := kR1.out.cell 0
        have r1 := kR1.out.cell 1
        have r2 := kR1.out.cell 2
        have r3 := kR1.out.cell 3
        have r4 := kR1.out.cell 4
        have r5 := kR1.out.cell 5
        have r6 := kR1.out.cell 6
        have f0 := kR1.out.free
        simp only [List.getElem?_cons_zero, List.getElem?_cons_succ] at r0 r1 r2 r3 r4 r5 r6
        go_wp2_with fail
        exact bodyPost_ret (v := .tuple #[noSet, .bool false]) (by simp [results, Tryz.results33, go_sem, noSet, r0, r1, r2, r3, r4, r5, r6]) rfl ⟨HBAD.out _ B1.out, .inr ⟨HSF.out, rfl⟩⟩
      · have hokT : ∀ t ∈ ts, actOkM t.a m = true := fun t ht => order_all _ none HX.out.symm _ (List.mem_map_of_mem ht)
        have SO := Lib.hid (setOf_any (.slice a L cap) ts (m : Int) m w2 A1.out (by rw [← HL.out]; exact hL60) hm4 hokT)
        clear hokT
        go_wp2_with fail
        refine SO.out.mono ?_
        rintro e w3 ⟨b3, M, hM, rfl, own3⟩
        have A3 := Lib.hid (A1.out.below b3)
        have B3 := Lib.hid (B1.out.trans (b3.mono (Nat.le_of_lt kR1.out.lt)))
        have kR3 := Lib.hid (kR1.out.below b3 kR1.out.lt)
        have hRM : RB < M := Nat.lt_of_lt_of_le kR1.out.lt hM
        clear SO A1 B1 kR1 b3 hM
        have hll : (ts.map ActT.a).length ≤ 60 := by rw [List.length_map, ← HL.out]; exact hL60
        have hlL : (ts.map ActT.a).length = L := by rw [List.length_map, ← HL.out]
        rw [hlL] at own3
        simp only [setVal]
        go_upto_region 4 with (fail)
        have kS := Blk.new w3 #[.slice a L cap, .map (some M), .int .i64 m, .int .i64 (cntM (ts.map ActT.a) 0), .int .i64 (cntM (ts.map ActT.a) 1), .int .i64 (cntM (ts.map ActT.a) 2), .int .i64 (cntM (ts.map ActT.a) 3)] 57
        have own := own3.alloc (.cells #[.slice a L cap, .map (some M), .int .i64 m, .int .i64 (cntM (ts.map ActT.a) 0), .int .i64 (cntM (ts.map ActT.a) 1), .int .i64 (cntM (ts.map ActT.a) 2), .int .i64 (cntM (ts.map ActT.a) 3)] 57)
        have b4 := (Below.refl w3.heap.size w3).alloc (Nat.le_refl _) (.cells #[.slice a L cap, .map (some M), .int .i64 m, .int .i64 (cntM (ts.map ActT.a) 0), .int .i64 (cntM (ts.map ActT.a) 1), .int .i64 (cntM (ts.map ActT.a) 2), .int .i64 (cntM (ts.map ActT.a) 3)] 57)
        obtain ⟨S, hS⟩ : ∃ S, S = w3.heap.size := ⟨_, rfl⟩
        rw [← hS] at kS ⊢
        generalize w3.alloc (.cells #[.slice a L cap, .map (some M), .int .i64 m, .int .i64 (cntM (ts.map ActT.a) 0), .int .i64 (cntM (ts.map ActT.a) 1), .int .i64 (cntM (ts.map ActT.a) 2), .int .i64 (cntM (ts.map ActT.a) 3)] 57) = w4 at kS own b4 ⊢
        have hown := Lib.hid own
        have hks := Lib.hid kS
        have hkr := Lib.hid (kR3.out.below b4 kR3.out.lt)
        have hbel := Lib.hid (B3.out.trans (b4.mono (Nat.le_of_lt kR3.out.lt)))
        have hA := Lib.hid (A3.out.below b4)
        clear kS own b4 kR3 B3 A3 own3 hS hlL
        have hokT : ∀ t ∈ ts, actOkM t.a m = true := fun t ht => order_all _ none HX.out.symm _ (List.mem_map_of_mem ht)
        have hokA : ∀ a ∈ ts.map ActT.a, actOkM a m = true := order_all _ none HX.out.symm
        have hcl : clockM (ts.map ActT.a) m = clockM (ts.map ActT.a) m := rfl
        obtain ⟨hys, hx0, hx1, hx2, hx3⟩ := clock_counts (ts.map ActT.a) m hm1 hm4 hll hokA
        have hcu := cu_model (n := m) (ts.map ActT.a) [(cntM (ts.map ActT.a) 0 : Int), cntM (ts.map ActT.a) 1, cntM (ts.map ActT.a) 2, cntM (ts.map ActT.a) 3] (fun a ha => name_bounds (hokA a ha)) hm4 hll (fun p hp => four_cnt (ts.map ActT.a) p (by omega))
        obtain ⟨Y, hY⟩ : ∃ Y, Y = countsUpM (ts.map ActT.a) m := ⟨_, rfl⟩
        rw [← hY] at hcu
        have CU := fun W (h : W.ownsMap Tryz.prog 91 (plainElem Tryz.prog 3) M L (atD (ts.map ActT.a) 0 (.map []))) => countsUp_any a L cap M L m (cntM (ts.map ActT.a) 0) (cntM (ts.map ActT.a) 1) (cntM (ts.map ActT.a) 2) (cntM (ts.map ActT.a) 3) (atD (ts.map ActT.a) 0 (.map [])) W h hm4 (cnt_range _ _ hll) (cnt_range _ _ hll) (cnt_range _ _ hll) (cnt_range _ _ hll)
        rw [hcu] at CU
        obtain ⟨Z, hZ⟩ : ∃ Z, Z = closedM (ts.map ActT.a) m := ⟨_, rfl⟩
        have IC := fun W (h : ActsT W (.slice a L cap) ts) => isClosed_any (.slice a L cap) ts M m W h (by simpa using hll) hm1 hm4 hokT hys (cntM (ts.map ActT.a) 0) (cntM (ts.map ActT.a) 1) (cntM (ts.map ActT.a) 2) (cntM (ts.map ActT.a) 3) hx0 hx1 hx2 hx3
        rw [← hZ] at IC
        have hsp : setOkM (ts.map ActT.a) m = (Y && Z) := by rw [HSP.out, hY, hZ, ← HX.out]; simp
        have HSP2 := Lib.hid hsp
        have HCU := Lib.hid CU
        have HIC := Lib.hid IC
        have HLL := Lib.hid hll
        have HSV : Hid (setVal (.slice a L cap) M m (ts.map ActT.a) = .agg #[.slice a L cap, .map (some M), .int .i64 m, .int .i64 (cntM (ts.map ActT.a) 0), .int .i64 (cntM (ts.map ActT.a) 1), .int .i64 (cntM (ts.map ActT.a) 2), .int .i64 (cntM (ts.map ActT.a) 3)]) := rfl
        clear CU IC hsp hys hx0 hx1 hx2 hx3 hcu hokT hokA hcl hY hZ hll HSP HX
        generalize hc0 : (cntM (ts.map ActT.a) 0 : Int) = x0 at *
        generalize hc1 : (cntM (ts.map ActT.a) 1 : Int) = x1 at *
        generalize hc2 : (cntM (ts.map ActT.a) 2 : Int) = x2 at *
        generalize hc3 : (cntM (ts.map ActT.a) 3 : Int) = x3 at *
        clear hc0 hc1 hc2 hc3
        have s0 := hks.out.cell 0
        have s1 := hks.out.cell 1
        have s2 := hks.out.cell 2
        have s3 := hks.out.cell 3
        have s4 := hks.out.cell 4
        have s5 := hks.out.cell 5
        have s6 := hks.out.cell 6
        simp only [List.getElem?_cons_zero, List.getElem?_cons_succ] at s0 s1 s2 s3 s4 s5 s6
        go_wp2_with fail
        refine (HCU.out _ hown.out).mono ?_
        rintro e w5 ⟨rfl, b5⟩
        have own5 := Lib.hid (hown.out.kept (below_grown b5 none) (by simp))
        have ks5 := Lib.hid (hks.out.below b5 hks.out.lt)
        have kr5 := Lib.hid (hkr.out.below b5 hkr.out.lt)
        have bel5 := Lib.hid (hbel.out.trans (b5.mono (Nat.le_of_lt hkr.out.lt)))
        have A5 := Lib.hid (HA.out.below (by rw [← HRB.out]; exact bel5.out))
        clear b5 s0 s1 s2 s3 s4 s5 s6 hown hks hkr hbel hA HCU
        have hown := own5
        have hks := ks5
        have hkr := kr5
        have hbel := bel5
        clear own5 ks5 kr5 bel5
        have s0 := hks.out.cell 0
        have s1 := hks.out.cell 1
        have s2 := hks.out.cell 2
        have s3 := hks.out.cell 3
        have s4 := hks.out.cell 4
        have s5 := hks.out.cell 5
        have s6 := hks.out.cell 6
        have r0 := hkr.out.cell 0
        have r1 := hkr.out.cell 1
        have r2 := hkr.out.cell 2
        have r3 := hkr.out.cell 3
        have r4 := hkr.out.cell 4
        have r5 := hkr.out.cell 5
        have r6 := hkr.out.cell 6
        simp only [List.getElem?_cons_zero, List.getElem?_cons_succ] at s0 s1 s2 s3 s4 s5 s6 r0 r1 r2 r3 r4 r5 r6
        have f0 := hkr.out.free
        cases Y
        · have HSF : Hid (setOkM (ts.map ActT.a) m = false) := Lib.hid (by rw [HSP2.out]; rfl)
          go_wp2_with fail
          refine bodyPost_ret (v := .tuple #[noSet, .bool false]) (by simp [results, Tryz.results33, go_sem, noSet, r0, r1, r2, r3, r4, r5, r6]) rfl ⟨?_, .inr ⟨HSF.out, rfl⟩⟩
          rw [← HRB.out]
          exact ((((((hbel.out.setCell (by simp) _).setCell (by simp) _).setCell (by simp) _).setCell (by simp) _).setCell (by simp) _).setCell (by simp) _).setCell (by simp) _
        · clear s0 s1 s2 s3 s4 s5 s6 r0 r1 r2 r3 r4 r5 r6
          have s0 := hks.out.cell 0
          have s1 := hks.out.cell 1
          have s2 := hks.out.cell 2
          have s3 := hks.out.cell 3
          have s4 := hks.out.cell 4
          have s5 := hks.out.cell 5
          have s6 := hks.out.cell 6
          simp only [List.getElem?_cons_zero, List.getElem?_cons_succ] at s0 s1 s2 s3 s4 s5 s6
          go_wp2_with fail
          refine (HIC.out _ A5.out).mono ?_
          rintro e w6 ⟨rfl, b6⟩
          have own6 := Lib.hid (hown.out.kept (below_grown b6 none) (by simp))
          have ks6 := Lib.hid (hks.out.below b6 hks.out.lt)
          have kr6 := Lib.hid (hkr.out.below b6 hkr.out.lt)
          have bel6 := Lib.hid (hbel.out.trans (b6.mono (Nat.le_of_lt hkr.out.lt)))
          clear b6 s0 s1 s2 s3 s4 s5 s6 f0 hown hks hkr hbel A5 HIC
          have hown := own6
          have hks := ks6
          have hkr := kr6
          have hbel := bel6
          clear own6 ks6 kr6 bel6
          have s0 := hks.out.cell 0
          have s1 := hks.out.cell 1
          have s2 := hks.out.cell 2
          have s3 := hks.out.cell 3
          have s4 := hks.out.cell 4
          have s5 := hks.out.cell 5
          have s6 := hks.out.cell 6
          have r0 := hkr.out.cell 0
          have r1 := hkr.out.cell 1
          have r2 := hkr.out.cell 2
          have r3 := hkr.out.cell 3
          have r4 := hkr.out.cell 4
          have r5 := hkr.out.cell 5
          have r6 := hkr.out.cell 6
          simp only [List.getElem?_cons_zero, List.getElem?_cons_succ] at s0 s1 s2 s3 s4 s5 s6 r0 r1 r2 r3 r4 r5 r6
          have f0 := hkr.out.free
          have lSM := hks.out.lt
          cases Z
          · have HSF : Hid (setOkM (ts.map ActT.a) m = false) := Lib.hid (by rw [HSP2.out]; rfl)
            go_wp2_with fail
            refine bodyPost_ret (v := .tuple #[noSet, .bool false]) (by simp [results, Tryz.results33, go_sem, noSet, r0, r1, r2, r3, r4, r5, r6]) rfl ⟨?_, .inr ⟨HSF.out, rfl⟩⟩
            rw [← HRB.out]
            exact ((((((hbel.out.setCell (by simp) _).setCell (by simp) _).setCell (by simp) _).setCell (by simp) _).setCell (by simp) _).setCell (by simp) _).setCell (by simp) _
          · have HST : Hid (setOkM (ts.map ActT.a) m = true) := Lib.hid (by rw [HSP2.out]; rfl)
            go_wp2_with fail
            have hMR : (some M : Option Nat) ≠ some RB := by simp; omega
            refine bodyPost_ret (v := .tuple #[setVal (.slice a L cap) M m (ts.map ActT.a), .bool true]) (by rw [HSV.out]; simp [results, Tryz.results33, go_sem, r0, r1, r2, r3, r4, r5, r6]) rfl ⟨?_, .inl ⟨HST.out, M, by rw [← HRB.out]; omega, rfl, ?_⟩⟩
            · rw [← HRB.out]
              exact ((((((hbel.out.setCell (by simp) _).setCell (by simp) _).setCell (by simp) _).setCell (by simp) _).setCell (by simp) _).setCell (by simp) _).setCell (by simp) _
            · rw [List.length_map, ← HL.out]
              exact (((((((hown.out.kept (grown_set RB 0 _) hMR).kept (grown_set RB 1 _) hMR).kept (grown_set RB 2 _) hMR).kept (grown_set RB 3 _) hMR).kept (grown_set RB 4 _) hMR).kept (grown_set RB 5 _) hMR).kept (grown_set RB 6 _) hMR)
    · have hL60i : (60 : Int) < (L : Int) := by omega
      have HSF : Hid (setOkM (ts.map ActT.a) n = false) := setOk_range _ _ (.inr (.inr (by rw [List.length_map, ← HL.out]; omega)))
      go_wp2_with fail
      exact bodyPost_ret (v := .tuple #[noSet, .bool false]) (by simp [results, Tryz.results33, go_sem, noSet, r0, r1, r2, r3, r4, r5, r6]) rfl ⟨HBAD.out _ HB0.out, .inr ⟨HSF.out, rfl⟩⟩
  · have e1 : inB n 1 4 = false := inB_no (by omega)
    rw [e1]
    have HSF : Hid (setOkM (ts.map ActT.a) n = false) := setOk_range _ _ (by omega)
    go_wp2_with fail
    exact bodyPost_ret (v := .tuple #[noSet, .bool false]) (by simp [results, Tryz.results33, go_sem, noSet, r0, r1, r2, r3, r4, r5, r6]) rfl ⟨HBAD.out _ HB0.out, .inr ⟨HSF.out, rfl⟩⟩
end Go.Proofs.YtkcfcmigcphjlaaGreat



namespace Go.Proofs.YtkcfcmigcphjlaaGreat
open Go.RowKit
set_option linter.unusedVariables false

def ImplSetOk : Prop := ∀ (v : Value) (l : List ActM) (n : Int) (w : World), Acts w v l → (-9223372036854775808 ≤ n ∧ n ≤ 9223372036854775807) →
  Calls Tryz.prog 8 #[v, .int .i64 n] w fun e w' => e = .returned (.bool (setOkM l n)) ∧ Below w.heap.size w w'

end Go.Proofs.YtkcfcmigcphjlaaGreat
namespace Go.Proofs.YtkcfcmigcphjlaaGreat
open Go.RowKit
set_option linter.unusedVariables false

set_option maxRecDepth 100000 in
set_option maxHeartbeats 1600000 in
theorem implSetOk_any : ImplSetOk := by
  intro v l n w h hn
  obtain ⟨ts, rfl, ht⟩ := h
  obtain ⟨a, cap, rfl⟩ := actsT_len ht
  have RS := Lib.hid (readSet_any _ ts n w ht hn)
  clear ht
  go_enter Tryz.func8, Tryz.ntmps8
  go_wp2_with fail
  refine RS.out.mono ?_
  rintro e w1 ⟨b1, (⟨hs, mb, _, rfl, _⟩ | ⟨hs, rfl⟩)⟩
  · have HS := Lib.hid hs
    have B1 := Lib.hid b1
    clear hs b1
    simp only [setVal]
    go_wp2_with fail
    go_ret
    refine ⟨ret_bool HS.out.symm, ?_⟩
    exact B1.out.alloc B1.out.size _
  · have HS := Lib.hid hs
    have B1 := Lib.hid b1
    clear hs b1
    simp only [noSet]
    go_wp2_with fail
    go_ret
    refine ⟨ret_bool HS.out.symm, ?_⟩
    exact B1.out.alloc B1.out.size _
end Go.Proofs.YtkcfcmigcphjlaaGreat
