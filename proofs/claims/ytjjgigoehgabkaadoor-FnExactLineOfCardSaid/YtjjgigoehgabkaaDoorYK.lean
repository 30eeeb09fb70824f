/- The program's LineOf, LogText. -/
import Derived.Test.YtjjgigoehgabkaaDoorYJ
import Derived.Test.YtjjgigoehgabkaaDoorYH


namespace Go.Proofs.YtjjgigoehgabkaaDoor
open Go.RowKit
set_option linter.unusedVariables false
set_option linter.unusedSimpArgs false

theorem acts_lit (w : World) (t : ActT) (ht : t.Reads w) : ActsT (w.alloc (.cells #[.int .i64 t.a.r, .int .i64 t.a.n, t.vd, .int .i64 t.a.actor, .int .i64 t.a.kind, .int .i64 t.a.to, .int .i64 t.a.bucket, .int .i64 t.a.mask, .int .i64 t.a.gr, .int .i64 t.a.gn, t.vs] 30)) (.slice (some ⟨w.heap.size, 0, none⟩) 1 1) [t] := by
  have kb := Blk.new w #[.int .i64 t.a.r, .int .i64 t.a.n, t.vd, .int .i64 t.a.actor, .int .i64 t.a.kind, .int .i64 t.a.to, .int .i64 t.a.bucket, .int .i64 t.a.mask, .int .i64 t.a.gr, .int .i64 t.a.gn, t.vs] 30
  have hb := (Below.refl w.heap.size w).alloc (Nat.le_refl _) (.cells #[.int .i64 t.a.r, .int .i64 t.a.n, t.vd, .int .i64 t.a.actor, .int .i64 t.a.kind, .int .i64 t.a.to, .int .i64 t.a.bucket, .int .i64 t.a.mask, .int .i64 t.a.gr, .int .i64 t.a.gn, t.vs] 30)
  refine ⟨fun x hx => ?_, .inr ⟨w.heap.size, 0, 1, rfl, by simp, Nat.le_refl _, by unfold maxLen; omega, fun i hi => ?_⟩⟩
  · obtain rfl : x = t := by simpa using hx
    exact ht.below hb
  · obtain rfl : i = 0 := by simpa using hi
    exact ⟨kb.cell 0, kb.cell 1, kb.cell 2, kb.cell 3, kb.cell 4, kb.cell 5, kb.cell 6, kb.cell 7, kb.cell 8, kb.cell 9, kb.cell 10⟩

set_option maxRecDepth 100000 in
set_option maxHeartbeats 1600000 in
theorem implLineOf_any (t : ActT) (w : World) (ht : t.Reads w) (hs : t.a.Small) (hB : ActB t.a) (hT : Tab w) :
    Calls Tryd.prog 12 #[t.val] w fun e w' => e = .returned (.string ⟨(lineL t.a).toArray⟩) ∧ Below w.heap.size w w' := by
  have hs1 := hs.1
  have hs2 := hs.2
  have LN := Lib.hid (fun v W (h : ActsT W v [t]) (hT : Tab W) => lines_any v [t] W h ⟨by simp, by simpa using hs⟩ (by simpa using hB) (by simp only [List.map_cons, List.map_nil, szL, szA]; omega) hT)
  have AL := Lib.hid (fun W (h : t.Reads W) => acts_lit W t h)
  have HT := Lib.hid ht
  have HTB := Lib.hid hT
  have hl : logL ([t].map ActT.a) = lineL t.a := by simp [logL]
  rw [hl] at LN
  generalize lineL t.a = LINE at *
  clear hl ht hs hB hT hs1 hs2
  obtain ⟨⟨r, nn, dep, actor, kind, dst, bucket, mask, gr, gn, ups⟩, vd, vs⟩ := t
  simp only [ActT.val] at AL ⊢
  have B0 := Lib.hid ((Below.refl w.heap.size w).alloc (Nat.le_refl _) (.cells #[.int .i64 r, .int .i64 nn, vd, .int .i64 actor, .int .i64 kind, .int .i64 dst, .int .i64 bucket, .int .i64 mask, .int .i64 gr, .int .i64 gn, vs] 30))
  obtain ⟨w1, hw1⟩ : ∃ W, W = w.alloc (.cells #[.int .i64 r, .int .i64 nn, vd, .int .i64 actor, .int .i64 kind, .int .i64 dst, .int .i64 bucket, .int .i64 mask, .int .i64 gr, .int .i64 gn, vs] 30) := ⟨_, rfl⟩
  have kb := Blk.new w #[.int .i64 r, .int .i64 nn, vd, .int .i64 actor, .int .i64 kind, .int .i64 dst, .int .i64 bucket, .int .i64 mask, .int .i64 gr, .int .i64 gn, vs] 30
  obtain ⟨pB, hpB⟩ : ∃ q, q = w.heap.size := ⟨_, rfl⟩
  rw [← hw1] at B0
  rw [← hw1, ← hpB] at kb
  have HW := Lib.hid hw1
  go_enter Tryd.func12, Tryd.ntmps12
  go_upto_region 1 with (fail)
  rw [← HW.out, ← hpB]
  clear hw1 HW hpB
  have k0 := kb.cell 0
  have k1 := kb.cell 1
  have k2 := kb.cell 2
  have k3 := kb.cell 3
  have k4 := kb.cell 4
  have k5 := kb.cell 5
  have k6 := kb.cell 6
  have k7 := kb.cell 7
  have k8 := kb.cell 8
  have k9 := kb.cell 9
  have k10 := kb.cell 10
  simp only [List.getElem?_cons_zero, List.getElem?_cons_succ] at k0 k1 k2 k3 k4 k5 k6 k7 k8 k9 k10
  have AA := Lib.hid (AL.out w1 (HT.out.below B0.out))
  have B1 := Lib.hid (B0.out.alloc B0.out.size (.cells #[.int .i64 r, .int .i64 nn, vd, .int .i64 actor, .int .i64 kind, .int .i64 dst, .int .i64 bucket, .int .i64 mask, .int .i64 gr, .int .i64 gn, vs] 30))
  go_wp2_with fail
  refine (LN.out _ _ AA.out (HTB.out.below B1.out)).mono ?_
  rintro e w2 ⟨rfl, b2⟩
  have B2 := Lib.hid (B1.out.trans (b2.mono B1.out.size))
  clear b2
  go_wp2_with fail
  go_ret
  exact ⟨rfl, B2.out⟩
set_option maxHeartbeats 1600000 in
theorem implLogText_any (v : Value) (ts : List ActT) (w : World) (h : ActsT w v ts) (hs : SmallL (ts.map ActT.a)) (hB : ∀ a ∈ ts.map ActT.a, ActB a) (hz : szL (ts.map ActT.a) ≤ 9437184) (hT : Tab w) :
    Calls Tryd.prog 16 #[v] w fun e w' => e = .returned (.string ⟨(logL (ts.map ActT.a)).toArray⟩) ∧ Below w.heap.size w w' := by
  have LN := Lib.hid (lines_any v ts w h hs hB hz hT)
  obtain ⟨a, cap, rfl⟩ := actsT_len h
  generalize logL (ts.map ActT.a) = LOG at *
  clear h hs hB hz hT
  generalize ts.length = K at *
  go_enter Tryd.func16, Tryd.ntmps16
  go_wp2_with fail
  refine LN.out.mono ?_
  rintro e w2 ⟨rfl, b2⟩
  have B2 := Lib.hid b2
  clear b2
  go_wp2_with fail
  go_ret
  exact ⟨rfl, B2.out⟩
theorem specLineOf2 (v : Value) (a : ActM) (w : World) (h : ActIs w v a) (hs : a.Small) (hB : ActB a) : Calls Tryd.prog 11 #[v] w fun e w' => e = .returned (.string ⟨(lineL a).toArray⟩) ∧ Below w.heap.size w w' := by
  obtain ⟨vd, vs, rfl, hd, hu⟩ := h
  exact specLineOf_any ⟨a, vd, vs⟩ w ⟨hd, hu⟩ hs hB
theorem implLineOf2 (v : Value) (a : ActM) (w : World) (h : ActIs w v a) (hs : a.Small) (hB : ActB a) (hT : Tab w) : Calls Tryd.prog 12 #[v] w fun e w' => e = .returned (.string ⟨(lineL a).toArray⟩) ∧ Below w.heap.size w w' := by
  obtain ⟨vd, vs, rfl, hd, hu⟩ := h
  exact implLineOf_any ⟨a, vd, vs⟩ w ⟨hd, hu⟩ hs hB hT
theorem specLogText2 (v : Value) (l : List ActM) (w : World) (h : Acts w v l) (hs : SmallL l) (hz : szL l ≤ 9437184) (hB : ∀ a ∈ l, ActB a) : Calls Tryd.prog 14 #[v] w fun e w' => e = .returned (.string ⟨(logL l).toArray⟩) ∧ Below w.heap.size w w' := by
  obtain ⟨ts, rfl, ht⟩ := h
  exact specLogText_any v ts w ht hs hB hz
theorem implLogText2 (v : Value) (l : List ActM) (w : World) (h : Acts w v l) (hs : SmallL l) (hz : szL l ≤ 9437184) (hB : ∀ a ∈ l, ActB a) (hT : Tab w) : Calls Tryd.prog 16 #[v] w fun e w' => e = .returned (.string ⟨(logL l).toArray⟩) ∧ Below w.heap.size w w' := by
  obtain ⟨ts, rfl, ht⟩ := h
  exact implLogText_any v ts w ht hs hB hz hT

end Go.Proofs.YtjjgigoehgabkaaDoor
