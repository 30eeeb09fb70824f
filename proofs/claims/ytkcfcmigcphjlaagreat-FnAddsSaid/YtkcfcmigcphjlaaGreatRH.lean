/- The reference's DrawAddAct. -/
import Derived.Test.YtkcfcmigcphjlaaGreatRB
import Derived.Test.YtkcfcmigcphjlaaGreatRD
import Derived.Test.YtkcfcmigcphjlaaGreatGK
import Derived.Deep.DeepCutAuto
import Derived.StillTailTactics





namespace Go.Proofs.YtkcfcmigcphjlaaGreat
open Go.RowKit
set_option linter.unusedVariables false
set_option linter.unusedSimpArgs false

/-- acts that need not be a set, how many places, and an act, in new memory -/
def DrawnA (w : World) (e : Ending) (w' : World) : Prop := ∃ (v : Value) (l : List ActM) (n : Int) (T : ActT), e = .returned (.tuple #[v, .int .i64 n, T.val]) ∧ Acts w' v l ∧ SmallL l ∧ l.length ≤ 61 ∧ 0 ≤ n ∧ n ≤ 5 ∧ T.Reads w' ∧ T.a.Small ∧ Below w.heap.size w w'
structure AX (w : World) (R s : Nat) (v : Value) (ts : List ActT) (W : World) : Prop where
  st : StillT W s v ts
  rs : R < s
  rw : w.heap.size ≤ R
  b : Below w.heap.size w W
theorem AX.set {w W : World} {R s : Nat} {v : Value} {ts : List ActT} (h : AX w R s v ts W) (j : Nat) (u : Value) : AX w R s v ts (W.setCell ⟨R, j, none⟩ u) :=
  ⟨h.st.cur (grown_set R j u) h.rs, h.rs, h.rw, h.b.setCell h.rw u⟩
theorem AX.call {w W W' : World} {R s B : Nat} {v : Value} {ts : List ActT} (h : AX w R s v ts W) (hg : W.grownBy W' (some B)) (hB : B < s) (hw : w.heap.size ≤ B) : AX w R s v ts W' :=
  ⟨h.st.cur hg hB, h.rs, h.rw, h.b.grown hg h.b.size (fun g e => by cases e; exact hw)⟩
theorem AX.drew {w W : World} {R s : Nat} {v : Value} {ts : List ActT} (h : AX w R s v ts W) : AX w R s v ts W.drew :=
  ⟨h.st.below (Below.refl _ _).drew, h.rs, h.rw, h.b.drew⟩
set_option maxRecDepth 100000 in
set_option maxHeartbeats 3200000 in
theorem drawAddAct_any (a : Option Addr) (len cap : Nat) (w : World) (hm : len ≤ 9223372036854775807) (hc : Code w w.heap.size a len) : Calls Tryz.prog 16 #[.slice a len cap] w (DrawnA w) := by
  obtain ⟨R, hR⟩ : ∃ R, R = w.heap.size := ⟨_, rfl⟩
  obtain ⟨W0, hW0⟩ : ∃ W0, W0 = w.alloc (.cells #[.int .i64 0, .int .i64 0, .slice none 0 0, .int .i64 0, .int .i64 0, .int .i64 0, .int .i64 0, .int .i64 0, .int .i64 0, .int .i64 0, .slice none 0 0] 33) := ⟨_, rfl⟩
  have k1 := Blk.new w #[.int .i64 0, .int .i64 0, .slice none 0 0, .int .i64 0, .int .i64 0, .int .i64 0, .int .i64 0, .int .i64 0, .int .i64 0, .int .i64 0, .slice none 0 0] 33
  have b0 := (Below.refl w.heap.size w).alloc (Nat.le_refl _) (.cells #[.int .i64 0, .int .i64 0, .slice none 0 0, .int .i64 0, .int .i64 0, .int .i64 0, .int .i64 0, .int .i64 0, .int .i64 0, .int .i64 0, .slice none 0 0] 33)
  have hsz : W0.heap.size = w.heap.size + 1 := by rw [hW0]; simp
  rw [← hW0] at k1 b0
  have hc0 : Code W0 W0.heap.size a len := by
    have h1 : Code W0 w.heap.size a len := hc.other (fun b o hb => b0.cell (p := ⟨b, o, none⟩) hb)
    intro j hj
    obtain ⟨b, off, x, e, hb, r⟩ := h1 j hj
    exact ⟨b, off, x, e, by omega, r⟩
  have K1 := Lib.hid k1
  have B0 := Lib.hid b0
  have HC := Lib.hid hc0
  have HSZ := Lib.hid hsz
  have HR := Lib.hid hR
  clear k1 b0 hc0 hsz hR hc
  go_enter Tryz.func16, Tryz.ntmps16
  go_upto_region 1 with (fail)
  rw [← HR.out, ← hW0]
  clear hW0
  go_wp2_with fail
  refine (new_any a len cap _ hm HC.out).mono ?_
  rintro e w1 ⟨B, rfl, hB, hcu, hb1⟩
  have hBl := Lib.hid hcu.lt
  have HB := Lib.hid hB
  have KR := Lib.hid (K1.out.below hb1 (by rw [HSZ.out]; omega))
  have B1 := Lib.hid (B0.out.trans (hb1.mono (by rw [HSZ.out]; omega)))
  have C1 := Lib.hid hcu
  have S1 := Lib.hid (show R + 1 ≤ w1.heap.size from by have := hb1.size; have := HSZ.out; have := HR.out; omega)
  clear hcu hb1 hB K1 B0
  go_wp2_with fail
  refine (l3bent_any B _ C1.out).mono ?_
  rintro e w2 ⟨v, ts, n, rfl, hst, hs, hl, h0, h5, hc, hg⟩
  obtain ⟨x, c, rfl⟩ := actsT_len hst.now
  obtain ⟨m, hmm⟩ : ∃ m, m = ts.length := ⟨_, rfl⟩
  rw [← hmm] at hst ⊢
  have AX2 := Lib.hid (show AX w R w1.heap.size (.slice x m c) ts w2 from ⟨hst, by have := S1.out; omega, by have := HR.out; omega, B1.out.grown hg B1.out.size (fun g e => by cases e; have := HB.out; have := HSZ.out; omega)⟩)
  have K2 := Lib.hid (show Blk w2 w.heap.size _ from KR.out.grown hg (by have := HB.out; have := HSZ.out; omega))
  rw [← HR.out] at K2
  have SM := Lib.hid hs
  have HM := Lib.hid hmm
  have hm61 : m ≤ 61 := by omega
  have C2 := Lib.hid hc
  have hgsz := hg.size
  clear hst hs hl hc hg hmm KR C1 B1
  have HZ2 := Lib.hid (show w1.heap.size ≤ w2.heap.size from hgsz)
  have FIN : Hid (∀ (W : World), AX w R w1.heap.size (.slice x m c) ts W → ∀ T : ActT, T.Reads W → T.a.Small → DrawnA w (.returned (.tuple #[.slice x m c, .int .i64 n, T.val])) W) :=
    Lib.hid fun W h T hT hTs => ⟨_, ts.map ActT.a, n, T, rfl, ⟨ts, rfl, h.st.now⟩, SM.out, by rw [List.length_map]; have := HM.out; omega, h0, h5, hT, hTs, h.b⟩
  -- a further act
  by_cases hp : 0 < m
  · have hpi : (0 : Int) < (m : Int) := by omega
    obtain ⟨g, off, rfl⟩ : ∃ g off, x = some ⟨g, off, none⟩ := by
      obtain ⟨_, b, o, e, _⟩ := actsT_at AX2.out.st.now hp
      exact ⟨b, o, e⟩
    go_wp2_with fail
    refine (once_any B 3 _ C2.out (by omega)).mono ?_
    rintro e w3 ⟨b, rfl, hc, hg⟩
    have AX3 := Lib.hid (AX2.out.call hg hBl.out (by have := HB.out; have := HSZ.out; omega))
    have K3 := Lib.hid (K2.out.grown hg (by have := HB.out; have := HSZ.out; have := HR.out; omega))
    have C3 := Lib.hid hc
    have HZ := Lib.hid (show w1.heap.size ≤ w3.heap.size from Nat.le_trans HZ2.out hg.size)
    clear hc hg AX2 K2 C2
    cases b
    · obtain ⟨k, hk⟩ : ∃ k, m = k + 1 := ⟨m - 1, by omega⟩
      have hkt : k < m := by omega
      have hcp : m ≤ c := by
        rcases AX3.out.st.now.2 with ⟨a', cap', h', h2⟩ | ⟨b, off, cap', h', h1, h2, h3, h4⟩
        · simp only [Value.slice.injEq] at h'; have := HM.out; rw [h2] at this; simp at this; omega
        · simp only [Value.slice.injEq] at h'
          obtain ⟨_, rfl, rfl⟩ := h'
          exact h2
      have e2 : IntKind.i64.wrap ((m : Int) - 1) = k := by rw [IntWalk.i64_in _ (by omega)]; omega
      have i0 : (0 : Int) ≤ (k : Int) := by omega
      have i1 : (k : Int) < (m : Int) := by omega
      have i2 : k ≤ c := by omega
      have i3 : (k : Int) ≤ (c : Int) := by omega
      have HK := Lib.hid hk
      have XD := Lib.hid AX3.out.drew
      have KD := Lib.hid (show Blk w3.drew R _ from K3.out.drew)
      have RT := Lib.hid (fun W (h : AX w R w1.heap.size (.slice (some ⟨g, off, none⟩) m c) ts W) => h.st.now.1 _ (getD_mem (ts := ts) (i := k) (by have := HM.out; omega)))
      have ST := Lib.hid (show (ts.getD k t0).a.Small from SM.out.2 _ (List.mem_map.2 ⟨_, getD_mem (by have := HM.out; omega), rfl⟩))
      have c0 := fun W' (h : AX w R w1.heap.size (.slice (some ⟨g, off, none⟩) m c) ts W') => (h.st.at k hkt).c0
      have c1 := fun W' (h : AX w R w1.heap.size (.slice (some ⟨g, off, none⟩) m c) ts W') => (h.st.at k hkt).c1
      have c2 := fun W' (h : AX w R w1.heap.size (.slice (some ⟨g, off, none⟩) m c) ts W') => (h.st.at k hkt).c2
      have c3 := fun W' (h : AX w R w1.heap.size (.slice (some ⟨g, off, none⟩) m c) ts W') => (h.st.at k hkt).c3
      have c4 := fun W' (h : AX w R w1.heap.size (.slice (some ⟨g, off, none⟩) m c) ts W') => (h.st.at k hkt).c4
      have c5 := fun W' (h : AX w R w1.heap.size (.slice (some ⟨g, off, none⟩) m c) ts W') => (h.st.at k hkt).c5
      have c6 := fun W' (h : AX w R w1.heap.size (.slice (some ⟨g, off, none⟩) m c) ts W') => (h.st.at k hkt).c6
      have c7 := fun W' (h : AX w R w1.heap.size (.slice (some ⟨g, off, none⟩) m c) ts W') => (h.st.at k hkt).c7
      have c8 := fun W' (h : AX w R w1.heap.size (.slice (some ⟨g, off, none⟩) m c) ts W') => (h.st.at k hkt).c8
      have c9 := fun W' (h : AX w R w1.heap.size (.slice (some ⟨g, off, none⟩) m c) ts W') => (h.st.at k hkt).c9
      have c10 := fun W' (h : AX w R w1.heap.size (.slice (some ⟨g, off, none⟩) m c) ts W') => (h.st.at k hkt).c10
      have sh := slice_of (RT.out _ XD.out)
      obtain ⟨T, hT⟩ : ∃ T, T = ts.getD k t0 := ⟨_, rfl⟩
      rw [← hT] at c0 c1 c2 c3 c4 c5 c6 c7 c8 c9 c10 RT ST sh
      clear hT hk
      obtain ⟨xp, mp, yp, up, kp, zp, hdp, hsp⟩ := sh
      obtain ⟨⟨p0, p1, p2, p3, p4, p5, p6, p7, p8, p9, p10⟩, vd, vs⟩ := T
      simp only at hdp hsp c0 c1 c2 c3 c4 c5 c6 c7 c8 c9 c10
      subst hdp hsp
      have FN := Lib.hid (fun W (h : AX w R w1.heap.size (.slice (some ⟨g, off, none⟩) m c) ts W) => (show DrawnA w (.returned (.tuple #[.slice (some ⟨g, off, none⟩) k c, .int .i64 n, ActT.val ⟨⟨p0, p1, p2, p3, p4, p5, p6, p7, p8, p9, p10⟩, .slice xp mp yp, .slice up kp zp⟩])) W from
        ⟨_, (ts.take k).map ActT.a, n, _, rfl, ⟨ts.take k, rfl, actsT_take h.st.now k (by omega)⟩, ⟨by have := SM.out.1; simp at this ⊢; omega, fun a ha => SM.out.2 a (by rw [List.map_take] at ha; exact List.mem_of_mem_take ha)⟩, by have := HM.out; simp; omega, h0, h5, RT.out W h, ST.out, h.b⟩))
      clear FIN AX3 K3 C3
      go_wp2_with fail
      refine wp_region_still_tail 10 (by kernel_rfl) (by kernel_rfl) ?_
      simp only [List.take_succ_cons, List.take_zero, List.drop_succ_cons, List.drop_zero]
      change wpStill _ _ w3.drew _ _ _
      have g0 := c0 _ XD.out
      have g1 := c1 _ XD.out
      have g2 := c2 _ XD.out
      have g3 := c3 _ XD.out
      have g4 := c4 _ XD.out
      have g5 := c5 _ XD.out
      have g6 := c6 _ XD.out
      have g7 := c7 _ XD.out
      have g8 := c8 _ XD.out
      have g9 := c9 _ XD.out
      have g10 := c10 _ XD.out
      repeat still_step
      refine wpStill_nil ?_
      change wpList _ _ _ _ _ w3.drew
      clear g0 g1 g2 g3 g4 g5 g6 g7 g8 g9 g10 c0 c1 c2 c3 c4 c5 c6 c7 c8 c9 c10
      have d := KD.out.cell
      have f := KD.out.free
      clear KD
      generalize w3.drew = wd at d f XD ⊢
      go_wp2_with fail
      refine bodyPost_ret (v := .tuple #[.slice (some ⟨g, off, none⟩) k c, .int .i64 n, ActT.val ⟨⟨p0, p1, p2, p3, p4, p5, p6, p7, p8, p9, p10⟩, .slice xp mp yp, .slice up kp zp⟩]) (by simp [results, Tryz.results16, go_sem, d, ActT.val]) rfl (FN.out _ ?_)
      repeat (with_reducible refine AX.set ?_ _ _)
      with_reducible exact XD.out
    · go_wp2_with fail
      refine (l2bent_any B _ C3.out).mono ?_
      rintro e w4 ⟨⟨⟨q0, q1, q2, q3, q4, q5, q6, q7, q8, q9, q10⟩, vd, vs⟩, rfl, tow, tn, hc, hg⟩
      obtain ⟨xp, mp, yp, up, kp, zp, hdp, hsp⟩ := slice_of tow.reads
      simp only at hdp hsp tn
      subst hdp hsp
      have AX4 := Lib.hid (AX3.out.call hg hBl.out (by have := HB.out; have := HSZ.out; omega))
      have K4 := K3.out.grown hg (by have := HB.out; have := HSZ.out; have := HR.out; omega)
      have TO := Lib.hid (tow.other (grown11 w4 R (.int .i64 q0) (.int .i64 q1) (.slice xp mp yp) (.int .i64 q3) (.int .i64 q4) (.int .i64 q5) (.int .i64 q6) (.int .i64 q7) (.int .i64 q8) (.int .i64 q9) (.slice up kp zp)) (by have := AX3.out.rs; have := HZ.out; omega)).reads
      have TS := Lib.hid (show ActM.Small ⟨q0, q1, q2, q3, q4, q5, q6, q7, q8, q9, q10⟩ from ⟨by show q2.length ≤ _; omega, by show q10.length ≤ _; omega⟩)
      have d := K4.cell
      have f := K4.free
      clear tow tn hc hg K4 AX3 K3 C3
      simp only [ActT.val]
      go_wp2_with fail
      refine bodyPost_ret (v := .tuple #[.slice (some ⟨g, off, none⟩) m c, .int .i64 n, ActT.val ⟨⟨q0, q1, q2, q3, q4, q5, q6, q7, q8, q9, q10⟩, .slice xp mp yp, .slice up kp zp⟩]) (by simp [results, Tryz.results16, go_sem, d, ActT.val]) rfl (FIN.out _ ?_ _ TO.out TS.out)
      repeat (with_reducible refine AX.set ?_ _ _)
      with_reducible exact AX4.out
  · have hpi : ¬ (0 : Int) < (m : Int) := by omega
    have AX3 := AX2
    have HZ := HZ2
    have K3 := K2
    have C3 := C2
    go_wp2_with fail
    refine (l2bent_any B _ C3.out).mono ?_
    rintro e w4 ⟨⟨⟨q0, q1, q2, q3, q4, q5, q6, q7, q8, q9, q10⟩, vd, vs⟩, rfl, tow, tn, hc, hg⟩
    obtain ⟨xp, mp, yp, up, kp, zp, hdp, hsp⟩ := slice_of tow.reads
    simp only at hdp hsp tn
    subst hdp hsp
    have AX4 := Lib.hid (AX3.out.call hg hBl.out (by have := HB.out; have := HSZ.out; omega))
    have K4 := K3.out.grown hg (by have := HB.out; have := HSZ.out; have := HR.out; omega)
    have TO := Lib.hid (tow.other (grown11 w4 R (.int .i64 q0) (.int .i64 q1) (.slice xp mp yp) (.int .i64 q3) (.int .i64 q4) (.int .i64 q5) (.int .i64 q6) (.int .i64 q7) (.int .i64 q8) (.int .i64 q9) (.slice up kp zp)) (by have := AX3.out.rs; have := HZ.out; omega)).reads
    have TS := Lib.hid (show ActM.Small ⟨q0, q1, q2, q3, q4, q5, q6, q7, q8, q9, q10⟩ from ⟨by show q2.length ≤ _; omega, by show q10.length ≤ _; omega⟩)
    have d := K4.cell
    have f := K4.free
    clear tow tn hc hg K4 AX3 K3 C3
    simp only [ActT.val]
    go_wp2_with fail
    refine bodyPost_ret (v := .tuple #[.slice x m c, .int .i64 n, ActT.val ⟨⟨q0, q1, q2, q3, q4, q5, q6, q7, q8, q9, q10⟩, .slice xp mp yp, .slice up kp zp⟩]) (by simp [results, Tryz.results16, go_sem, d, ActT.val]) rfl (FIN.out _ ?_ _ TO.out TS.out)
    repeat (with_reducible refine AX.set ?_ _ _)
    with_reducible exact AX4.out
end Go.Proofs.YtkcfcmigcphjlaaGreat
