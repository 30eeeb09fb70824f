/- The reference's draws of acts: DrawKnows, DrawAhead, DrawNeeds. -/
import Derived.Test.YtcgncaiehdcooaaDF
import Derived.Test.YtcgncaiehdcooaaU
namespace Go.Proofs.Ytcgncaiehdcooaa
open Go.RowKit
set_option linter.unusedVariables false

/-- two acts that read, in new memory -/
def TwoActs (w : World) (e : Ending) (w' : World) : Prop := ∃ s t : ActT, e = .returned (.tuple #[s.val, t.val]) ∧ s.Owns w' w.heap.size ∧ t.Owns w' w.heap.size ∧ (s.a.dep.length ≤ 6 ∧ t.a.dep.length ≤ 6) ∧ Below w.heap.size w w'
/-- while two acts are drawn: the first lies in block P, the answer's blocks are R and R + 1 -/
structure Two (w : World) (B P : Nat) (s : ActT) (W : World) : Prop where
  b : w.heap.size + 2 ≤ B
  p : B < P
  bl : B < W.heap.size
  o : s.Owns W (B + 1)
  k : Blk W P s.cells
  r1 : ∃ l : List Value, l.length = 11 ∧ Blk W w.heap.size l
  r2 : ∃ l : List Value, l.length = 11 ∧ Blk W (w.heap.size + 1) l
  g : Below w.heap.size w W
theorem Two.call {w W W' : World} {B P : Nat} {s : ActT} (h : Two w B P s W) (hg : W.grownBy W' (some B)) : Two w B P s W' := by
  have h1 := h.b
  have h2 := h.p
  have h3 := h.bl
  obtain ⟨l1, q1, k1⟩ := h.r1
  obtain ⟨l2, q2, k2⟩ := h.r2
  exact ⟨h.b, h.p, Nat.lt_of_lt_of_le h.bl hg.size, h.o.other hg (by omega), h.k.grown hg (by omega), ⟨l1, q1, k1.grown hg (by omega)⟩, ⟨l2, q2, k2.grown hg (by omega)⟩, h.g.grown hg (by omega) (fun k e => by cases e; omega)⟩
theorem Two.drew {w W : World} {B P : Nat} {s : ActT} (h : Two w B P s W) : Two w B P s W.drew := h.call (grown_drew W _)
theorem Two.set {w W : World} {B P r : Nat} {s : ActT} (h : Two w B P s W) (hr : r = w.heap.size ∨ r = w.heap.size + 1) (j : Nat) (v : Value) (hj : j < 11) : Two w B P s (W.setCell ⟨r, j, none⟩ v) := by
  have h1 := h.b
  have h2 := h.p
  have h3 := h.bl
  have hg : W.grownBy (W.setCell ⟨r, j, none⟩ v) (some r) := grown_set r j v
  obtain ⟨l1, q1, k1⟩ := h.r1
  obtain ⟨l2, q2, k2⟩ := h.r2
  refine ⟨h.b, h.p, by simpa [World.setCell] using h.bl, h.o.other hg (by omega), h.k.grown hg (by omega), ?_, ?_, h.g.setCell (by show w.heap.size ≤ r; omega) v⟩
  · rcases hr with rfl | rfl
    · exact ⟨_, by simpa using q1, k1.set (by omega) v⟩
    · exact ⟨l1, q1, k1.grown hg (by omega)⟩
  · rcases hr with rfl | rfl
    · exact ⟨l2, q2, k2.grown hg (by omega)⟩
    · exact ⟨_, by simpa using q2, k2.set (by omega) v⟩

set_option maxRecDepth 100000 in
set_option maxHeartbeats 6400000 in
theorem drawKnows_any (a : Option Addr) (len cap : Nat) (w : World) (hm : len ≤ 9223372036854775807) (hc : Code w w.heap.size a len) : Calls Try.prog 13 #[.slice a len cap] w (TwoActs w) := by
  obtain ⟨R, hR⟩ : ∃ R, R = w.heap.size := ⟨_, rfl⟩
  obtain ⟨W0, hW0⟩ : ∃ W0, W0 = (w.alloc (.cells #[.int .i64 0, .int .i64 0, .slice none 0 0, .int .i64 0, .int .i64 0, .int .i64 0, .int .i64 0, .int .i64 0, .int .i64 0, .int .i64 0, .slice none 0 0] 26)).alloc (.cells #[.int .i64 0, .int .i64 0, .slice none 0 0, .int .i64 0, .int .i64 0, .int .i64 0, .int .i64 0, .int .i64 0, .int .i64 0, .int .i64 0, .slice none 0 0] 26) := ⟨_, rfl⟩
  have k1 := (Blk.new w #[.int .i64 0, .int .i64 0, .slice none 0 0, .int .i64 0, .int .i64 0, .int .i64 0, .int .i64 0, .int .i64 0, .int .i64 0, .int .i64 0, .slice none 0 0] 26).alloc (.cells #[.int .i64 0, .int .i64 0, .slice none 0 0, .int .i64 0, .int .i64 0, .int .i64 0, .int .i64 0, .int .i64 0, .int .i64 0, .int .i64 0, .slice none 0 0] 26)
  have k2 := Blk.new (w.alloc (.cells #[.int .i64 0, .int .i64 0, .slice none 0 0, .int .i64 0, .int .i64 0, .int .i64 0, .int .i64 0, .int .i64 0, .int .i64 0, .int .i64 0, .slice none 0 0] 26)) #[.int .i64 0, .int .i64 0, .slice none 0 0, .int .i64 0, .int .i64 0, .int .i64 0, .int .i64 0, .int .i64 0, .int .i64 0, .int .i64 0, .slice none 0 0] 26
  have b0 := ((Below.refl w.heap.size w).alloc (Nat.le_refl _) (.cells #[.int .i64 0, .int .i64 0, .slice none 0 0, .int .i64 0, .int .i64 0, .int .i64 0, .int .i64 0, .int .i64 0, .int .i64 0, .int .i64 0, .slice none 0 0] 26)).alloc (by simp) (.cells #[.int .i64 0, .int .i64 0, .slice none 0 0, .int .i64 0, .int .i64 0, .int .i64 0, .int .i64 0, .int .i64 0, .int .i64 0, .int .i64 0, .slice none 0 0] 26)
  have hsz : W0.heap.size = w.heap.size + 2 := by rw [hW0]; simp
  rw [World.size_alloc] at k2
  rw [← hW0] at k1 k2 b0
  have hc0 : Code W0 W0.heap.size a len := by
    have h1 : Code W0 w.heap.size a len := hc.other (fun b o hb => b0.cell (p := ⟨b, o, none⟩) hb)
    intro j hj
    obtain ⟨b, off, x, e, hb, r⟩ := h1 j hj
    exact ⟨b, off, x, e, by omega, r⟩
  have K1 := Lib.hid k1
  have K2 := Lib.hid k2
  have B0 := Lib.hid b0
  have HC := Lib.hid hc0
  have HSZ := Lib.hid hsz
  have HR := Lib.hid hR
  clear k1 k2 b0 hc0 hsz hR hc
  go_enter Try.func13, Try.ntmps13
  go_upto_region 1 with (fail)
  rw [← HR.out, ← hW0]
  clear hW0
  go_wp2_with fail
  refine (new_any a len cap _ hm HC.out).mono ?_
  rintro e w1 ⟨B, rfl, hB, hcu, hb1⟩
  have hBl := hcu.lt
  have C1 := Lib.hid hcu
  have B1 := Lib.hid hb1
  clear hcu hb1
  go_wp2_with fail
  refine (l2bent_any B _ C1.out).mono ?_
  rintro e w2 ⟨⟨⟨q0, q1, q2, q3, q4, q5, q6, q7, q8, q9, q10⟩, vd, vs⟩, rfl, tow, tn, hc, hg⟩
  have hsd := ints_len tow.reads.1
  have hsu := row_shape tow.2
  simp only at hsd hsu tn
  obtain ⟨da, dc, rfl⟩ := hsd
  obtain ⟨ua, uc, rfl⟩ := hsu
  obtain ⟨P, hP⟩ : ∃ P, P = w2.heap.size := ⟨_, rfl⟩
  obtain ⟨W3, hW3⟩ : ∃ W3, W3 = w2.alloc (.cells #[.int .i64 q0, .int .i64 q1, .slice da q2.length dc, .int .i64 q3, .int .i64 q4, .int .i64 q5, .int .i64 q6, .int .i64 q7, .int .i64 q8, .int .i64 q9, .slice ua q10.length uc] 26) := ⟨_, rfl⟩
  have t3 : Two w B P ⟨⟨q0, q1, q2, q3, q4, q5, q6, q7, q8, q9, q10⟩, .slice da q2.length dc, .slice ua q10.length uc⟩ W3 := by
    have h1 := HSZ.out
    have h2 := B1.out.size
    have h3 := hg.size
    have ga := grown_alloc w2 (.cells #[.int .i64 q0, .int .i64 q1, .slice da q2.length dc, .int .i64 q3, .int .i64 q4, .int .i64 q5, .int .i64 q6, .int .i64 q7, .int .i64 q8, .int .i64 q9, .slice ua q10.length uc] 26) (some B)
    rw [hW3, hP]
    refine ⟨by omega, by omega, by simp; omega, (tow.less (by omega)).other ga (by omega), Blk.new w2 _ _, ⟨_, rfl, ((K1.out.below B1.out (by omega)).grown hg (by omega)).alloc _⟩, ⟨_, rfl, ((K2.out.below B1.out (by omega)).grown hg (by omega)).alloc _⟩, ?_⟩
    exact ((B0.out.trans (B1.out.mono (by omega))).grown hg (by omega) (fun k e => by cases e; omega)).alloc (by omega) _
  have C3 := Lib.hid (hc.grown (grown_alloc w2 (.cells #[.int .i64 q0, .int .i64 q1, .slice da q2.length dc, .int .i64 q3, .int .i64 q4, .int .i64 q5, .int .i64 q6, .int .i64 q7, .int .i64 q8, .int .i64 q9, .slice ua q10.length uc] 26) none) (fun g e => by cases e))
  rw [← hW3] at C3
  have T3 := Lib.hid t3
  have TN := Lib.hid tn
  have hRB := Lib.hid (show R + 2 ≤ B by have := T3.out.b; have := HR.out; omega)
  have KZ1 := Lib.hid (show Blk W3 R [.int .i64 0, .int .i64 0, .slice none 0 0, .int .i64 0, .int .i64 0, .int .i64 0, .int .i64 0, .int .i64 0, .int .i64 0, .int .i64 0, .slice none 0 0] from by rw [hW3]; have := HSZ.out; have := HR.out; subst this; exact ((K1.out.below B1.out (by omega)).grown hg (by have := T3.out.b; omega)).alloc _)
  have KZ2 := Lib.hid (show Blk W3 (R + 1) [.int .i64 0, .int .i64 0, .slice none 0 0, .int .i64 0, .int .i64 0, .int .i64 0, .int .i64 0, .int .i64 0, .int .i64 0, .int .i64 0, .slice none 0 0] from by rw [hW3]; have := HSZ.out; have := HR.out; subst this; exact ((K2.out.below B1.out (by omega)).grown hg (by have := T3.out.b; omega)).alloc _)
  have C3d := Lib.hid (C3.out.grown (grown_drew W3 none) (fun g e => by cases e))
  clear tow tn hc hg t3
  simp only [ActT.val]
  go_upto_region 3 with (fail)
  rw [← hP, ← hW3]
  clear hP hW3 K1 K2 B0 B1 C1
  have hne1 : R ≠ P := by have := T3.out.b; have := T3.out.p; have := HR.out; omega
  have KP := Lib.hid (fun W (h : Two w B P ⟨⟨q0, q1, q2, q3, q4, q5, q6, q7, q8, q9, q10⟩, .slice da q2.length dc, .slice ua q10.length uc⟩ W) => (show Two w B P ⟨⟨q0, q1, q2, q3, q4, q5, q6, q7, q8, q9, q10⟩, .slice da q2.length dc, .slice ua q10.length uc⟩ W ∧ ∀ j, W.cell? ⟨P, j, none⟩ = ([.int .i64 q0, .int .i64 q1, .slice da q2.length dc, .int .i64 q3, .int .i64 q4, .int .i64 q5, .int .i64 q6, .int .i64 q7, .int .i64 q8, .int .i64 q9, .slice ua q10.length uc] : List Value)[j]? from ⟨h, h.k.cell⟩))
  have hr1 : R = w.heap.size ∨ R = w.heap.size + 1 := .inl HR.out
  have hr2 : R + 1 = w.heap.size ∨ R + 1 = w.heap.size + 1 := .inr (by rw [HR.out])
  go_region_held3 (fun W => Two w B P ⟨⟨q0, q1, q2, q3, q4, q5, q6, q7, q8, q9, q10⟩, .slice da q2.length dc, .slice ua q10.length uc⟩ W ∧ ∀ j, W.cell? ⟨P, j, none⟩ = ([.int .i64 q0, .int .i64 q1, .slice da q2.length dc, .int .i64 q3, .int .i64 q4, .int .i64 q5, .int .i64 q6, .int .i64 q7, .int .i64 q8, .int .i64 q9, .slice ua q10.length uc] : List Value)[j]?)
    (first | (with_reducible exact KP.out _ T3.out.drew) | (refine KP.out _ ?_; (repeat (first | (with_reducible refine Two.set ?_ hr1 _ _ (by omega)) | (with_reducible refine Two.set ?_ hr2 _ _ (by omega)))); first | (with_reducible exact T4.out)))
    ((go_at_call 53; (with_reducible refine (l2bent_any B W3.drew C3d.out).mono ?_); rintro e w4 ⟨⟨⟨p0, p1, p2, p3, p4, p5, p6, p7, p8, p9, p10⟩, ve, vt⟩, rfl, tow2, tn2, hc4, hg4⟩; have T4 := Lib.hid (T3.out.drew.call hg4); have hsd := ints_len tow2.reads.1; have hsu := row_shape tow2.2; simp only at hsd hsu tn2; obtain ⟨db, dd, rfl⟩ := hsd; obtain ⟨ub, ud, rfl⟩ := hsu; have TOW2 := Lib.hid tow2; have TN2 := Lib.hid tn2; have kk1 := (KZ1.out.drew.grown hg4 (by have := hRB.out; omega)); have kk2 := (KZ2.out.drew.grown hg4 (by have := hRB.out; omega)); simp only [ActT.val]; clear tow2 tn2 hc4 hg4; have f1 := kk1.free; have f2 := kk2.free; have c1 := kk1.cell; have c2 := kk2.cell; clear kk1 kk2))
  go_wp2_with fail
  refine bodyPost_ret (v := .tuple #[ActT.val ⟨⟨q0, q1, q2, q3, q4, q5, q6, q7, q8, q9, q10⟩, .slice da q2.length dc, .slice ua q10.length uc⟩, ActT.val ⟨⟨p0, p1, p2, p3, p4, p5, p6, p7, p8, p9, p10⟩, .slice db p2.length dd, .slice ub p10.length ud⟩]) (by simp [results, Try.results13, go_sem, c1, c2, ActT.val]) rfl ⟨⟨⟨q0, q1, q2, q3, q4, q5, q6, q7, q8, q9, q10⟩, .slice da q2.length dc, .slice ua q10.length uc⟩, ⟨⟨p0, p1, p2, p3, p4, p5, p6, p7, p8, p9, p10⟩, .slice db p2.length dd, .slice ub p10.length ud⟩, rfl, ?_, ?_, ⟨TN.out.2.1, TN2.out.2.1⟩, ?_⟩
  · exact ((T4.out.o.other (grown11 w4 R ..) (by have := hRB.out; omega)).other (grown11 _ (R + 1) ..) (by have := hRB.out; omega)).less (by have := T4.out.b; omega)
  · have hl3 : B < W3.drew.heap.size := T3.out.bl
    exact ((TOW2.out.other (grown11 w4 R ..) (by have := hRB.out; omega)).other (grown11 _ (R + 1) ..) (by have := hRB.out; omega)).less T3.out.g.size
  · have hl4 := T4.out.bl
    have hsw := T4.out.g.size
    refine Below.grown (Below.grown T4.out.g (grown11 w4 R ..) hsw (fun k e => by cases e; rw [HR.out]; exact Nat.le_refl _)) (grown11 _ (R + 1) ..) (by simpa [World.setCell] using hsw) (fun k e => by cases e; rw [HR.out]; omega)


set_option maxRecDepth 100000 in
set_option maxHeartbeats 6400000 in
theorem drawAhead_any (a : Option Addr) (len cap : Nat) (w : World) (hm : len ≤ 9223372036854775807) (hc : Code w w.heap.size a len) : Calls Try.prog 19 #[.slice a len cap] w (TwoActs w) := by
  obtain ⟨R, hR⟩ : ∃ R, R = w.heap.size := ⟨_, rfl⟩
  obtain ⟨W0, hW0⟩ : ∃ W0, W0 = (w.alloc (.cells #[.int .i64 0, .int .i64 0, .slice none 0 0, .int .i64 0, .int .i64 0, .int .i64 0, .int .i64 0, .int .i64 0, .int .i64 0, .int .i64 0, .slice none 0 0] 26)).alloc (.cells #[.int .i64 0, .int .i64 0, .slice none 0 0, .int .i64 0, .int .i64 0, .int .i64 0, .int .i64 0, .int .i64 0, .int .i64 0, .int .i64 0, .slice none 0 0] 26) := ⟨_, rfl⟩
  have k1 := (Blk.new w #[.int .i64 0, .int .i64 0, .slice none 0 0, .int .i64 0, .int .i64 0, .int .i64 0, .int .i64 0, .int .i64 0, .int .i64 0, .int .i64 0, .slice none 0 0] 26).alloc (.cells #[.int .i64 0, .int .i64 0, .slice none 0 0, .int .i64 0, .int .i64 0, .int .i64 0, .int .i64 0, .int .i64 0, .int .i64 0, .int .i64 0, .slice none 0 0] 26)
  have k2 := Blk.new (w.alloc (.cells #[.int .i64 0, .int .i64 0, .slice none 0 0, .int .i64 0, .int .i64 0, .int .i64 0, .int .i64 0, .int .i64 0, .int .i64 0, .int .i64 0, .slice none 0 0] 26)) #[.int .i64 0, .int .i64 0, .slice none 0 0, .int .i64 0, .int .i64 0, .int .i64 0, .int .i64 0, .int .i64 0, .int .i64 0, .int .i64 0, .slice none 0 0] 26
  have b0 := ((Below.refl w.heap.size w).alloc (Nat.le_refl _) (.cells #[.int .i64 0, .int .i64 0, .slice none 0 0, .int .i64 0, .int .i64 0, .int .i64 0, .int .i64 0, .int .i64 0, .int .i64 0, .int .i64 0, .slice none 0 0] 26)).alloc (by simp) (.cells #[.int .i64 0, .int .i64 0, .slice none 0 0, .int .i64 0, .int .i64 0, .int .i64 0, .int .i64 0, .int .i64 0, .int .i64 0, .int .i64 0, .slice none 0 0] 26)
  have hsz : W0.heap.size = w.heap.size + 2 := by rw [hW0]; simp
  rw [World.size_alloc] at k2
  rw [← hW0] at k1 k2 b0
  have hc0 : Code W0 W0.heap.size a len := by
    have h1 : Code W0 w.heap.size a len := hc.other (fun b o hb => b0.cell (p := ⟨b, o, none⟩) hb)
    intro j hj
    obtain ⟨b, off, x, e, hb, r⟩ := h1 j hj
    exact ⟨b, off, x, e, by omega, r⟩
  have K1 := Lib.hid k1
  have K2 := Lib.hid k2
  have B0 := Lib.hid b0
  have HC := Lib.hid hc0
  have HSZ := Lib.hid hsz
  have HR := Lib.hid hR
  clear k1 k2 b0 hc0 hsz hR hc
  go_enter Try.func19, Try.ntmps19
  go_upto_region 1 with (fail)
  rw [← HR.out, ← hW0]
  clear hW0
  go_wp2_with fail
  refine (drawKnows_any a len cap _ hm HC.out).mono ?_
  rintro e w4 ⟨⟨⟨q0, q1, q2, q3, q4, q5, q6, q7, q8, q9, q10⟩, vd, vs⟩, ⟨⟨p0, p1, p2, p3, p4, p5, p6, p7, p8, p9, p10⟩, ve, vt⟩, rfl, r1, r2, hn, hb⟩
  have hsd := ints_len r1.reads.1
  have hsu := row_shape r1.2
  have hse := ints_len r2.reads.1
  have hst := row_shape r2.2
  simp only at hsd hsu hse hst
  obtain ⟨da, dc, rfl⟩ := hsd
  obtain ⟨ua, uc, rfl⟩ := hsu
  obtain ⟨db, dd, rfl⟩ := hse
  obtain ⟨ub, ud, rfl⟩ := hst
  have hR1 : R < W0.heap.size := by have := HSZ.out; have := HR.out; omega
  have hR2 : R + 1 < W0.heap.size := by have := HSZ.out; have := HR.out; omega
  have kk1 := K1.out.below hb (by have := HSZ.out; omega)
  have kk2 := K2.out.below hb (by have := HSZ.out; omega)
  rw [← HR.out] at kk1 kk2
  have c1 := kk1.cell
  have c2 := kk2.cell
  have f1 := kk1.free
  have f2 := kk2.free
  have R1 := Lib.hid r1
  have R2 := Lib.hid r2
  have HN := Lib.hid hn
  have HB := Lib.hid (B0.out.trans (hb.mono (by have := HSZ.out; omega)))
  clear r1 r2 hn hb kk1 kk2 K1 K2 hR1 hR2
  simp only [ActT.val]
  go_wp2_with fail
  have hlo := HSZ.out
  have hRw := HR.out
  refine bodyPost_ret (v := .tuple #[ActT.val ⟨⟨q0, q1, q2, q3, q4, q5, q6, q7, q8, q9, q10⟩, .slice da q2.length dc, .slice ua q10.length uc⟩, ActT.val ⟨⟨p0, p1, p2, p3, p4, p5, p6, p7, p8, p9, p10⟩, .slice db p2.length dd, .slice ub p10.length ud⟩]) (by simp [results, Try.results19, go_sem, c1, c2, ActT.val]) rfl ⟨⟨⟨q0, q1, q2, q3, q4, q5, q6, q7, q8, q9, q10⟩, .slice da q2.length dc, .slice ua q10.length uc⟩, ⟨⟨p0, p1, p2, p3, p4, p5, p6, p7, p8, p9, p10⟩, .slice db p2.length dd, .slice ub p10.length ud⟩, rfl, ?_, ?_, HN.out, ?_⟩
  · exact ((R1.out.other (grown11 w4 R ..) (by omega)).other (grown11 _ (R + 1) ..) (by omega)).less (by omega)
  · exact ((R2.out.other (grown11 w4 R ..) (by omega)).other (grown11 _ (R + 1) ..) (by omega)).less (by omega)
  · have hsw := HB.out.size
    refine Below.grown (Below.grown HB.out (grown11 w4 R ..) hsw (fun k e => by cases e; omega)) (grown11 _ (R + 1) ..) (by simpa [World.setCell] using hsw) (fun k e => by cases e; omega)

/-- an act that reads and a number, in new memory -/
def ActAnd (w : World) (e : Ending) (w' : World) : Prop := ∃ (s : ActT) (k : Int), e = .returned (.tuple #[s.val, .int .i64 k]) ∧ s.Owns w' w.heap.size ∧ s.a.ups.length ≤ 6 ∧ (-1 ≤ k ∧ k ≤ 3) ∧ Below w.heap.size w w'
structure One (w : World) (B P : Nat) (s : ActT) (W : World) : Prop where
  b : w.heap.size + 1 ≤ B
  p : B < P
  bl : B < W.heap.size
  o : s.Owns W (B + 1)
  k : Blk W P s.cells
  g : Below w.heap.size w W
theorem One.call {w W W' : World} {B P : Nat} {s : ActT} (h : One w B P s W) (hg : W.grownBy W' (some B)) : One w B P s W' := by
  have h1 := h.b
  have h2 := h.p
  have h3 := h.bl
  exact ⟨h.b, h.p, Nat.lt_of_lt_of_le h.bl hg.size, h.o.other hg (by omega), h.k.grown hg (by omega), h.g.grown hg (by omega) (fun k e => by cases e; omega)⟩
theorem One.drew {w W : World} {B P : Nat} {s : ActT} (h : One w B P s W) : One w B P s W.drew := h.call (grown_drew W _)
theorem One.set {w W : World} {B P r : Nat} {s : ActT} (h : One w B P s W) (hr : r = w.heap.size) (j : Nat) (v : Value) : One w B P s (W.setCell ⟨r, j, none⟩ v) := by
  have h1 := h.b
  have h2 := h.p
  have h3 := h.bl
  have hg : W.grownBy (W.setCell ⟨r, j, none⟩ v) (some r) := grown_set r j v
  exact ⟨h.b, h.p, by simpa [World.setCell] using h.bl, h.o.other hg (by omega), h.k.grown hg (by omega), h.g.setCell (by show w.heap.size ≤ r; omega) v⟩

set_option maxRecDepth 100000 in
set_option maxHeartbeats 6400000 in
theorem drawNeeds_any (a : Option Addr) (len cap : Nat) (w : World) (hm : len ≤ 9223372036854775807) (hc : Code w w.heap.size a len) : Calls Try.prog 22 #[.slice a len cap] w (ActAnd w) := by
  obtain ⟨R, hR⟩ : ∃ R, R = w.heap.size := ⟨_, rfl⟩
  obtain ⟨W0, hW0⟩ : ∃ W0, W0 = (w.alloc (.cells #[.int .i64 0, .int .i64 0, .slice none 0 0, .int .i64 0, .int .i64 0, .int .i64 0, .int .i64 0, .int .i64 0, .int .i64 0, .int .i64 0, .slice none 0 0] 26)) := ⟨_, rfl⟩
  have k1 := (Blk.new w #[.int .i64 0, .int .i64 0, .slice none 0 0, .int .i64 0, .int .i64 0, .int .i64 0, .int .i64 0, .int .i64 0, .int .i64 0, .int .i64 0, .slice none 0 0] 26)
  have b0 := ((Below.refl w.heap.size w).alloc (Nat.le_refl _) (.cells #[.int .i64 0, .int .i64 0, .slice none 0 0, .int .i64 0, .int .i64 0, .int .i64 0, .int .i64 0, .int .i64 0, .int .i64 0, .int .i64 0, .slice none 0 0] 26))
  have hsz : W0.heap.size = w.heap.size + 1 := by rw [hW0]; simp
  rw [← hW0] at k1 b0
  have hc0 : Code W0 W0.heap.size a len := by
    have h1 : Code W0 w.heap.size a len := hc.other (fun b o hb => b0.cell (p := ⟨b, o, none⟩) hb)
    intro j hj
    obtain ⟨b, off, x, e, hb, r⟩ := h1 j hj
    exact ⟨b, off, x, e, by omega, r⟩
  have K1 := Lib.hid k1
  have B0 := Lib.hid b0
  have HC := Lib.hid hc0
  have HSZ := Lib.hid hsz
  have HR := Lib.hid hR
  clear k1 b0 hc0 hsz hR hc
  go_enter Try.func22, Try.ntmps22
  go_upto_region 1 with (fail)
  rw [← HR.out, ← hW0]
  clear hW0
  go_wp2_with fail
  refine (new_any a len cap _ hm HC.out).mono ?_
  rintro e w1 ⟨B, rfl, hB, hcu, hb1⟩
  have hBl := hcu.lt
  have C1 := Lib.hid hcu
  have B1 := Lib.hid hb1
  clear hcu hb1
  go_wp2_with fail
  refine (l2bent_any B _ C1.out).mono ?_
  rintro e w2 ⟨⟨⟨q0, q1, q2, q3, q4, q5, q6, q7, q8, q9, q10⟩, vd, vs⟩, rfl, tow, tn, hc, hg⟩
  have hsd := ints_len tow.reads.1
  have hsu := row_shape tow.2
  simp only at hsd hsu tn
  obtain ⟨da, dc, rfl⟩ := hsd
  obtain ⟨ua, uc, rfl⟩ := hsu
  obtain ⟨P, hP⟩ : ∃ P, P = w2.heap.size := ⟨_, rfl⟩
  obtain ⟨W3, hW3⟩ : ∃ W3, W3 = w2.alloc (.cells #[.int .i64 q0, .int .i64 q1, .slice da q2.length dc, .int .i64 q3, .int .i64 q4, .int .i64 q5, .int .i64 q6, .int .i64 q7, .int .i64 q8, .int .i64 q9, .slice ua q10.length uc] 26) := ⟨_, rfl⟩
  have t3 : One w B P ⟨⟨q0, q1, q2, q3, q4, q5, q6, q7, q8, q9, q10⟩, .slice da q2.length dc, .slice ua q10.length uc⟩ W3 := by
    have h1 := HSZ.out
    have h2 := B1.out.size
    have h3 := hg.size
    have ga := grown_alloc w2 (.cells #[.int .i64 q0, .int .i64 q1, .slice da q2.length dc, .int .i64 q3, .int .i64 q4, .int .i64 q5, .int .i64 q6, .int .i64 q7, .int .i64 q8, .int .i64 q9, .slice ua q10.length uc] 26) (some B)
    rw [hW3, hP]
    refine ⟨by omega, by omega, by simp; omega, (tow.less (by omega)).other ga (by omega), Blk.new w2 _ _, ?_⟩
    exact ((B0.out.trans (B1.out.mono (by omega))).grown hg (by omega) (fun k e => by cases e; omega)).alloc (by omega) _
  have C3 := Lib.hid (hc.grown (grown_alloc w2 (.cells #[.int .i64 q0, .int .i64 q1, .slice da q2.length dc, .int .i64 q3, .int .i64 q4, .int .i64 q5, .int .i64 q6, .int .i64 q7, .int .i64 q8, .int .i64 q9, .slice ua q10.length uc] 26) none) (fun g e => by cases e))
  rw [← hW3] at C3
  have T3 := Lib.hid t3
  have TN := Lib.hid tn
  have hRB := Lib.hid (show R + 1 ≤ B by have := T3.out.b; have := HR.out; omega)
  have KZ1 := Lib.hid (show Blk W3 R [.int .i64 0, .int .i64 0, .slice none 0 0, .int .i64 0, .int .i64 0, .int .i64 0, .int .i64 0, .int .i64 0, .int .i64 0, .int .i64 0, .slice none 0 0] from by rw [hW3]; have := HSZ.out; have := HR.out; subst this; exact ((K1.out.below B1.out (by omega)).grown hg (by have := T3.out.b; omega)).alloc _)
  have C3d := Lib.hid (C3.out.grown (grown_drew W3 none) (fun g e => by cases e))
  clear tow tn hc hg t3
  simp only [ActT.val]
  go_upto_region 3 with (fail)
  rw [← hP, ← hW3]
  clear hP hW3 K1 B0 B1 C1
  have hne1 : R ≠ P := by have := T3.out.b; have := T3.out.p; have := HR.out; omega
  have KP := Lib.hid (fun W (h : One w B P ⟨⟨q0, q1, q2, q3, q4, q5, q6, q7, q8, q9, q10⟩, .slice da q2.length dc, .slice ua q10.length uc⟩ W) => (show One w B P ⟨⟨q0, q1, q2, q3, q4, q5, q6, q7, q8, q9, q10⟩, .slice da q2.length dc, .slice ua q10.length uc⟩ W ∧ ∀ j, W.cell? ⟨P, j, none⟩ = ([.int .i64 q0, .int .i64 q1, .slice da q2.length dc, .int .i64 q3, .int .i64 q4, .int .i64 q5, .int .i64 q6, .int .i64 q7, .int .i64 q8, .int .i64 q9, .slice ua q10.length uc] : List Value)[j]? from ⟨h, h.k.cell⟩))
  have hr1 : R = w.heap.size := HR.out
  have HRR := Lib.hid hr1
  clear hr1
  go_region_held3 (fun W => One w B P ⟨⟨q0, q1, q2, q3, q4, q5, q6, q7, q8, q9, q10⟩, .slice da q2.length dc, .slice ua q10.length uc⟩ W ∧ ∀ j, W.cell? ⟨P, j, none⟩ = ([.int .i64 q0, .int .i64 q1, .slice da q2.length dc, .int .i64 q3, .int .i64 q4, .int .i64 q5, .int .i64 q6, .int .i64 q7, .int .i64 q8, .int .i64 q9, .slice ua q10.length uc] : List Value)[j]?)
    (first | (with_reducible exact KP.out _ T3.out.drew) | (refine KP.out _ ?_; (repeat (with_reducible refine One.set ?_ HRR.out _ _)); first | (with_reducible exact T4.out)))
    ((go_at_call 66; (with_reducible refine (below_any B 5 W3.drew C3d.out (by omega)).mono ?_); rintro e w4 ⟨y, rfl, y0, _, y2, hc4, hg4⟩; have yb := y2 (by omega); have T4 := Lib.hid (T3.out.drew.call hg4); have kk1 := (KZ1.out.drew.grown hg4 (by have := hRB.out; omega)); have f1 := kk1.free; have c1 := kk1.cell; clear y2 hc4 hg4 kk1))
  go_wp2_with fail
  have hwk : -1 ≤ IntKind.i64.wrap (y - 1) ∧ IntKind.i64.wrap (y - 1) ≤ 3 := by
    rw [IntKind.wrap_i64]; omega
  have hb1 := T4.out.b
  have hRw := HRR.out
  refine bodyPost_ret (v := .tuple #[ActT.val ⟨⟨q0, q1, q2, q3, q4, q5, q6, q7, q8, q9, q10⟩, .slice da q2.length dc, .slice ua q10.length uc⟩, .int .i64 (IntKind.i64.wrap (y - 1))]) (by simp [results, Try.results22, go_sem, c1, ActT.val]) rfl ⟨⟨⟨q0, q1, q2, q3, q4, q5, q6, q7, q8, q9, q10⟩, .slice da q2.length dc, .slice ua q10.length uc⟩, IntKind.i64.wrap (y - 1), rfl, (T4.out.o.other (grown11 w4 R ..) (by omega)).less (by omega), TN.out.2.2, hwk, ?_⟩
  exact Below.grown T4.out.g (grown11 w4 R ..) T4.out.g.size (fun k e => by cases e; omega)
end Go.Proofs.Ytcgncaiehdcooaa
