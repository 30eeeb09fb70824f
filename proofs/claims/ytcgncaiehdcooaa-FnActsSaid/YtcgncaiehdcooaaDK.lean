/- The laws FnActs, FnAheads. -/
import Derived.Test.YtcgncaiehdcooaaEB
import Derived.Test.YtcgncaiehdcooaaEA
namespace Go.Proofs.Ytcgncaiehdcooaa
open Go.RowKit
set_option linter.unusedVariables false

/-- while a law looks at two acts in blocks P and P + 1 -/
structure Law (w : World) (P : Nat) (s t : ActT) (W : World) : Prop where
  g : Below w.heap.size w W
  k1 : Blk W P s.cells
  k2 : Blk W (P + 1) t.cells
  r1 : s.Reads W
  r2 : t.Reads W
theorem Law.step {w W W' : World} {P : Nat} {s t : ActT} (h : Law w P s t W) (hb : Below W.heap.size W W') : Law w P s t W' :=
  ⟨h.g.trans (hb.mono h.g.size), h.k1.below hb h.k1.lt, h.k2.below hb h.k2.lt, h.r1.below hb, h.r2.below hb⟩
theorem Law.drew {w W : World} {P : Nat} {s t : ActT} (h : Law w P s t W) : Law w P s t W.drew := h.step (Below.refl _ _).drew

set_option maxRecDepth 100000 in
set_option maxHeartbeats 12800000 in
theorem law_FnActs (a : Option Addr) (len cap : Nat) (w : World) (hm : len ≤ 9223372036854775807) (hc : Code w w.heap.size a len) : Calls Try.prog 3 #[.slice a len cap] w fun e w' => e = .returned (.bool true) ∧ Below w.heap.size w w' := by
  go_enter Try.func3, Try.ntmps3
  go_wp2_with fail
  refine (drawKnows_any a len cap _ hm hc).mono ?_
  rintro e w1 ⟨⟨⟨q0, q1, q2, q3, q4, q5, q6, q7, q8, q9, q10⟩, vd, vs⟩, ⟨⟨p0, p1, p2, p3, p4, p5, p6, p7, p8, p9, p10⟩, ve, vt⟩, rfl, r1, r2, hn, hb⟩
  have hsd := ints_len r1.reads.1
  have hsu := row_shape r1.2
  have hse := ints_len r2.reads.1
  have hst := row_shape r2.2
  simp only at hsd hsu hse hst hn
  obtain ⟨da, dc, rfl⟩ := hsd
  obtain ⟨ua, uc, rfl⟩ := hsu
  obtain ⟨db, dd, rfl⟩ := hse
  obtain ⟨ub, ud, rfl⟩ := hst
  obtain ⟨P, hP⟩ : ∃ P, P = w1.heap.size := ⟨_, rfl⟩
  have l0 : Law w w1.heap.size ⟨⟨q0, q1, q2, q3, q4, q5, q6, q7, q8, q9, q10⟩, .slice da q2.length dc, .slice ua q10.length uc⟩ ⟨⟨p0, p1, p2, p3, p4, p5, p6, p7, p8, p9, p10⟩, .slice db p2.length dd, .slice ub p10.length ud⟩ ((w1.alloc (.cells #[.int .i64 q0, .int .i64 q1, .slice da q2.length dc, .int .i64 q3, .int .i64 q4, .int .i64 q5, .int .i64 q6, .int .i64 q7, .int .i64 q8, .int .i64 q9, .slice ua q10.length uc] 26)).alloc (.cells #[.int .i64 p0, .int .i64 p1, .slice db p2.length dd, .int .i64 p3, .int .i64 p4, .int .i64 p5, .int .i64 p6, .int .i64 p7, .int .i64 p8, .int .i64 p9, .slice ub p10.length ud] 26)) := by
    have b1 := (Below.refl w1.heap.size w1).alloc (Nat.le_refl _) (.cells #[.int .i64 q0, .int .i64 q1, .slice da q2.length dc, .int .i64 q3, .int .i64 q4, .int .i64 q5, .int .i64 q6, .int .i64 q7, .int .i64 q8, .int .i64 q9, .slice ua q10.length uc] 26)
    have b2 := b1.alloc (by simp) (.cells #[.int .i64 p0, .int .i64 p1, .slice db p2.length dd, .int .i64 p3, .int .i64 p4, .int .i64 p5, .int .i64 p6, .int .i64 p7, .int .i64 p8, .int .i64 p9, .slice ub p10.length ud] 26)
    refine ⟨hb.trans (b2.mono hb.size), (Blk.new w1 _ _).alloc _, ?_, r1.reads.below b2, r2.reads.below b2⟩
    have := Blk.new (w1.alloc (.cells #[.int .i64 q0, .int .i64 q1, .slice da q2.length dc, .int .i64 q3, .int .i64 q4, .int .i64 q5, .int .i64 q6, .int .i64 q7, .int .i64 q8, .int .i64 q9, .slice ua q10.length uc] 26)) #[.int .i64 p0, .int .i64 p1, .slice db p2.length dd, .int .i64 p3, .int .i64 p4, .int .i64 p5, .int .i64 p6, .int .i64 p7, .int .i64 p8, .int .i64 p9, .slice ub p10.length ud] 26
    rw [World.size_alloc] at this
    exact this
  have L0 := Lib.hid l0
  have HN := Lib.hid hn
  clear l0 r1 r2 hb hn hc
  simp only [ActT.val]
  go_upto_region 2 with (fail)
  refine wp_gen (fun W0 hW0 => ?_)
  rw [← hW0, ← hP] at L0
  rw [← hP]
  clear hW0 hP
  obtain ⟨X, hX⟩ : ∃ X, X = knowsM (⟨q0, q1, q2, q3, q4, q5, q6, q7, q8, q9, q10⟩ : ActM) (⟨p0, p1, p2, p3, p4, p5, p6, p7, p8, p9, p10⟩ : ActM) := ⟨_, rfl⟩
  obtain ⟨Y, hY⟩ : ∃ Y, Y = sameM (⟨q0, q1, q2, q3, q4, q5, q6, q7, q8, q9, q10⟩ : ActM) (⟨p0, p1, p2, p3, p4, p5, p6, p7, p8, p9, p10⟩ : ActM) := ⟨_, rfl⟩
  obtain ⟨Z, hZ⟩ : ∃ Z, Z = actOkM (⟨q0, q1, q2, q3, q4, q5, q6, q7, q8, q9, q10⟩ : ActM) q2.length := ⟨_, rfl⟩
  have CK : Hid (∀ W', Law w P ⟨⟨q0, q1, q2, q3, q4, q5, q6, q7, q8, q9, q10⟩, .slice da q2.length dc, .slice ua q10.length uc⟩ ⟨⟨p0, p1, p2, p3, p4, p5, p6, p7, p8, p9, p10⟩, .slice db p2.length dd, .slice ub p10.length ud⟩ W' → Calls Try.prog 14 #[ActT.val ⟨⟨q0, q1, q2, q3, q4, q5, q6, q7, q8, q9, q10⟩, .slice da q2.length dc, .slice ua q10.length uc⟩, ActT.val ⟨⟨p0, p1, p2, p3, p4, p5, p6, p7, p8, p9, p10⟩, .slice db p2.length dd, .slice ub p10.length ud⟩] W' fun e w' => e = .returned (.bool X) ∧ Below W'.heap.size W' w') := by
    intro W' h
    rw [hX]; exact implKnows_any _ _ (⟨q0, q1, q2, q3, q4, q5, q6, q7, q8, q9, q10⟩ : ActM) (⟨p0, p1, p2, p3, p4, p5, p6, p7, p8, p9, p10⟩ : ActM) W' h.r1.is h.r2.is
  simp only [ActT.val] at CK
  have CS : Hid (∀ W', Law w P ⟨⟨q0, q1, q2, q3, q4, q5, q6, q7, q8, q9, q10⟩, .slice da q2.length dc, .slice ua q10.length uc⟩ ⟨⟨p0, p1, p2, p3, p4, p5, p6, p7, p8, p9, p10⟩, .slice db p2.length dd, .slice ub p10.length ud⟩ W' → Calls Try.prog 15 #[ActT.val ⟨⟨q0, q1, q2, q3, q4, q5, q6, q7, q8, q9, q10⟩, .slice da q2.length dc, .slice ua q10.length uc⟩, ActT.val ⟨⟨p0, p1, p2, p3, p4, p5, p6, p7, p8, p9, p10⟩, .slice db p2.length dd, .slice ub p10.length ud⟩] W' fun e w' => e = .returned (.bool X) ∧ Below W'.heap.size W' w') := by
    intro W' h
    rw [hX]; exact specKnows_any _ _ (⟨q0, q1, q2, q3, q4, q5, q6, q7, q8, q9, q10⟩ : ActM) (⟨p0, p1, p2, p3, p4, p5, p6, p7, p8, p9, p10⟩ : ActM) W' h.r1.is h.r2.is
  simp only [ActT.val] at CS
  have CO : Hid (∀ W', Law w P ⟨⟨q0, q1, q2, q3, q4, q5, q6, q7, q8, q9, q10⟩, .slice da q2.length dc, .slice ua q10.length uc⟩ ⟨⟨p0, p1, p2, p3, p4, p5, p6, p7, p8, p9, p10⟩, .slice db p2.length dd, .slice ub p10.length ud⟩ W' → Calls Try.prog 16 #[ActT.val ⟨⟨q0, q1, q2, q3, q4, q5, q6, q7, q8, q9, q10⟩, .slice da q2.length dc, .slice ua q10.length uc⟩, .int .i64 q2.length] W' fun e w' => e = .returned (.bool Z) ∧ Below W'.heap.size W' w') := by
    intro W' h
    rw [hZ]; exact specActOk_any _ (⟨q0, q1, q2, q3, q4, q5, q6, q7, q8, q9, q10⟩ : ActM) q2.length W' h.r1.is (by have := HN.out.1; omega)
  simp only [ActT.val] at CO
  have CB : Hid (∀ W', Law w P ⟨⟨q0, q1, q2, q3, q4, q5, q6, q7, q8, q9, q10⟩, .slice da q2.length dc, .slice ua q10.length uc⟩ ⟨⟨p0, p1, p2, p3, p4, p5, p6, p7, p8, p9, p10⟩, .slice db p2.length dd, .slice ub p10.length ud⟩ W' → Calls Try.prog 17 #[ActT.val ⟨⟨q0, q1, q2, q3, q4, q5, q6, q7, q8, q9, q10⟩, .slice da q2.length dc, .slice ua q10.length uc⟩, ActT.val ⟨⟨p0, p1, p2, p3, p4, p5, p6, p7, p8, p9, p10⟩, .slice db p2.length dd, .slice ub p10.length ud⟩] W' fun e w' => e = .returned (.bool Y) ∧ Below W'.heap.size W' w') := by
    intro W' h
    rw [hY]; exact implSame_any _ _ (⟨q0, q1, q2, q3, q4, q5, q6, q7, q8, q9, q10⟩ : ActM) (⟨p0, p1, p2, p3, p4, p5, p6, p7, p8, p9, p10⟩ : ActM) W' h.r1.is h.r2.is
  simp only [ActT.val] at CB
  have CC : Hid (∀ W', Law w P ⟨⟨q0, q1, q2, q3, q4, q5, q6, q7, q8, q9, q10⟩, .slice da q2.length dc, .slice ua q10.length uc⟩ ⟨⟨p0, p1, p2, p3, p4, p5, p6, p7, p8, p9, p10⟩, .slice db p2.length dd, .slice ub p10.length ud⟩ W' → Calls Try.prog 17 #[ActT.val ⟨⟨p0, p1, p2, p3, p4, p5, p6, p7, p8, p9, p10⟩, .slice db p2.length dd, .slice ub p10.length ud⟩, ActT.val ⟨⟨q0, q1, q2, q3, q4, q5, q6, q7, q8, q9, q10⟩, .slice da q2.length dc, .slice ua q10.length uc⟩] W' fun e w' => e = .returned (.bool Y) ∧ Below W'.heap.size W' w') := by
    intro W' h
    rw [hY, same_symm]; exact implSame_any _ _ (⟨p0, p1, p2, p3, p4, p5, p6, p7, p8, p9, p10⟩ : ActM) (⟨q0, q1, q2, q3, q4, q5, q6, q7, q8, q9, q10⟩ : ActM) W' h.r2.is h.r1.is
  simp only [ActT.val] at CC
  have CD : Hid (∀ W', Law w P ⟨⟨q0, q1, q2, q3, q4, q5, q6, q7, q8, q9, q10⟩, .slice da q2.length dc, .slice ua q10.length uc⟩ ⟨⟨p0, p1, p2, p3, p4, p5, p6, p7, p8, p9, p10⟩, .slice db p2.length dd, .slice ub p10.length ud⟩ W' → Calls Try.prog 17 #[ActT.val ⟨⟨q0, q1, q2, q3, q4, q5, q6, q7, q8, q9, q10⟩, .slice da q2.length dc, .slice ua q10.length uc⟩, ActT.val ⟨⟨q0, q1, q2, q3, q4, q5, q6, q7, q8, q9, q10⟩, .slice da q2.length dc, .slice ua q10.length uc⟩] W' fun e w' => e = .returned (.bool true) ∧ Below W'.heap.size W' w') := by
    intro W' h
    rw [← same_self (⟨q0, q1, q2, q3, q4, q5, q6, q7, q8, q9, q10⟩ : ActM)]; exact implSame_any _ _ (⟨q0, q1, q2, q3, q4, q5, q6, q7, q8, q9, q10⟩ : ActM) (⟨q0, q1, q2, q3, q4, q5, q6, q7, q8, q9, q10⟩ : ActM) W' h.r1.is h.r1.is
  simp only [ActT.val] at CD
  have CA : Hid (∀ W', Law w P ⟨⟨q0, q1, q2, q3, q4, q5, q6, q7, q8, q9, q10⟩, .slice da q2.length dc, .slice ua q10.length uc⟩ ⟨⟨p0, p1, p2, p3, p4, p5, p6, p7, p8, p9, p10⟩, .slice db p2.length dd, .slice ub p10.length ud⟩ W' → Calls Try.prog 18 #[] W' fun e w' => e = .returned (.bool true) ∧ Below W'.heap.size W' w') := fun W' h => acts_any W'
  have CZ : Hid (Z = true → ∀ W', Law w P ⟨⟨q0, q1, q2, q3, q4, q5, q6, q7, q8, q9, q10⟩, .slice da q2.length dc, .slice ua q10.length uc⟩ ⟨⟨p0, p1, p2, p3, p4, p5, p6, p7, p8, p9, p10⟩, .slice db p2.length dd, .slice ub p10.length ud⟩ W' → Calls Try.prog 14 #[ActT.val ⟨⟨q0, q1, q2, q3, q4, q5, q6, q7, q8, q9, q10⟩, .slice da q2.length dc, .slice ua q10.length uc⟩, ActT.val ⟨⟨q0, q1, q2, q3, q4, q5, q6, q7, q8, q9, q10⟩, .slice da q2.length dc, .slice ua q10.length uc⟩] W' fun e w' => e = .returned (.bool false) ∧ Below W'.heap.size W' w') := by
    intro hz W' h
    rw [← knows_self (a := (⟨q0, q1, q2, q3, q4, q5, q6, q7, q8, q9, q10⟩ : ActM)) (n := q2.length) (by rw [← hZ]; exact hz)]
    exact implKnows_any _ _ (⟨q0, q1, q2, q3, q4, q5, q6, q7, q8, q9, q10⟩ : ActM) (⟨q0, q1, q2, q3, q4, q5, q6, q7, q8, q9, q10⟩ : ActM) W' h.r1.is h.r1.is
  simp only [ActT.val] at CZ
  clear hX hY hZ
  have c1 := L0.out.k1.cell
  have c2 := L0.out.k2.cell
  simp only [ActT.cells] at c1 c2
  go_wp2_with fail
  refine (CK.out _ L0.out).mono ?_
  rintro e w1 ⟨rfl, hb⟩
  have L1 := Lib.hid (L0.out.step hb)
  clear hb c1 c2 L0
  have c1 := L1.out.k1.cell
  have c2 := L1.out.k2.cell
  simp only [ActT.cells] at c1 c2
  go_wp2_with fail
  refine (CS.out _ L1.out).mono ?_
  rintro e w2 ⟨rfl, hb⟩
  have L2 := Lib.hid (L1.out.step hb)
  clear hb c1 c2 L1
  have c1 := L2.out.k1.cell
  have c2 := L2.out.k2.cell
  simp only [ActT.cells] at c1 c2
  go_wp2_with fail
  refine (CO.out _ L2.out).mono ?_
  rintro e w3 ⟨rfl, hb⟩
  have L3 := Lib.hid (L2.out.step hb)
  clear hb c1 c2 L2
  have KL := Lib.hid (fun W (h : Law w P ⟨⟨q0, q1, q2, q3, q4, q5, q6, q7, q8, q9, q10⟩, .slice da q2.length dc, .slice ua q10.length uc⟩ ⟨⟨p0, p1, p2, p3, p4, p5, p6, p7, p8, p9, p10⟩, .slice db p2.length dd, .slice ub p10.length ud⟩ W) => (show Law w P ⟨⟨q0, q1, q2, q3, q4, q5, q6, q7, q8, q9, q10⟩, .slice da q2.length dc, .slice ua q10.length uc⟩ ⟨⟨p0, p1, p2, p3, p4, p5, p6, p7, p8, p9, p10⟩, .slice db p2.length dd, .slice ub p10.length ud⟩ W ∧ (∀ j, W.cell? ⟨P, j, none⟩ = ([.int .i64 q0, .int .i64 q1, .slice da q2.length dc, .int .i64 q3, .int .i64 q4, .int .i64 q5, .int .i64 q6, .int .i64 q7, .int .i64 q8, .int .i64 q9, .slice ua q10.length uc] : List Value)[j]?) ∧ (∀ j, W.cell? ⟨P + 1, j, none⟩ = ([.int .i64 p0, .int .i64 p1, .slice db p2.length dd, .int .i64 p3, .int .i64 p4, .int .i64 p5, .int .i64 p6, .int .i64 p7, .int .i64 p8, .int .i64 p9, .slice ub p10.length ud] : List Value)[j]?) from ⟨h, h.k1.cell, h.k2.cell⟩))
  cases Z
  · have c1 := L3.out.k1.cell
    have c2 := L3.out.k2.cell
    simp only [ActT.cells] at c1 c2
    go_wp2_with fail
    have SB0 := Lib.hid (KL.out _ L3.out.drew)
    clear c1 c2
    go_region_held3 (fun W => Law w P ⟨⟨q0, q1, q2, q3, q4, q5, q6, q7, q8, q9, q10⟩, .slice da q2.length dc, .slice ua q10.length uc⟩ ⟨⟨p0, p1, p2, p3, p4, p5, p6, p7, p8, p9, p10⟩, .slice db p2.length dd, .slice ub p10.length ud⟩ W ∧ (∀ j, W.cell? ⟨P, j, none⟩ = ([.int .i64 q0, .int .i64 q1, .slice da q2.length dc, .int .i64 q3, .int .i64 q4, .int .i64 q5, .int .i64 q6, .int .i64 q7, .int .i64 q8, .int .i64 q9, .slice ua q10.length uc] : List Value)[j]?) ∧ (∀ j, W.cell? ⟨P + 1, j, none⟩ = ([.int .i64 p0, .int .i64 p1, .slice db p2.length dd, .int .i64 p3, .int .i64 p4, .int .i64 p5, .int .i64 p6, .int .i64 p7, .int .i64 p8, .int .i64 p9, .slice ub p10.length ud] : List Value)[j]?))
      (first | (with_reducible exact SB0.out) | (with_reducible exact KL.out _ lz))
      (first | (go_at_call 17; go_split_ands; (with_reducible refine (CB.out _ (by with_reducible assumption)).mono ?_); rintro e wz ⟨rfl, hb⟩; have lz := Law.step (by with_reducible assumption) hb; clear hb) | (go_at_call 17; go_split_ands; (with_reducible refine (CC.out _ (by with_reducible assumption)).mono ?_); rintro e wz ⟨rfl, hb⟩; have lz := Law.step (by with_reducible assumption) hb; clear hb) | (go_at_call 17; go_split_ands; (with_reducible refine (CD.out _ (by with_reducible assumption)).mono ?_); rintro e wz ⟨rfl, hb⟩; have lz := Law.step (by with_reducible assumption) hb; clear hb) | (go_at_call 18; go_split_ands; (with_reducible refine (CA.out _ (by with_reducible assumption)).mono ?_); rintro e wz ⟨rfl, hb⟩; have lz := Law.step (by with_reducible assumption) hb; clear hb))
    go_wp2_with fail
    go_ret
    exact ⟨rfl, lz.g⟩
  · have CZ2 := Lib.hid (CZ.out rfl)
    have c1 := L3.out.k1.cell
    have c2 := L3.out.k2.cell
    simp only [ActT.cells] at c1 c2
    go_wp2_with fail
    refine (CZ2.out _ L3.out).mono ?_
    rintro e w4 ⟨rfl, hb⟩
    have L4 := Lib.hid (L3.out.step hb)
    clear hb c1 c2 L3
    have c1 := L4.out.k1.cell
    have c2 := L4.out.k2.cell
    simp only [ActT.cells] at c1 c2
    go_wp2_with fail
    have SB0 := Lib.hid (KL.out _ L4.out.drew)
    clear c1 c2
    go_region_held3 (fun W => Law w P ⟨⟨q0, q1, q2, q3, q4, q5, q6, q7, q8, q9, q10⟩, .slice da q2.length dc, .slice ua q10.length uc⟩ ⟨⟨p0, p1, p2, p3, p4, p5, p6, p7, p8, p9, p10⟩, .slice db p2.length dd, .slice ub p10.length ud⟩ W ∧ (∀ j, W.cell? ⟨P, j, none⟩ = ([.int .i64 q0, .int .i64 q1, .slice da q2.length dc, .int .i64 q3, .int .i64 q4, .int .i64 q5, .int .i64 q6, .int .i64 q7, .int .i64 q8, .int .i64 q9, .slice ua q10.length uc] : List Value)[j]?) ∧ (∀ j, W.cell? ⟨P + 1, j, none⟩ = ([.int .i64 p0, .int .i64 p1, .slice db p2.length dd, .int .i64 p3, .int .i64 p4, .int .i64 p5, .int .i64 p6, .int .i64 p7, .int .i64 p8, .int .i64 p9, .slice ub p10.length ud] : List Value)[j]?))
      (first | (with_reducible exact SB0.out) | (with_reducible exact KL.out _ lz))
      (first | (go_at_call 17; go_split_ands; (with_reducible refine (CB.out _ (by with_reducible assumption)).mono ?_); rintro e wz ⟨rfl, hb⟩; have lz := Law.step (by with_reducible assumption) hb; clear hb) | (go_at_call 17; go_split_ands; (with_reducible refine (CC.out _ (by with_reducible assumption)).mono ?_); rintro e wz ⟨rfl, hb⟩; have lz := Law.step (by with_reducible assumption) hb; clear hb) | (go_at_call 17; go_split_ands; (with_reducible refine (CD.out _ (by with_reducible assumption)).mono ?_); rintro e wz ⟨rfl, hb⟩; have lz := Law.step (by with_reducible assumption) hb; clear hb) | (go_at_call 18; go_split_ands; (with_reducible refine (CA.out _ (by with_reducible assumption)).mono ?_); rintro e wz ⟨rfl, hb⟩; have lz := Law.step (by with_reducible assumption) hb; clear hb))
    go_wp2_with fail
    go_ret
    exact ⟨rfl, lz.g⟩

set_option maxRecDepth 100000 in
set_option maxHeartbeats 12800000 in
theorem law_FnAheads (a : Option Addr) (len cap : Nat) (w : World) (hm : len ≤ 9223372036854775807) (hc : Code w w.heap.size a len) : Calls Try.prog 4 #[.slice a len cap] w fun e w' => e = .returned (.bool true) ∧ Below w.heap.size w w' := by
  go_enter Try.func4, Try.ntmps4
  go_wp2_with fail
  refine (drawAhead_any a len cap _ hm hc).mono ?_
  rintro e w1 ⟨⟨⟨q0, q1, q2, q3, q4, q5, q6, q7, q8, q9, q10⟩, vd, vs⟩, ⟨⟨p0, p1, p2, p3, p4, p5, p6, p7, p8, p9, p10⟩, ve, vt⟩, rfl, r1, r2, hn, hb⟩
  have hsd := ints_len r1.reads.1
  have hsu := row_shape r1.2
  have hse := ints_len r2.reads.1
  have hst := row_shape r2.2
  simp only at hsd hsu hse hst hn
  obtain ⟨da, dc, rfl⟩ := hsd
  obtain ⟨ua, uc, rfl⟩ := hsu
  obtain ⟨db, dd, rfl⟩ := hse
  obtain ⟨ub, ud, rfl⟩ := hst
  obtain ⟨P, hP⟩ : ∃ P, P = w1.heap.size := ⟨_, rfl⟩
  have l0 : Law w w1.heap.size ⟨⟨q0, q1, q2, q3, q4, q5, q6, q7, q8, q9, q10⟩, .slice da q2.length dc, .slice ua q10.length uc⟩ ⟨⟨p0, p1, p2, p3, p4, p5, p6, p7, p8, p9, p10⟩, .slice db p2.length dd, .slice ub p10.length ud⟩ ((w1.alloc (.cells #[.int .i64 q0, .int .i64 q1, .slice da q2.length dc, .int .i64 q3, .int .i64 q4, .int .i64 q5, .int .i64 q6, .int .i64 q7, .int .i64 q8, .int .i64 q9, .slice ua q10.length uc] 26)).alloc (.cells #[.int .i64 p0, .int .i64 p1, .slice db p2.length dd, .int .i64 p3, .int .i64 p4, .int .i64 p5, .int .i64 p6, .int .i64 p7, .int .i64 p8, .int .i64 p9, .slice ub p10.length ud] 26)) := by
    have b1 := (Below.refl w1.heap.size w1).alloc (Nat.le_refl _) (.cells #[.int .i64 q0, .int .i64 q1, .slice da q2.length dc, .int .i64 q3, .int .i64 q4, .int .i64 q5, .int .i64 q6, .int .i64 q7, .int .i64 q8, .int .i64 q9, .slice ua q10.length uc] 26)
    have b2 := b1.alloc (by simp) (.cells #[.int .i64 p0, .int .i64 p1, .slice db p2.length dd, .int .i64 p3, .int .i64 p4, .int .i64 p5, .int .i64 p6, .int .i64 p7, .int .i64 p8, .int .i64 p9, .slice ub p10.length ud] 26)
    refine ⟨hb.trans (b2.mono hb.size), (Blk.new w1 _ _).alloc _, ?_, r1.reads.below b2, r2.reads.below b2⟩
    have := Blk.new (w1.alloc (.cells #[.int .i64 q0, .int .i64 q1, .slice da q2.length dc, .int .i64 q3, .int .i64 q4, .int .i64 q5, .int .i64 q6, .int .i64 q7, .int .i64 q8, .int .i64 q9, .slice ua q10.length uc] 26)) #[.int .i64 p0, .int .i64 p1, .slice db p2.length dd, .int .i64 p3, .int .i64 p4, .int .i64 p5, .int .i64 p6, .int .i64 p7, .int .i64 p8, .int .i64 p9, .slice ub p10.length ud] 26
    rw [World.size_alloc] at this
    exact this
  have L0 := Lib.hid l0
  have HN := Lib.hid hn
  clear l0 r1 r2 hb hn hc
  simp only [ActT.val]
  go_upto_region 2 with (fail)
  refine wp_gen (fun W0 hW0 => ?_)
  rw [← hW0, ← hP] at L0
  rw [← hP]
  clear hW0 hP
  obtain ⟨X, hX⟩ : ∃ X, X = aheadM (⟨q0, q1, q2, q3, q4, q5, q6, q7, q8, q9, q10⟩ : ActM) (⟨p0, p1, p2, p3, p4, p5, p6, p7, p8, p9, p10⟩ : ActM) := ⟨_, rfl⟩
  obtain ⟨Y, hY⟩ : ∃ Y, Y = aheadM (⟨p0, p1, p2, p3, p4, p5, p6, p7, p8, p9, p10⟩ : ActM) (⟨q0, q1, q2, q3, q4, q5, q6, q7, q8, q9, q10⟩ : ActM) := ⟨_, rfl⟩
  have hasym := ahead_asym (⟨q0, q1, q2, q3, q4, q5, q6, q7, q8, q9, q10⟩ : ActM) (⟨p0, p1, p2, p3, p4, p5, p6, p7, p8, p9, p10⟩ : ActM)
  have htot := ahead_total (⟨q0, q1, q2, q3, q4, q5, q6, q7, q8, q9, q10⟩ : ActM) (⟨p0, p1, p2, p3, p4, p5, p6, p7, p8, p9, p10⟩ : ActM)
  rw [← hX, ← hY] at hasym htot
  have CK : Hid (∀ W', Law w P ⟨⟨q0, q1, q2, q3, q4, q5, q6, q7, q8, q9, q10⟩, .slice da q2.length dc, .slice ua q10.length uc⟩ ⟨⟨p0, p1, p2, p3, p4, p5, p6, p7, p8, p9, p10⟩, .slice db p2.length dd, .slice ub p10.length ud⟩ W' → Calls Try.prog 20 #[ActT.val ⟨⟨q0, q1, q2, q3, q4, q5, q6, q7, q8, q9, q10⟩, .slice da q2.length dc, .slice ua q10.length uc⟩, ActT.val ⟨⟨p0, p1, p2, p3, p4, p5, p6, p7, p8, p9, p10⟩, .slice db p2.length dd, .slice ub p10.length ud⟩] W' fun e w' => e = .returned (.bool X) ∧ Below W'.heap.size W' w') := by
    intro W' h
    rw [hX]; exact implAhead_any _ _ (⟨q0, q1, q2, q3, q4, q5, q6, q7, q8, q9, q10⟩ : ActM) (⟨p0, p1, p2, p3, p4, p5, p6, p7, p8, p9, p10⟩ : ActM) W' h.r1.is h.r2.is
  simp only [ActT.val] at CK
  have CL : Hid (∀ W', Law w P ⟨⟨q0, q1, q2, q3, q4, q5, q6, q7, q8, q9, q10⟩, .slice da q2.length dc, .slice ua q10.length uc⟩ ⟨⟨p0, p1, p2, p3, p4, p5, p6, p7, p8, p9, p10⟩, .slice db p2.length dd, .slice ub p10.length ud⟩ W' → Calls Try.prog 20 #[ActT.val ⟨⟨p0, p1, p2, p3, p4, p5, p6, p7, p8, p9, p10⟩, .slice db p2.length dd, .slice ub p10.length ud⟩, ActT.val ⟨⟨q0, q1, q2, q3, q4, q5, q6, q7, q8, q9, q10⟩, .slice da q2.length dc, .slice ua q10.length uc⟩] W' fun e w' => e = .returned (.bool Y) ∧ Below W'.heap.size W' w') := by
    intro W' h
    rw [hY]; exact implAhead_any _ _ (⟨p0, p1, p2, p3, p4, p5, p6, p7, p8, p9, p10⟩ : ActM) (⟨q0, q1, q2, q3, q4, q5, q6, q7, q8, q9, q10⟩ : ActM) W' h.r2.is h.r1.is
  simp only [ActT.val] at CL
  have CS : Hid (∀ W', Law w P ⟨⟨q0, q1, q2, q3, q4, q5, q6, q7, q8, q9, q10⟩, .slice da q2.length dc, .slice ua q10.length uc⟩ ⟨⟨p0, p1, p2, p3, p4, p5, p6, p7, p8, p9, p10⟩, .slice db p2.length dd, .slice ub p10.length ud⟩ W' → Calls Try.prog 21 #[ActT.val ⟨⟨q0, q1, q2, q3, q4, q5, q6, q7, q8, q9, q10⟩, .slice da q2.length dc, .slice ua q10.length uc⟩, ActT.val ⟨⟨p0, p1, p2, p3, p4, p5, p6, p7, p8, p9, p10⟩, .slice db p2.length dd, .slice ub p10.length ud⟩] W' fun e w' => e = .returned (.bool X) ∧ Below W'.heap.size W' w') := by
    intro W' h
    rw [hX]; exact specAhead_any _ _ (⟨q0, q1, q2, q3, q4, q5, q6, q7, q8, q9, q10⟩ : ActM) (⟨p0, p1, p2, p3, p4, p5, p6, p7, p8, p9, p10⟩ : ActM) W' h.r1.is h.r2.is
  simp only [ActT.val] at CS
  have CI : Hid (∀ W', Law w P ⟨⟨q0, q1, q2, q3, q4, q5, q6, q7, q8, q9, q10⟩, .slice da q2.length dc, .slice ua q10.length uc⟩ ⟨⟨p0, p1, p2, p3, p4, p5, p6, p7, p8, p9, p10⟩, .slice db p2.length dd, .slice ub p10.length ud⟩ W' → Calls Try.prog 20 #[ActT.val ⟨⟨q0, q1, q2, q3, q4, q5, q6, q7, q8, q9, q10⟩, .slice da q2.length dc, .slice ua q10.length uc⟩, ActT.val ⟨⟨q0, q1, q2, q3, q4, q5, q6, q7, q8, q9, q10⟩, .slice da q2.length dc, .slice ua q10.length uc⟩] W' fun e w' => e = .returned (.bool false) ∧ Below W'.heap.size W' w') := by
    intro W' h
    rw [← ahead_irr (⟨q0, q1, q2, q3, q4, q5, q6, q7, q8, q9, q10⟩ : ActM)]; exact implAhead_any _ _ (⟨q0, q1, q2, q3, q4, q5, q6, q7, q8, q9, q10⟩ : ActM) (⟨q0, q1, q2, q3, q4, q5, q6, q7, q8, q9, q10⟩ : ActM) W' h.r1.is h.r1.is
  simp only [ActT.val] at CI
  have CA : Hid (∀ W', Law w P ⟨⟨q0, q1, q2, q3, q4, q5, q6, q7, q8, q9, q10⟩, .slice da q2.length dc, .slice ua q10.length uc⟩ ⟨⟨p0, p1, p2, p3, p4, p5, p6, p7, p8, p9, p10⟩, .slice db p2.length dd, .slice ub p10.length ud⟩ W' → Calls Try.prog 18 #[] W' fun e w' => e = .returned (.bool true) ∧ Below W'.heap.size W' w') := fun W' h => acts_any W'
  simp only at htot
  have HT := Lib.hid htot
  have HA := Lib.hid hasym
  clear hX hY htot hasym
  have c1 := L0.out.k1.cell
  have c2 := L0.out.k2.cell
  simp only [ActT.cells] at c1 c2
  go_wp2_with fail
  refine (CK.out _ L0.out).mono ?_
  rintro e w1 ⟨rfl, hb⟩
  have L1 := Lib.hid (L0.out.step hb)
  clear hb c1 c2 L0
  have c1 := L1.out.k1.cell
  have c2 := L1.out.k2.cell
  simp only [ActT.cells] at c1 c2
  go_wp2_with fail
  refine (CL.out _ L1.out).mono ?_
  rintro e w2 ⟨rfl, hb⟩
  have L2 := Lib.hid (L1.out.step hb)
  clear hb c1 c2 L1
  cases X
  · cases Y
    · have ht := HT.out
      simp only [Bool.false_eq_true, false_or] at ht
      obtain ⟨h0, h1⟩ := ht
      subst h0
      subst h1
      have c1 := L2.out.k1.cell
      have c2 := L2.out.k2.cell
      simp only [ActT.cells] at c1 c2
      go_wp2_with fail
      refine (CS.out _ L2.out).mono ?_
      rintro e w3 ⟨rfl, hb⟩
      have L3 := Lib.hid (L2.out.step hb)
      clear hb c1 c2 L2
      have c1 := L3.out.k1.cell
      have c2 := L3.out.k2.cell
      simp only [ActT.cells] at c1 c2
      go_wp2_with fail
      refine (CI.out _ L3.out).mono ?_
      rintro e w4 ⟨rfl, hb⟩
      have L4 := Lib.hid (L3.out.step hb)
      clear hb c1 c2 L3
      have c1 := L4.out.k1.cell
      have c2 := L4.out.k2.cell
      simp only [ActT.cells] at c1 c2
      go_wp2_with fail
      refine (CA.out _ L4.out).mono ?_
      rintro e w5 ⟨rfl, hb⟩
      have L5 := Lib.hid (L4.out.step hb)
      clear hb c1 c2 L4
      go_wp2_with fail
      go_ret
      exact ⟨rfl, L5.out.g⟩
    · clear HT HA
      have c1 := L2.out.k1.cell
      have c2 := L2.out.k2.cell
      simp only [ActT.cells] at c1 c2
      go_wp2_with fail
      refine (CS.out _ L2.out).mono ?_
      rintro e w3 ⟨rfl, hb⟩
      have L3 := Lib.hid (L2.out.step hb)
      clear hb c1 c2 L2
      have c1 := L3.out.k1.cell
      have c2 := L3.out.k2.cell
      simp only [ActT.cells] at c1 c2
      go_wp2_with fail
      refine (CI.out _ L3.out).mono ?_
      rintro e w4 ⟨rfl, hb⟩
      have L4 := Lib.hid (L3.out.step hb)
      clear hb c1 c2 L3
      have c1 := L4.out.k1.cell
      have c2 := L4.out.k2.cell
      simp only [ActT.cells] at c1 c2
      go_wp2_with fail
      refine (CA.out _ L4.out).mono ?_
      rintro e w5 ⟨rfl, hb⟩
      have L5 := Lib.hid (L4.out.step hb)
      clear hb c1 c2 L4
      go_wp2_with fail
      go_ret
      exact ⟨rfl, L5.out.g⟩
  · cases Y
    · clear HT HA
      have c1 := L2.out.k1.cell
      have c2 := L2.out.k2.cell
      simp only [ActT.cells] at c1 c2
      go_wp2_with fail
      refine (CS.out _ L2.out).mono ?_
      rintro e w3 ⟨rfl, hb⟩
      have L3 := Lib.hid (L2.out.step hb)
      clear hb c1 c2 L2
      have c1 := L3.out.k1.cell
      have c2 := L3.out.k2.cell
      simp only [ActT.cells] at c1 c2
      go_wp2_with fail
      refine (CI.out _ L3.out).mono ?_
      rintro e w4 ⟨rfl, hb⟩
      have L4 := Lib.hid (L3.out.step hb)
      clear hb c1 c2 L3
      have c1 := L4.out.k1.cell
      have c2 := L4.out.k2.cell
      simp only [ActT.cells] at c1 c2
      go_wp2_with fail
      refine (CA.out _ L4.out).mono ?_
      rintro e w5 ⟨rfl, hb⟩
      have L5 := Lib.hid (L4.out.step hb)
      clear hb c1 c2 L4
      go_wp2_with fail
      go_ret
      exact ⟨rfl, L5.out.g⟩
    · exact absurd ⟨rfl, rfl⟩ HA.out
end Go.Proofs.Ytcgncaiehdcooaa
