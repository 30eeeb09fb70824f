/- The law FnNeeds. -/
import Derived.Test.YtcgncaiehdcooaaEB
import Derived.Test.YtcgncaiehdcooaaEA
namespace Go.Proofs.Ytcgncaiehdcooaa
open Go.RowKit
set_option linter.unusedVariables false


structure Law1 (w : World) (P : Nat) (s : ActT) (W : World) : Prop where
  g : Below w.heap.size w W
  k1 : Blk W P s.cells
  r1 : s.Reads W
theorem Law1.step {w W W' : World} {P : Nat} {s : ActT} (h : Law1 w P s W) (hb : Below W.heap.size W W') : Law1 w P s W' :=
  ⟨h.g.trans (hb.mono h.g.size), h.k1.below hb h.k1.lt, h.r1.below hb⟩

set_option maxRecDepth 100000 in
set_option maxHeartbeats 12800000 in
theorem law_FnNeeds (a : Option Addr) (len cap : Nat) (w : World) (hm : len ≤ 9223372036854775807) (hc : Code w w.heap.size a len) : Calls Try.prog 5 #[.slice a len cap] w fun e w' => e = .returned (.bool true) ∧ Below w.heap.size w w' := by
  obtain ⟨i1, hj, hy0, hy1, hy2⟩ := info_parts Try.infoUp
  go_enter Try.func5, Try.ntmps5
  go_wp2_with fail
  refine (drawNeeds_any a len cap _ hm hc).mono ?_
  rintro e w1 ⟨⟨⟨q0, q1, q2, q3, q4, q5, q6, q7, q8, q9, q10⟩, vd, vs⟩, k, rfl, r1, hu, hk, hb⟩
  have hsd := ints_len r1.reads.1
  have hsu := row_shape r1.2
  simp only at hsd hsu hu
  obtain ⟨da, dc, rfl⟩ := hsd
  obtain ⟨ua, uc, rfl⟩ := hsu
  obtain ⟨P, hP⟩ : ∃ P, P = w1.heap.size := ⟨_, rfl⟩
  have l0 : Law1 w w1.heap.size ⟨⟨q0, q1, q2, q3, q4, q5, q6, q7, q8, q9, q10⟩, .slice da q2.length dc, .slice ua q10.length uc⟩ (w1.alloc (.cells #[.int .i64 q0, .int .i64 q1, .slice da q2.length dc, .int .i64 q3, .int .i64 q4, .int .i64 q5, .int .i64 q6, .int .i64 q7, .int .i64 q8, .int .i64 q9, .slice ua q10.length uc] 26)) := by
    have b1 := (Below.refl w1.heap.size w1).alloc (Nat.le_refl _) (.cells #[.int .i64 q0, .int .i64 q1, .slice da q2.length dc, .int .i64 q3, .int .i64 q4, .int .i64 q5, .int .i64 q6, .int .i64 q7, .int .i64 q8, .int .i64 q9, .slice ua q10.length uc] 26)
    exact ⟨hb.trans (b1.mono hb.size), (Blk.new w1 _ _), r1.reads.below b1⟩
  have L0 := Lib.hid l0
  have HU := Lib.hid hu
  have HK := Lib.hid hk
  clear l0 r1 hb hu hc hk
  simp only [ActT.val]
  go_upto_region 2 with (fail)
  refine wp_gen (fun W0 hW0 => ?_)
  rw [← hW0, ← hP] at L0
  rw [← hP]
  clear hW0 hP
  obtain ⟨X, hX⟩ : ∃ X, X = needsM (⟨q0, q1, q2, q3, q4, q5, q6, q7, q8, q9, q10⟩ : ActM) k := ⟨_, rfl⟩
  obtain ⟨Y, hY⟩ : ∃ Y, Y = needsM (moreM (⟨q0, q1, q2, q3, q4, q5, q6, q7, q8, q9, q10⟩ : ActM) ⟨2, k, 0, 0⟩) k := ⟨_, rfl⟩
  have hmore := needs_more (⟨q0, q1, q2, q3, q4, q5, q6, q7, q8, q9, q10⟩ : ActM) k
  rw [← hX, ← hY] at hmore
  have CI : Hid (∀ W', Law1 w P ⟨⟨q0, q1, q2, q3, q4, q5, q6, q7, q8, q9, q10⟩, .slice da q2.length dc, .slice ua q10.length uc⟩ W' → Calls Try.prog 23 #[ActT.val ⟨⟨q0, q1, q2, q3, q4, q5, q6, q7, q8, q9, q10⟩, .slice da q2.length dc, .slice ua q10.length uc⟩, .int .i64 k] W' fun e w' => e = .returned (.int .i64 X) ∧ Below W'.heap.size W' w') := by
    intro W' h
    rw [hX]
    exact implNeeds_any _ (⟨q0, q1, q2, q3, q4, q5, q6, q7, q8, q9, q10⟩ : ActM) k W' h.r1.is (by have := HK.out; omega)
  simp only [ActT.val] at CI
  have CS : Hid (∀ W', Law1 w P ⟨⟨q0, q1, q2, q3, q4, q5, q6, q7, q8, q9, q10⟩, .slice da q2.length dc, .slice ua q10.length uc⟩ W' → Calls Try.prog 24 #[ActT.val ⟨⟨q0, q1, q2, q3, q4, q5, q6, q7, q8, q9, q10⟩, .slice da q2.length dc, .slice ua q10.length uc⟩, .int .i64 k] W' fun e w' => e = .returned (.int .i64 X) ∧ Below W'.heap.size W' w') := by
    intro W' h
    rw [hX]
    exact specNeeds_any _ (⟨q0, q1, q2, q3, q4, q5, q6, q7, q8, q9, q10⟩ : ActM) k W' h.r1.is (by have := HK.out; omega)
  simp only [ActT.val] at CS
  have HM := Lib.hid hmore
  have HX := Lib.hid hX
  have HY := Lib.hid hY
  clear hX hY hmore
  have c1 := L0.out.k1.cell
  simp only [ActT.cells] at c1
  go_wp2_with fail
  refine (CI.out _ L0.out).mono ?_
  rintro e w2 ⟨rfl, hb⟩
  have L2 := Lib.hid (L0.out.step hb)
  clear hb c1 L0
  have c1 := L2.out.k1.cell
  simp only [ActT.cells] at c1
  go_wp2_with fail
  refine (CS.out _ L2.out).mono ?_
  rintro e w3 ⟨rfl, hb⟩
  have L3 := Lib.hid (L2.out.step hb)
  clear hb c1 L2
  have c1 := L3.out.k1.cell
  simp only [ActT.cells] at c1
  go_upto_region 6 with (fail)
  obtain ⟨Q, hQ⟩ : ∃ Q, Q = w3.heap.size := ⟨_, rfl⟩
  have bq := (Below.refl w3.heap.size w3).alloc (Nat.le_refl _) (.cells #[.int .i64 q0, .int .i64 q1, .slice da q2.length dc, .int .i64 q3, .int .i64 q4, .int .i64 q5, .int .i64 q6, .int .i64 q7, .int .i64 q8, .int .i64 q9, .slice ua q10.length uc] 26)
  have kq := Blk.new w3 #[.int .i64 q0, .int .i64 q1, .slice da q2.length dc, .int .i64 q3, .int .i64 q4, .int .i64 q5, .int .i64 q6, .int .i64 q7, .int .i64 q8, .int .i64 q9, .slice ua q10.length uc] 26
  refine wp_gen (fun W4 hW4 => ?_)
  have hsz4 : W4.heap.size = Q + 1 := by rw [hW4, hQ]; simp
  rw [← hW4] at bq kq
  rw [← hQ] at kq bq
  rw [← hQ]
  have BQ := Lib.hid bq
  have KQ := Lib.hid kq
  have L4 := Lib.hid (L3.out.step (by rw [← hQ]; exact bq))
  have HQ := Lib.hid hQ
  have HSZ := Lib.hid hsz4
  clear hW4 bq kq c1 hsz4 hQ
  have O0 := Lib.hid (World.ownsRow_lit (size := 4) (e := 37) (base := W4.heap.size) W4 #[] 0 (Nat.le_refl _) (by unfold maxLen; omega) rfl)
  have c1 := L4.out.k1.cell
  have lq := KQ.out.lt
  have l1 := L4.out.k1.lt
  simp only [ActT.cells] at c1
  have za := (Below.refl W4.heap.size W4).alloc (Nat.le_refl _) (.cells #[] 37)
  have ZA := Lib.hid za
  clear za
  go_wp2_with (at_builtin; refine wpList_app rfl (.tmp 22) (.tmp 24) 24 rfl W4.heap.size 37 i1 _ 4 32 Try.underlying24 hj hy0 hy1 hy2 rfl (by decide) _ (.slice ua q10.length uc) 0 q10.length [] (vu q10) rfl rfl O0.out (src_ups (L4.out.r1.2.below ZA.out)) (vu_one q10) (by have := HU.out; unfold maxLen; omega) (by have := HU.out; omega) (by simp) ?_)
  intro v1 w5 hown1 hgrow1 _
  try simp only [Nat.zero_add, List.nil_append] at hown1
  obtain ⟨a1, cc1, rfl⟩ := row_shape hown1
  have G1 : (W4.alloc (.cells #[] 37)).grownBy w5 (some W4.heap.size) := hgrow1
  have B5 := Lib.hid (ZA.out.grown G1 (by simp) (fun k e => by cases e; exact Nat.le_refl _))
  have O1 := Lib.hid (row_grown (w' := w5.alloc (.cells #[.int .i64 2, .int .i64 k, .int .i64 0, .int .i64 0] 37)) hown1 (grown_alloc w5 _ none) (fun g e => by cases e))
  have B5a := Lib.hid (B5.out.alloc B5.out.size (.cells #[.int .i64 2, .int .i64 k, .int .i64 0, .int .i64 0] 37))
  clear hown1 hgrow1 G1 c1
  go_wp2_with (at_builtin; refine wpList_app rfl (.tmp 25) (.tmp 28) 24 rfl W4.heap.size 37 i1 _ 4 32 Try.underlying24 hj hy0 hy1 hy2 rfl (by decide) (.slice a1 q10.length cc1) (.slice (some ⟨w5.heap.size, 0, none⟩) 1 1) q10.length 1 (vu q10) (upCells ⟨2, k, 0, 0⟩) rfl rfl O1.out (src_up 2 k 0 0) (by simp [upCells, Value.oneCell']) (by have := HU.out; unfold maxLen; omega) (by have := HU.out; omega) (by have := B5.out.size; simp; omega) ?_)
  intro v2 w6 hown2 hgrow2 _
  obtain ⟨g2, cc2, rfl⟩ := row_succ hown2
  have B6 := Lib.hid (B5a.out.grown hgrow2 B5a.out.size (fun g e => own_block_ge O1.out g e))
  have K6 := KQ.out.below B6.out lq
  have B7 := Lib.hid ((BQ.out.trans (B6.out.mono (by have := HSZ.out; omega))).setCell (p := ⟨Q, 10, none⟩) (Nat.le_refl _) (.slice (some ⟨g2, 0, none⟩) (q10.length + 1) cc2))
  have O7 := Lib.hid (row_grown hown2 (grown_set Q 10 (.slice (some ⟨g2, 0, none⟩) (q10.length + 1) cc2)) (fun g e => by cases e; have := HSZ.out; omega))
  have K7 := Lib.hid (K6.set (j := 10) (by simp) (.slice (some ⟨g2, 0, none⟩) (q10.length + 1) cc2))
  have c6 := K6.cell
  have f6 := K6.free
  clear hown2 hgrow2 K6
  go_upto_region 7 with (fail)
  refine wp_gen (fun W7 hW7 => ?_)
  rw [← hW7] at B7 O7 K7
  have L7 := Lib.hid (L3.out.step (by rw [← HQ.out]; exact B7.out))
  clear hW7 c6 f6
  have c7 := K7.out.cell
  simp only [List.set_cons_zero, List.set_cons_succ] at c7
  have UPS : Hid (Ups W7 (.slice (some ⟨g2, 0, none⟩) (q10.length + 1) cc2) (q10 ++ [⟨2, k, 0, 0⟩])) := ups_of_row (lo := W4.heap.size) (by simpa [vu, upCells] using O7.out)
  have IS : Hid (ActIs W7 (.agg #[.int .i64 q0, .int .i64 q1, .slice da q2.length dc, .int .i64 q3, .int .i64 q4, .int .i64 q5, .int .i64 q6, .int .i64 q7, .int .i64 q8, .int .i64 q9, .slice (some ⟨g2, 0, none⟩) (q10.length + 1) cc2]) (moreM (⟨q0, q1, q2, q3, q4, q5, q6, q7, q8, q9, q10⟩ : ActM) ⟨2, k, 0, 0⟩)) := ⟨_, _, rfl, L7.out.r1.1, UPS.out⟩
  have CM := Lib.hid (implNeeds_any _ _ k W7 IS.out (by have := HK.out; omega))
  rw [← HY.out] at CM
  go_wp2_with fail
  refine CM.out.mono ?_
  rintro e w8 ⟨rfl, hb⟩
  have B8 := Lib.hid (L7.out.step hb)
  clear hb c7
  have hor : bits .or .i64 X 4 = Y := by
    rcases HM.out with ⟨h1 | h1, h2⟩ | ⟨h1 | h1, h2⟩ <;> rw [h1, h2] <;> decide +kernel
  have han : bits .andNot .i64 X 6 = 0 := by
    rcases HM.out with ⟨h1 | h1, h2⟩ | ⟨h1 | h1, h2⟩ <;> rw [h1] <;> decide +kernel
  go_wp2_with fail
  refine (acts_any _).mono ?_
  rintro e w9 ⟨rfl, hb⟩
  have B9 := Lib.hid (B8.out.g.trans (hb.mono B8.out.g.size))
  clear hb
  go_wp2_with fail
  go_ret
  exact ⟨rfl, B9.out⟩
end Go.Proofs.Ytcgncaiehdcooaa
