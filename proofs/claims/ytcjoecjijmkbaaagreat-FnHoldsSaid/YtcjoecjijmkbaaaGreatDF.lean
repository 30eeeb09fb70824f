/- The reference's l2bent. -/
import Derived.Test.YtcjoecjijmkbaaaGreatDE

namespace Go.Proofs.YtcjoecjijmkbaaaGreat
open Go.RowKit
set_option linter.unusedVariables false
set_option maxRecDepth 100000 in
set_option maxHeartbeats 6400000 in
theorem l2bent_any (B : Nat) (w : World) (h : Cur w B) : Calls Tryz.prog 49 #[.pointer (some ⟨B, 0, none⟩)] w (DrawnOne 6 w B) := by
 obtain ⟨i0, hi, hz0, hz1, hz2⟩ := info_parts Tryz.info3
 obtain ⟨i1, hj, hy0, hy1, hy2⟩ := info_parts Tryz.infoUp
 have hB := h.lt
 obtain ⟨L, hL⟩ : ∃ L, L = w.heap.size := ⟨_, rfl⟩
 obtain ⟨W0, hW0⟩ : ∃ W0, W0 = w.alloc (.cells #[.int .i64 0, .int .i64 0, .slice none 0 0, .int .i64 0, .int .i64 0, .int .i64 0, .int .i64 0, .int .i64 0, .int .i64 0, .int .i64 0, .slice none 0 0] 33) := ⟨_, rfl⟩
 have K0 := Blk.new w #[.int .i64 0, .int .i64 0, .slice none 0 0, .int .i64 0, .int .i64 0, .int .i64 0, .int .i64 0, .int .i64 0, .int .i64 0, .int .i64 0, .slice none 0 0] 33
 have G0 := (grown_alloc w (.cells #[.int .i64 0, .int .i64 0, .slice none 0 0, .int .i64 0, .int .i64 0, .int .i64 0, .int .i64 0, .int .i64 0, .int .i64 0, .int .i64 0, .slice none 0 0] 33) (some B))
 have C0 := (h.grown (grown_alloc w (.cells #[.int .i64 0, .int .i64 0, .slice none 0 0, .int .i64 0, .int .i64 0, .int .i64 0, .int .i64 0, .int .i64 0, .int .i64 0, .int .i64 0, .slice none 0 0] 33) none) (fun g e => by cases e))
 have hsz : W0.heap.size = w.heap.size + 1 := by rw [hW0]; simp
 rw [← hW0] at K0 G0 C0
 rw [← hL] at K0 hsz
 have hLw : w.heap.size ≤ L := by omega
 have hBL : B < L := by omega
 have HSZ := Lib.hid hsz
 have K0 := Lib.hid K0
 have G0 := Lib.hid G0
 have C0 := Lib.hid C0
 have HLw := Lib.hid hLw
 have HL := Lib.hid hL
 clear h hsz hL hLw hB
 go_enter Tryz.func49, Tryz.ntmps49
 go_upto_region 1 with (fail)
 rw [← HL.out, ← hW0]
 clear hW0
 go_wp2_with fail
 refine (l2draw_any B _ C0.out).mono ?_
 rintro e w1 ⟨⟨⟨q0, q1, q2, q3, q4, q5, q6, q7, q8, q9, q10⟩, vd, vs⟩, rfl, tow, tn, hc, hg⟩
 have hsd := ints_len tow.reads.1
 have hsu := row_shape tow.2
 simp only at hsd hsu tn
 obtain ⟨da, dc, rfl⟩ := hsd
 obtain ⟨ua, uc, rfl⟩ := hsu
 have hs1 := hg.size
 have L1 : L + 1 ≤ w1.heap.size := by have := HSZ.out; omega
 obtain ⟨P, hP⟩ : ∃ P, P = w1.heap.size := ⟨_, rfl⟩
 obtain ⟨W2, hW2⟩ : ∃ W2, W2 = w1.alloc (.cells #[.int .i64 q0, .int .i64 q1, .slice da q2.length dc, .int .i64 q3, .int .i64 q4, .int .i64 q5, .int .i64 q6, .int .i64 q7, .int .i64 q8, .int .i64 q9, .slice ua q10.length uc] 33) := ⟨_, rfl⟩
 have b2 : Bent w B L P W2 ⟨⟨q0, q1, q2, q3, q4, q5, q6, q7, q8, q9, q10⟩, .slice da q2.length dc, .slice ua q10.length uc⟩ := by
  have hsz := HSZ.out
  have K1 := K0.out.grown hg (by omega)
  have G1 := grown_then G0.out hg (fun g e => .inl (by cases e; rfl))
  have ga := grown_alloc w1 (.cells #[.int .i64 q0, .int .i64 q1, .slice da q2.length dc, .int .i64 q3, .int .i64 q4, .int .i64 q5, .int .i64 q6, .int .i64 q7, .int .i64 q8, .int .i64 q9, .slice ua q10.length uc] 33) none
  obtain ⟨⟨g, g1, ho⟩, hu⟩ := tow
  simp only at ho hu
  rw [hW2, hP]
  refine ⟨hBL, HLw.out, by omega, hc.grown ga (fun g e => by cases e), Blk.new w1 _ _, K1.alloc _, grown_then G1 ga (fun g e => by cases e), ⟨g, by omega, (fun hp => by have := own_lt ho hp; omega), ho.block fun hp => Below.heap_alloc _ _ _ (own_lt ho hp)⟩, row_less (row_grown hu ga (fun g e => by cases e)) (by omega), (fun e => by have := row_ltv hu _ e; omega), Nat.le_succ_of_le tn.2.1, Nat.le_succ_of_le tn.2.2⟩
 have HP := Lib.hid hP
 have hn1 := tn.1
 have hn5 := tn.2.1
 have hn6 := tn.2.2
 have B2 := Lib.hid b2
 clear tow tn hc hg b2 hs1 K0 G0 C0
 simp only [ActT.val]
 go_upto_region 2 with (fail)
 rw [← hP, ← hW2]
 clear hP hW2
 go_wp2_with fail
 refine (below_any B 20 _ B2.out.c (by omega)).mono ?_
 rintro e w3 ⟨x, rfl, x0, _, x2, hc, hg⟩
 have hx := x2 (by omega)
 have B3 := Lib.hid (B2.out.call hc hg)
 obtain ⟨kk, rfl⟩ := Int.eq_ofNat_of_zero_le x0
 clear hc hg x2 B2 x0
 have c := B3.out.k.cell
 have f := B3.out.k.free
 simp only [ActT.cells] at c
 by_cases hk : kk ≤ 10
 ·have hcs : kk = 0 ∨ kk = 1 ∨ kk = 2 ∨ kk = 3 ∨ kk = 4 ∨ kk = 5 ∨ kk = 6 ∨ kk = 7 ∨ kk = 8 ∨ kk = 9 ∨ kk = 10 := by omega
  clear hk hx
  rcases hcs with rfl | rfl | rfl | rfl | rfl | rfl | rfl | rfl | rfl | rfl | rfl
  ·go_wp2_with fail
   refine (pick_lit B w3.heap.size _ [-1, 0, 1, 4] 4 _ rfl rfl rfl B3.out.c (by omega) (by omega)).mono ?_
   rintro e w4 ⟨y, rfl, _, hc, hg⟩
   have b4 := B3.out.call hc hg
   clear c f
   have c := b4.k.cell
   have f := b4.k.free
   simp only [ActT.cells] at c
   have B5 := Lib.hid (b4.store 0 (.int .i64 y) ⟨⟨y, q1, q2, q3, q4, q5, q6, q7, q8, q9, q10⟩, .slice da q2.length dc, .slice ua q10.length uc⟩ (by omega) rfl rfl rfl rfl rfl)
   clear hc hg b4 B3
   go_upto_region 26 with (fail)
   obtain ⟨W5, hW5⟩ : ∃ V, V = w4.setCell ⟨P, 0, none⟩ (.int .i64 y) := ⟨_, rfl⟩
   rw [← hW5] at B5 ⊢
   clear hW5
   clear c f
   have c := B5.out.k.cell
   simp only [ActT.cells] at c
   have c9 := B5.out.l.cell
   have f9 := B5.out.l.free
   simp only [ActT.cells, tz, act0] at c9
   go_wp2_with fail
   refine bodyPost_ret (v := ActT.val ⟨⟨y, q1, q2, q3, q4, q5, q6, q7, q8, q9, q10⟩, .slice da q2.length dc, .slice ua q10.length uc⟩) (by simp [results, Tryz.results49, go_sem, c9, ActT.val]) rfl (B5.out.fin (by exact ⟨Nat.le_succ_of_le hn5, Nat.le_succ_of_le hn6⟩) (by exact hn1) (grown11 ..))
  ·go_wp2_with fail
   refine (pick_lit B w3.heap.size _ [0, 1, 100000, 100001] 4 _ rfl rfl rfl B3.out.c (by omega) (by omega)).mono ?_
   rintro e w4 ⟨y, rfl, _, hc, hg⟩
   have b4 := B3.out.call hc hg
   clear c f
   have c := b4.k.cell
   have f := b4.k.free
   simp only [ActT.cells] at c
   have B5 := Lib.hid (b4.store 1 (.int .i64 y) ⟨⟨q0, y, q2, q3, q4, q5, q6, q7, q8, q9, q10⟩, .slice da q2.length dc, .slice ua q10.length uc⟩ (by omega) rfl rfl rfl rfl rfl)
   clear hc hg b4 B3
   go_upto_region 26 with (fail)
   obtain ⟨W5, hW5⟩ : ∃ V, V = w4.setCell ⟨P, 1, none⟩ (.int .i64 y) := ⟨_, rfl⟩
   rw [← hW5] at B5 ⊢
   clear hW5
   clear c f
   have c := B5.out.k.cell
   simp only [ActT.cells] at c
   have c9 := B5.out.l.cell
   have f9 := B5.out.l.free
   simp only [ActT.cells, tz, act0] at c9
   go_wp2_with fail
   refine bodyPost_ret (v := ActT.val ⟨⟨q0, y, q2, q3, q4, q5, q6, q7, q8, q9, q10⟩, .slice da q2.length dc, .slice ua q10.length uc⟩) (by simp [results, Tryz.results49, go_sem, c9, ActT.val]) rfl (B5.out.fin (by exact ⟨Nat.le_succ_of_le hn5, Nat.le_succ_of_le hn6⟩) (by exact hn1) (grown11 ..))
  ·go_wp2_with fail
   refine (pick_lit B w3.heap.size _ [-1, 5, 6] 3 _ rfl rfl rfl B3.out.c (by omega) (by omega)).mono ?_
   rintro e w4 ⟨y, rfl, _, hc, hg⟩
   have b4 := B3.out.call hc hg
   clear c f
   have c := b4.k.cell
   have f := b4.k.free
   simp only [ActT.cells] at c
   have B5 := Lib.hid (b4.store 3 (.int .i64 y) ⟨⟨q0, q1, q2, y, q4, q5, q6, q7, q8, q9, q10⟩, .slice da q2.length dc, .slice ua q10.length uc⟩ (by omega) rfl rfl rfl rfl rfl)
   clear hc hg b4 B3
   go_upto_region 26 with (fail)
   obtain ⟨W5, hW5⟩ : ∃ V, V = w4.setCell ⟨P, 3, none⟩ (.int .i64 y) := ⟨_, rfl⟩
   rw [← hW5] at B5 ⊢
   clear hW5
   clear c f
   have c := B5.out.k.cell
   simp only [ActT.cells] at c
   have c9 := B5.out.l.cell
   have f9 := B5.out.l.free
   simp only [ActT.cells, tz, act0] at c9
   go_wp2_with fail
   refine bodyPost_ret (v := ActT.val ⟨⟨q0, q1, q2, y, q4, q5, q6, q7, q8, q9, q10⟩, .slice da q2.length dc, .slice ua q10.length uc⟩) (by simp [results, Tryz.results49, go_sem, c9, ActT.val]) rfl (B5.out.fin (by exact ⟨Nat.le_succ_of_le hn5, Nat.le_succ_of_le hn6⟩) (by exact hn1) (grown11 ..))
  ·go_wp2_with fail
   refine (below_any B 6 _ B3.out.c (by omega)).mono ?_
   rintro e w4 ⟨y, rfl, _, _, _, hc, hg⟩
   have b4 := B3.out.call hc hg
   clear c f
   have c := b4.k.cell
   have f := b4.k.free
   simp only [ActT.cells] at c
   have B5 := Lib.hid (b4.store 4 (.int .i64 y) ⟨⟨q0, q1, q2, q3, y, q5, q6, q7, q8, q9, q10⟩, .slice da q2.length dc, .slice ua q10.length uc⟩ (by omega) rfl rfl rfl rfl rfl)
   clear hc hg b4 B3
   go_upto_region 26 with (fail)
   obtain ⟨W5, hW5⟩ : ∃ V, V = w4.setCell ⟨P, 4, none⟩ (.int .i64 y) := ⟨_, rfl⟩
   rw [← hW5] at B5 ⊢
   clear hW5
   clear c f
   have c := B5.out.k.cell
   simp only [ActT.cells] at c
   have c9 := B5.out.l.cell
   have f9 := B5.out.l.free
   simp only [ActT.cells, tz, act0] at c9
   go_wp2_with fail
   refine bodyPost_ret (v := ActT.val ⟨⟨q0, q1, q2, q3, y, q5, q6, q7, q8, q9, q10⟩, .slice da q2.length dc, .slice ua q10.length uc⟩) (by simp [results, Tryz.results49, go_sem, c9, ActT.val]) rfl (B5.out.fin (by exact ⟨Nat.le_succ_of_le hn5, Nat.le_succ_of_le hn6⟩) (by exact hn1) (grown11 ..))
  ·go_wp2_with fail
   refine (pick_lit B w3.heap.size _ [-1, 0, 15, 16] 4 _ rfl rfl rfl B3.out.c (by omega) (by omega)).mono ?_
   rintro e w4 ⟨y, rfl, _, hc, hg⟩
   have b4 := B3.out.call hc hg
   clear c f
   have c := b4.k.cell
   have f := b4.k.free
   simp only [ActT.cells] at c
   have B5 := Lib.hid (b4.store 7 (.int .i64 y) ⟨⟨q0, q1, q2, q3, q4, q5, q6, y, q8, q9, q10⟩, .slice da q2.length dc, .slice ua q10.length uc⟩ (by omega) rfl rfl rfl rfl rfl)
   clear hc hg b4 B3
   go_upto_region 26 with (fail)
   obtain ⟨W5, hW5⟩ : ∃ V, V = w4.setCell ⟨P, 7, none⟩ (.int .i64 y) := ⟨_, rfl⟩
   rw [← hW5] at B5 ⊢
   clear hW5
   clear c f
   have c := B5.out.k.cell
   simp only [ActT.cells] at c
   have c9 := B5.out.l.cell
   have f9 := B5.out.l.free
   simp only [ActT.cells, tz, act0] at c9
   go_wp2_with fail
   refine bodyPost_ret (v := ActT.val ⟨⟨q0, q1, q2, q3, q4, q5, q6, y, q8, q9, q10⟩, .slice da q2.length dc, .slice ua q10.length uc⟩) (by simp [results, Tryz.results49, go_sem, c9, ActT.val]) rfl (B5.out.fin (by exact ⟨Nat.le_succ_of_le hn5, Nat.le_succ_of_le hn6⟩) (by exact hn1) (grown11 ..))
  ·go_wp2_with fail
   refine (pick_lit B w3.heap.size _ [-1, 2, 3] 3 _ rfl rfl rfl B3.out.c (by omega) (by omega)).mono ?_
   rintro e w4 ⟨y, rfl, _, hc, hg⟩
   have b4 := B3.out.call hc hg
   clear c f
   have c := b4.k.cell
   have f := b4.k.free
   simp only [ActT.cells] at c
   have B5 := Lib.hid (b4.store 6 (.int .i64 y) ⟨⟨q0, q1, q2, q3, q4, q5, y, q7, q8, q9, q10⟩, .slice da q2.length dc, .slice ua q10.length uc⟩ (by omega) rfl rfl rfl rfl rfl)
   clear hc hg b4 B3
   go_upto_region 26 with (fail)
   obtain ⟨W5, hW5⟩ : ∃ V, V = w4.setCell ⟨P, 6, none⟩ (.int .i64 y) := ⟨_, rfl⟩
   rw [← hW5] at B5 ⊢
   clear hW5
   clear c f
   have c := B5.out.k.cell
   simp only [ActT.cells] at c
   have c9 := B5.out.l.cell
   have f9 := B5.out.l.free
   simp only [ActT.cells, tz, act0] at c9
   go_wp2_with fail
   refine bodyPost_ret (v := ActT.val ⟨⟨q0, q1, q2, q3, q4, q5, y, q7, q8, q9, q10⟩, .slice da q2.length dc, .slice ua q10.length uc⟩) (by simp [results, Tryz.results49, go_sem, c9, ActT.val]) rfl (B5.out.fin (by exact ⟨Nat.le_succ_of_le hn5, Nat.le_succ_of_le hn6⟩) (by exact hn1) (grown11 ..))
  ·have B3d := Lib.hid B3.out.drew
   have hm1 : q10.length + 1 ≤ maxLen := by unfold maxLen; omega
   have hm2 : (q10.length + 1) * 32 ≤ 140737488355328 := by omega
   go_wp2_with fail
   go_region_law (first | (go_simp; go_at_call 26; (with_reducible refine (below_any B 6 w3.drew B3d.out.c (by omega)).mono ?_); rintro e w4 ⟨y4, rfl, y40, _, y42, hc, hg⟩; have y4b := y42 (by omega); have b4 := Lib.hid (B3d.out.call hc hg); have cb4 := b4.out.k.cell; simp only [ActT.cells] at cb4; have lb4 : P < w4.heap.size := b4.out.k.lt; clear y42 hc hg) | (go_simp; go_at_call 26; (with_reducible refine (below_any B 5 w4 b4.out.c (by omega)).mono ?_); rintro e w5 ⟨y5, rfl, y50, _, y52, hc, hg⟩; have y5b := y52 (by omega); have b5 := Lib.hid (b4.out.call hc hg); have cb5 := b5.out.k.cell; simp only [ActT.cells] at cb5; have lb5 : P < w5.heap.size := b5.out.k.lt; clear y52 hc hg) | (go_simp; go_at_call 26; (with_reducible refine (below_any B 6 w5 b5.out.c (by omega)).mono ?_); rintro e w6 ⟨y6, rfl, y60, _, y62, hc, hg⟩; have y6b := y62 (by omega); have b6 := Lib.hid (b5.out.call hc hg); have cb6 := b6.out.k.cell; simp only [ActT.cells] at cb6; have lb6 : P < w6.heap.size := b6.out.k.lt; clear y62 hc hg) | (refine step_append_lies _ (by rfl) _ _ _ (by rfl) (L + 1) 111 i1 _ 4 32 Tryz.underlying31 hj hy0 hy1 hy2 rfl (by omega) (.slice ua q10.length uc) q10.length (vu q10) (by rfl) (b6.out.alloc (.cells #[.int .i64 y4, .int .i64 (IntKind.i64.wrap (y5 - 1)), .int .i64 (IntKind.i64.wrap (y6 - 1)), .int .i64 0] 111)).u ⟨w6.heap.size, 0, none⟩ 1 1 (upCells ⟨y4, IntKind.i64.wrap (y5 - 1), IntKind.i64.wrap (y6 - 1), 0⟩) (by rfl) (by rfl) (World.news_of_block (cs := #[.int .i64 y4, .int .i64 (IntKind.i64.wrap (y5 - 1)), .int .i64 (IntKind.i64.wrap (y6 - 1)), .int .i64 0]) (t := 111) (fr := (0, 0)) (heap_alloc_new w6 _)) (by simp [upCells, Value.oneCell']) (by omega) hm1 hm2 (by have := b6.out.lp; have := b6.out.k.lt; simp; omega) (w6.heap.size + 1) (by simp) ?_; intro gg cap w8 hown8 hgrow hat hlt8; have gp : gg ≠ P := (by rcases hat with h | h; exact fun e => b6.out.up (by rw [← e]; exact h); have := b6.out.k.lt; omega); have SF := Lib.hid ((b6.out.alloc (.cells #[.int .i64 y4, .int .i64 (IntKind.i64.wrap (y5 - 1)), .int .i64 (IntKind.i64.wrap (y6 - 1)), .int .i64 0] 111)).append ⟨y4, IntKind.i64.wrap (y5 - 1), IntKind.i64.wrap (y6 - 1), 0⟩ ⟨⟨q0, q1, q2, q3, q4, q5, q6, q7, q8, q9, q10 ++ [⟨y4, IntKind.i64.wrap (y5 - 1), IntKind.i64.wrap (y6 - 1), 0⟩]⟩, .slice da q2.length dc, .slice (some ⟨gg, 0, none⟩) (q10.length + 1) cap⟩ hgrow hown8 gp (by simp; omega) rfl rfl rfl rfl rfl); obtain ⟨rc, rk, _, _, _⟩ := (b6.out.alloc (.cells #[.int .i64 y4, .int .i64 (IntKind.i64.wrap (y5 - 1)), .int .i64 (IntKind.i64.wrap (y6 - 1)), .int .i64 0] 111)).row hgrow; have c8 := rk.cell; have f8 := rk.free; simp only [ActT.cells] at c8; clear hgrow hown8 rc rk))
   all_goals
    clear c f
    go_upto_region 26 with (fail)
    obtain ⟨W9, hW9⟩ : ∃ V, V = w8.setCell ⟨P, 10, none⟩ (.slice (some ⟨gg, 0, none⟩) (q10.length + 1) cap) := ⟨_, rfl⟩
    rw [← hW9] at SF ⊢
    clear hW9
    have c := True.intro
    have f := True.intro
    clear c f
    have c := SF.out.k.cell
    simp only [ActT.cells] at c
    have c9 := SF.out.l.cell
    have f9 := SF.out.l.free
    simp only [ActT.cells, tz, act0] at c9
    go_wp2_with fail
    refine bodyPost_ret (v := ActT.val ⟨⟨q0, q1, q2, q3, q4, q5, q6, q7, q8, q9, q10 ++ [⟨y4, IntKind.i64.wrap (y5 - 1), IntKind.i64.wrap (y6 - 1), 0⟩]⟩, .slice da q2.length dc, .slice (some ⟨gg, 0, none⟩) (q10.length + 1) cap⟩) (by simp [results, Tryz.results49, go_sem, c9, ActT.val]) rfl (SF.out.fin (by constructor <;> first | (simp; done) | (simp; omega) | omega) (by first | (simp; done) | (simp; omega)) (grown11 ..))
  ·obtain ⟨g, g1, g2, ho⟩ := B3.out.d
   obtain ⟨cap, hv, hrow⟩ := own_open ho hn1
   simp only [Value.slice.injEq, true_and] at hv
   obtain ⟨rfl, rfl⟩ := hv
   have hgP := g2 hn1
   have hgl := own_lt ho hn1
   have HR := Lib.hid ((B3.out.alloc (.cells #[.int .i64 0] 3)))
   have HO := Lib.hid (And.intro (row_grown (w' := w3.alloc (.cells #[.int .i64 0] 3)) hrow (grown_alloc w3 _ none) (fun g e => by cases e)) (row_less (lo := L + 1) (row_grown (w' := w3.alloc (.cells #[.int .i64 0] 3)) hrow (grown_alloc w3 _ none) (fun g e => by cases e)) g1))
   have hl3 : P < w3.heap.size := B3.out.k.lt
   have hlp := B3.out.lp
   clear ho hrow g2
   go_wp2_with (at_builtin; refine wpList_app rfl (.tmp 62) (.tmp 63) 24 rfl (L + 1) 3 i0 (.int .i64 0) 1 8 Tryz.underlying24 hi hz0 hz1 hz2 rfl (by decide) (.slice (some ⟨g, 0, none⟩) q2.length dc) (.slice (some ⟨w3.heap.size, 0, none⟩) 1 1) q2.length 1 (vi q2) [.int .i64 0] rfl rfl HO.out.2 (src_intv 0) (by simp [Value.oneCell']) (by unfold maxLen; omega) (by omega) (by simp; omega) ?_)
   intro v9 w9 hown9 hgrow9 hat9
   obtain ⟨g9, cp9, rfl⟩ := row_succ hown9
   have hg9 := (own_at hown9).2.1
   have hne9 : g9 ≠ P := by
    rcases hat9 with h | h
    ·simp only [Value.ownBlock, Option.some.injEq] at h; omega
    ·simp only [Value.ownBlock, Option.some.injEq] at h; omega
   have SF := Lib.hid (HR.out.clock (W' := w9) g1 hgP HO.out.1 hgrow9 (.slice (some ⟨g9, 0, none⟩) (q2.length + 1) cp9) (q2 ++ [0]) ⟨⟨q0, q1, q2 ++ [0], q3, q4, q5, q6, q7, q8, q9, q10⟩, .slice (some ⟨g9, 0, none⟩) (q2.length + 1) cp9, .slice ua q10.length uc⟩ hg9 hne9 (.inr ⟨by simp, cp9, by simp, by simpa [vi] using (own_at hown9).1⟩) (by simp; omega) rfl rfl rfl rfl rfl)
   have K9 := (HR.out.k.grown (w' := w9) hgrow9 (fun e => hgP e.symm))
   have c9k := K9.cell
   have f9k := K9.free
   simp only [ActT.cells] at c9k
   clear hgrow9 hown9 hat9 K9 c f
   go_upto_region 26 with (fail)
   obtain ⟨W9, hW9⟩ : ∃ V, V = w9.setCell ⟨P, 2, none⟩ (.slice (some ⟨g9, 0, none⟩) (q2.length + 1) cp9) := ⟨_, rfl⟩
   rw [← hW9] at SF ⊢
   clear hW9
   clear c9k f9k
   have c := True.intro
   have f := True.intro
   clear c f
   have c := SF.out.k.cell
   simp only [ActT.cells] at c
   have c9 := SF.out.l.cell
   have f9 := SF.out.l.free
   simp only [ActT.cells, tz, act0] at c9
   go_wp2_with fail
   refine bodyPost_ret (v := ActT.val ⟨⟨q0, q1, q2 ++ [0], q3, q4, q5, q6, q7, q8, q9, q10⟩, .slice (some ⟨g9, 0, none⟩) (q2.length + 1) cp9, .slice ua q10.length uc⟩) (by simp [results, Tryz.results49, go_sem, c9, ActT.val]) rfl (SF.out.fin (by constructor <;> first | (simp; done) | (simp; omega) | omega) (by first | (simp; done) | (simp; omega)) (grown11 ..))
  ·go_wp2_with fail
   refine (pick_lit B w3.heap.size _ [0, 1, 9] 3 _ rfl rfl rfl B3.out.c (by omega) (by omega)).mono ?_
   rintro e w4 ⟨y, rfl, _, hc, hg⟩
   have b4 := B3.out.call hc hg
   clear c f
   have c := b4.k.cell
   have f := b4.k.free
   simp only [ActT.cells] at c
   have B5 := Lib.hid (b4.store 9 (.int .i64 y) ⟨⟨q0, q1, q2, q3, q4, q5, q6, q7, q8, y, q10⟩, .slice da q2.length dc, .slice ua q10.length uc⟩ (by omega) rfl rfl rfl rfl rfl)
   clear hc hg b4 B3
   go_upto_region 26 with (fail)
   obtain ⟨W5, hW5⟩ : ∃ V, V = w4.setCell ⟨P, 9, none⟩ (.int .i64 y) := ⟨_, rfl⟩
   rw [← hW5] at B5 ⊢
   clear hW5
   clear c f
   have c := B5.out.k.cell
   simp only [ActT.cells] at c
   have c9 := B5.out.l.cell
   have f9 := B5.out.l.free
   simp only [ActT.cells, tz, act0] at c9
   go_wp2_with fail
   refine bodyPost_ret (v := ActT.val ⟨⟨q0, q1, q2, q3, q4, q5, q6, q7, q8, y, q10⟩, .slice da q2.length dc, .slice ua q10.length uc⟩) (by simp [results, Tryz.results49, go_sem, c9, ActT.val]) rfl (B5.out.fin (by exact ⟨Nat.le_succ_of_le hn5, Nat.le_succ_of_le hn6⟩) (by exact hn1) (grown11 ..))
  ·go_wp2_with fail
   refine (pick_lit B w3.heap.size _ [-1, 5, 6] 3 _ rfl rfl rfl B3.out.c (by omega) (by omega)).mono ?_
   rintro e w4 ⟨y, rfl, _, hc, hg⟩
   have b4 := B3.out.call hc hg
   clear c f
   have c := b4.k.cell
   have f := b4.k.free
   simp only [ActT.cells] at c
   have B5 := Lib.hid (b4.store 5 (.int .i64 y) ⟨⟨q0, q1, q2, q3, q4, y, q6, q7, q8, q9, q10⟩, .slice da q2.length dc, .slice ua q10.length uc⟩ (by omega) rfl rfl rfl rfl rfl)
   clear hc hg b4 B3
   go_upto_region 26 with (fail)
   obtain ⟨W5, hW5⟩ : ∃ V, V = w4.setCell ⟨P, 5, none⟩ (.int .i64 y) := ⟨_, rfl⟩
   rw [← hW5] at B5 ⊢
   clear hW5
   clear c f
   have c := B5.out.k.cell
   simp only [ActT.cells] at c
   have c9 := B5.out.l.cell
   have f9 := B5.out.l.free
   simp only [ActT.cells, tz, act0] at c9
   go_wp2_with fail
   refine bodyPost_ret (v := ActT.val ⟨⟨q0, q1, q2, q3, q4, y, q6, q7, q8, q9, q10⟩, .slice da q2.length dc, .slice ua q10.length uc⟩) (by simp [results, Tryz.results49, go_sem, c9, ActT.val]) rfl (B5.out.fin (by exact ⟨Nat.le_succ_of_le hn5, Nat.le_succ_of_le hn6⟩) (by exact hn1) (grown11 ..))
  ·clear c f
   go_wp2_with fail
   go_loopw [] (fun wr => ∃ (us : List UpM) (va : Option Addr) (vc : Nat), Hid (Bent w B L P wr ⟨⟨q0, q1, q2, q3, q4, q5, q6, q7, q8, q9, us⟩, .slice da q2.length dc, .slice va us.length vc⟩) ∧ us.length ≤ 6) (fun wr => match wr.cell? ⟨P, 10, none⟩ with | some (.slice _ n _) => 6 - n | _ => 0)
   case atStart => exact ⟨q10, ua, uc, B3.out, by omega⟩
   case round =>
    obtain ⟨us, va, vc, hb, hu6⟩ := hrel
    clear B3
    have c := hb.out.k.cell
    have f := hb.out.k.free
    simp only [ActT.cells] at c
    by_cases hlt : us.length < 6
    ·have hl3 : P < wr.heap.size := hb.out.k.lt
     have hlp := hb.out.lp
     go_wp2_with (at_builtin; refine wpList_app rfl (.tmp 85) (.tmp 87) 31 rfl (L + 1) 111 i1 _ 4 32 Tryz.underlying31 hj hy0 hy1 hy2 rfl (by decide) (.slice va us.length vc) (.slice (some ⟨wr.heap.size, 0, none⟩) 1 1) us.length 1 (vu us) (upCells ⟨1, 0, 0, 0⟩) rfl rfl (hb.out.alloc _).u (src_up 1 0 0 0) (by simp [upCells, Value.oneCell']) (by unfold maxLen; omega) (by omega) (by simp; omega) ?_)
     intro v9 w9 hown9 hgrow9 hat9
     obtain ⟨g9, cp9, rfl⟩ := row_succ hown9
     have hne9 : g9 ≠ P := by
      rcases hat9 with h | h
      ·exact fun e => hb.out.up (by rw [← h, e]; rfl)
      ·simp only [Value.ownBlock, Option.some.injEq] at h; omega
     have SF := Lib.hid ((hb.out.alloc (.cells #[.int .i64 1, .int .i64 0, .int .i64 0, .int .i64 0] 111)).append (W' := w9) ⟨1, 0, 0, 0⟩ ⟨⟨q0, q1, q2, q3, q4, q5, q6, q7, q8, q9, us ++ [(⟨1, 0, 0, 0⟩ : UpM)]⟩, .slice da q2.length dc, .slice (some ⟨g9, 0, none⟩) (us.length + 1) cp9⟩ hgrow9 hown9 hne9 (by simp; omega) rfl rfl rfl rfl rfl)
     obtain ⟨rc, rk, _, _, _⟩ := (hb.out.alloc (.cells #[.int .i64 1, .int .i64 0, .int .i64 0, .int .i64 0] 111)).row (W' := w9) hgrow9
     have c8 := rk.cell
     have f8 := rk.free
     simp only [ActT.cells] at c8
     clear hgrow9 hown9 hat9 rc rk c f
     have SG := Lib.hid (show Bent w B L P (w9.setCell ⟨P, 10, none⟩ (.slice (some ⟨g9, 0, none⟩) (us.length + 1) cp9)) ⟨⟨q0, q1, q2, q3, q4, q5, q6, q7, q8, q9, us ++ [(⟨1, 0, 0, 0⟩ : UpM)]⟩, .slice da q2.length dc, .slice (some ⟨g9, 0, none⟩) (us ++ [(⟨1, 0, 0, 0⟩ : UpM)]).length cp9⟩ from by simpa using SF.out)
     go_wp2_with fail
     go_roundw
     case rel => exact ⟨us ++ [(⟨1, 0, 0, 0⟩ : UpM)], _, cp9, SG.out, by simp; omega⟩
     case measure =>
      have a1 := SF.out.k.cell 10
      have a2 := hb.out.k.cell 10
      simp only [ActT.cells, List.getElem?_cons_succ, List.getElem?_cons_zero] at a1 a2
      rw [a1, a2]
      simp
      omega
    ·have hnl : 6 ≤ us.length := by omega
     clear c f
     have c := hb.out.k.cell
     simp only [ActT.cells] at c
     have c9 := hb.out.l.cell
     have f9 := hb.out.l.free
     simp only [ActT.cells, tz, act0] at c9
     go_wp2_with fail
     refine bodyPost_ret (v := ActT.val ⟨⟨q0, q1, q2, q3, q4, q5, q6, q7, q8, q9, us⟩, .slice da q2.length dc, .slice va us.length vc⟩) (by simp [results, Tryz.results49, go_sem, c9, ActT.val]) rfl (hb.out.fin (by exact ⟨Nat.le_succ_of_le hn5, hu6⟩) hn1 (grown11 ..))
 ·have e0 : ((kk : Int) == 0) = false := by simp; omega
  have e1 : ((kk : Int) == 1) = false := by simp; omega
  have e2 : ((kk : Int) == 2) = false := by simp; omega
  have e3 : ((kk : Int) == 3) = false := by simp; omega
  have e4 : ((kk : Int) == 4) = false := by simp; omega
  have e5 : ((kk : Int) == 5) = false := by simp; omega
  have e6 : ((kk : Int) == 6) = false := by simp; omega
  have e7 : ((kk : Int) == 7) = false := by simp; omega
  have e8 : ((kk : Int) == 8) = false := by simp; omega
  have e9 : ((kk : Int) == 9) = false := by simp; omega
  have e10 : ((kk : Int) == 10) = false := by simp; omega
  have B5 := B3
  clear c f
  have c := B5.out.k.cell
  simp only [ActT.cells] at c
  have c9 := B5.out.l.cell
  have f9 := B5.out.l.free
  simp only [ActT.cells, tz, act0] at c9
  go_wp2_with fail
  refine bodyPost_ret (v := ActT.val ⟨⟨q0, q1, q2, q3, q4, q5, q6, q7, q8, q9, q10⟩, .slice da q2.length dc, .slice ua q10.length uc⟩) (by simp [results, Tryz.results49, go_sem, c9, ActT.val]) rfl (B5.out.fin (by exact ⟨Nat.le_succ_of_le hn5, Nat.le_succ_of_le hn6⟩) (by exact hn1) (grown11 ..))
end Go.Proofs.YtcjoecjijmkbaaaGreat
