/- The reference's draws: l1PickInt of a list of the call's own; l2say. -/
import Derived.Test.YtcjoecjijmkbaaaGreatCN
import Derived.Test.YtcjoecjijmkbaaaGreatMB
import Derived.Test.YtcjoecjijmkbaaaGreatMC
import Derived.Deep.RegionHeld3
import Derived.Deep.RegionLaw
import Derived.Deep.AppendLies

namespace Go.Proofs.YtcjoecjijmkbaaaGreat
open Go.RowKit
set_option linter.unusedVariables false
def Picked (w : World) (B : Nat) (xs : List Int) (e : Ending) (w' : World) : Prop := ∃ x : Int, e = .returned (.int .i64 x) ∧ x ∈ xs ∧ Cur w' B ∧ w.grownBy w' (some B)
theorem pick_lit (B H : Nat) (cs : Array Value) (xs : List Int) (n : Nat) (w : World) (hH : w.heap.size = H) (hcs : cs.toList = vi xs) (hn : xs.length = n) (h : Cur w B) (h0 : 0 < n) (hm : n ≤ 256) :
  Calls Tryz.prog 48 #[.pointer (some ⟨B, 0, none⟩), .slice (some ⟨H, 0, none⟩) n n] (w.alloc (.cells cs 3)) (Picked w B xs) := by
 subst hH
 have K := Blk.new w cs 3
 refine (pick_any B w.heap.size n n xs (w.alloc (.cells cs 3)) hn (h.grown (grown_alloc w _ none) (fun g e => by cases e)) h0 hm h.lt (by simp) (fun i hi => ?_)).mono ?_
 ·rw [K.cell i, hcs, vi_getD xs i (by omega)]
 ·rintro e w' ⟨x, he, hx, hc, hg⟩
  exact ⟨x, he, hx, hc, grown_then (grown_alloc w _ (some B)) hg (fun g e => .inl e)⟩
def DrawnAct (w : World) (B : Nat) (e : Ending) (w' : World) : Prop :=
 ∃ t : ActT, e = .returned t.val ∧ t.a.dep = [] ∧ t.vd = .slice none 0 0 ∧ t.Owns w' w.heap.size ∧ t.a.ups.length ≤ 3 ∧ Cur w' B ∧ w.grownBy w' (some B)
def tz : ActT := ⟨act0, .slice none 0 0, .slice none 0 0⟩
structure Say0 (w : World) (B L K : Nat) (W : World) (t : ActT) : Prop where
 bl : B < L
 lw : w.heap.size ≤ L
 lk : L < K
 c : Cur W B
 k : Blk W K t.cells
 l : Blk W L tz.cells
 g : w.grownBy W (some B)
 d : t.a.dep = []
 vd : t.vd = .slice none 0 0
 n : t.a.ups.length ≤ 3
structure Say (w : World) (B L K : Nat) (W : World) (t : ActT) : Prop where
 s : Say0 w B L K W t
 u : W.ownsRow (K + 1) 111 4 t.vs t.a.ups.length (vu t.a.ups)
theorem Say0.call {w W W' : World} {B L K : Nat} {t : ActT} (h : Say0 w B L K W t) (hc : Cur W' B) (hg : W.grownBy W' (some B)) : Say0 w B L K W' t := by
 have h1 := h.bl
 have h2 := h.lk
 exact ⟨h.bl, h.lw, h.lk, hc, h.k.grown hg (by omega), h.l.grown hg (by omega), grown_then h.g hg (fun g e => .inl (by cases e; rfl)), h.d, h.vd, h.n⟩
theorem Say.call {w W W' : World} {B L K : Nat} {t : ActT} (h : Say w B L K W t) (hc : Cur W' B) (hg : W.grownBy W' (some B)) : Say w B L K W' t := by
 have h1 := h.s.bl
 have h2 := h.s.lk
 exact ⟨h.s.call hc hg, row_grown h.u hg (fun g e => by cases e; omega)⟩
theorem Say0.store {w W : World} {B L K : Nat} {t : ActT} (h : Say0 w B L K W t) (j : Nat) (v : Value) (t' : ActT) (hj : j < 11) (hs : t'.cells = t.cells.set j v) (hd : t'.a.dep = t.a.dep) (hv : t'.vd = t.vd) (hu : t'.a.ups.length ≤ 3) :
  Say0 w B L K (W.setCell ⟨K, j, none⟩ v) t' := by
 have h1 := h.bl
 have h2 := h.lk
 have h3 := h.lw
 have hg : W.grownBy (W.setCell ⟨K, j, none⟩ v) (some K) := grown_set K j v
 refine ⟨h.bl, h.lw, h.lk, h.c.grown hg (fun g e => by cases e; omega), ?_, h.l.grown hg (by omega), grown_then h.g hg (fun g e => .inr (by cases e; omega)), hd.trans h.d, hv.trans h.vd, hu⟩
 rw [hs]; exact h.k.set (j := j) (by simpa [ActT.cells] using hj) v
theorem Say.store {w W : World} {B L K : Nat} {t : ActT} (h : Say w B L K W t) (j : Nat) (v : Value) (t' : ActT) (hj : j < 11) (hs : t'.cells = t.cells.set j v) (hd : t'.a.dep = t.a.dep) (hv : t'.vd = t.vd) (hu : t'.a.ups = t.a.ups) (hvs : t'.vs = t.vs) :
  Say w B L K (W.setCell ⟨K, j, none⟩ v) t' := by
 refine ⟨h.s.store j v t' hj hs hd hv (by rw [hu]; exact h.s.n), ?_⟩
 rw [hu, hvs]; exact row_grown h.u (grown_set K j v) (fun g e => by cases e; omega)
theorem Say0.same {w W W' : World} {B L K : Nat} {t : ActT} (h : Say0 w B L K W t) (hg : W.grownBy W' none) : Say0 w B L K W' t :=
 ⟨h.bl, h.lw, h.lk, h.c.grown hg (fun g e => by cases e), h.k.same hg.size (hg.block K h.k.lt (by simp)), h.l.same hg.size (hg.block L h.l.lt (by simp)), grown_then h.g hg (fun g e => by cases e), h.d, h.vd, h.n⟩
theorem grown_drew (W : World) (r : Option Nat) : W.grownBy W.drew r := ⟨rfl, rfl, rfl, Nat.le_refl _, fun _ _ _ => rfl⟩
theorem Say0.drew {w W : World} {B L K : Nat} {t : ActT} (h : Say0 w B L K W t) : Say0 w B L K W.drew t := h.same (grown_drew W none)
theorem Say0.alloc {w W : World} {B L K : Nat} {t : ActT} (h : Say0 w B L K W t) (o : Obj) : Say0 w B L K (W.alloc o) t := h.same (grown_alloc W o none)
theorem Say0.row {w W W' : World} {B L K e size n : Nat} {t : ActT} {v : Value} {xs : List Value} (h : Say0 w B L K W t) (ho : W.ownsRow (K + 1) e size v n xs) (hg : W.grownBy W' v.ownBlock) : Say0 w B L K W' t := by
 have h1 := h.bl
 have h2 := h.lk
 have h3 := h.lw
 have hk := own_block_ge ho
 exact ⟨h.bl, h.lw, h.lk, h.c.grown hg (fun g e => by have := hk g e; omega), h.k.same hg.size (hg.block K h.k.lt (fun e => by have := hk K e.symm; omega)), h.l.same hg.size (hg.block L h.l.lt (fun e => by have := hk L e.symm; omega)), grown_then h.g hg (fun g e => .inr (by have := hk g e; have := h.k.lt; omega)), h.d, h.vd, h.n⟩
theorem Say0.both {w W : World} {B L K : Nat} {t : ActT} {v : Value} (h : Say0 w B L K W t) (hv : t.vs = v) : W.cell? ⟨K, 10, none⟩ = some v ∧ Say0 w B L K W t := ⟨by rw [h.k.cell 10, ← hv]; rfl, h⟩
theorem Say.fin {w W W' : World} {B L K : Nat} {t : ActT} (h : Say w B L K W t) (hg : W.grownBy W' (some L)) : DrawnAct w B (.returned t.val) W' := by
 have h1 := h.s.bl
 have h2 := h.s.lk
 have h3 := h.s.lw
 have hk := h.s.k.lt
 have hu : W'.ownsRow (K + 1) 111 4 t.vs t.a.ups.length (vu t.a.ups) := row_grown h.u hg (fun g e => by cases e; omega)
 refine ⟨t, rfl, h.s.d, h.s.vd, ⟨⟨w.heap.size, Nat.le_refl _, .inl ⟨_, _, h.s.vd, h.s.d⟩⟩, row_less hu (by omega)⟩, h.s.n, h.s.c.grown hg (fun g e => by cases e; omega), grown_then h.s.g hg (fun g e => .inr (by cases e; omega))⟩
theorem grown11 (W : World) (L : Nat) (v0 v1 v2 v3 v4 v5 v6 v7 v8 v9 v10 : Value) : W.grownBy (((((((((((W.setCell ⟨L, 0, none⟩ v0).setCell ⟨L, 1, none⟩ v1).setCell ⟨L, 2, none⟩ v2).setCell ⟨L, 3, none⟩ v3).setCell ⟨L, 4, none⟩ v4).setCell ⟨L, 5, none⟩ v5).setCell ⟨L, 6, none⟩ v6).setCell ⟨L, 7, none⟩ v7).setCell ⟨L, 8, none⟩ v8).setCell ⟨L, 9, none⟩ v9).setCell ⟨L, 10, none⟩ v10) (some L) :=
 (grown_set L 0 v0).trans ((grown_set L 1 v1).trans ((grown_set L 2 v2).trans ((grown_set L 3 v3).trans ((grown_set L 4 v4).trans ((grown_set L 5 v5).trans ((grown_set L 6 v6).trans ((grown_set L 7 v7).trans ((grown_set L 8 v8).trans ((grown_set L 9 v9).trans (grown_set L 10 v10))))))))))
def kdList : List Int := [1, 1, 1, 2, 3, 4, 4, 4, 4]
theorem kd_in {x : Int} (h : x ∈ kdList) : x = 1 ∨ x = 2 ∨ x = 3 ∨ x = 4 := by
 simp [kdList] at h; omega
set_option maxRecDepth 100000 in
set_option maxHeartbeats 3200000 in
theorem l2say_any (B : Nat) (w : World) (h : Cur w B) : Calls Tryz.prog 97 #[.pointer (some ⟨B, 0, none⟩)] w (DrawnAct w B) := by
 have hB := h.lt
 obtain ⟨i1, hj, hy0, hy1, hy2⟩ := info_parts Tryz.infoUp
 have K0 := Blk.new w #[.int .i64 0, .int .i64 0, .slice none 0 0, .int .i64 0, .int .i64 0, .int .i64 0, .int .i64 0, .int .i64 0, .int .i64 0, .int .i64 0, .slice none 0 0] 33
 have G0 := (grown_alloc w (.cells #[.int .i64 0, .int .i64 0, .slice none 0 0, .int .i64 0, .int .i64 0, .int .i64 0, .int .i64 0, .int .i64 0, .int .i64 0, .int .i64 0, .slice none 0 0] 33) (some B))
 have C0 := (h.grown (grown_alloc w (.cells #[.int .i64 0, .int .i64 0, .slice none 0 0, .int .i64 0, .int .i64 0, .int .i64 0, .int .i64 0, .int .i64 0, .int .i64 0, .int .i64 0, .slice none 0 0] 33) none) (fun g e => by cases e))
 have K0 := Lib.hid K0
 have G0 := Lib.hid G0
 have C0 := Lib.hid C0
 clear h
 go_enter Tryz.func97, Tryz.ntmps97
 go_wp2_with fail
 refine (below_any B 4 _ C0.out (by omega)).mono ?_
 rintro e w1 ⟨x1, rfl, a1, _, q1, hc1, hg1⟩
 have C1 := Lib.hid hc1
 have K1 := Lib.hid (K0.out.grown hg1 (by omega))
 have G1 := Lib.hid (grown_then G0.out hg1 (fun g e => .inl (by cases e; rfl)))
 clear hc1 hg1 q1 a1 K0 G0 C0
 go_wp2_with fail
 refine (pick_lit B _ _ kdList 9 w1 rfl rfl rfl C1.out (by omega) (by omega)).mono ?_
 rintro e w2 ⟨kd, rfl, hm, hc2, hg2⟩
 have C2 := Lib.hid hc2
 have K2 := Lib.hid (K1.out.grown hg2 (by omega))
 have G2 := Lib.hid (grown_then G1.out hg2 (fun g e => .inl (by cases e; rfl)))
 clear hc2 hg2 K1 G1 C1
 go_upto_region 3 with (fail)
 obtain ⟨L, hL⟩ : ∃ L, L = w.heap.size := ⟨_, rfl⟩
 obtain ⟨K, hK⟩ : ∃ K, K = w2.heap.size := ⟨_, rfl⟩
 obtain ⟨W, hW⟩ : ∃ W, W = w2.alloc (.cells #[.int .i64 0, .int .i64 0, .slice none 0 0, .int .i64 x1, .int .i64 kd, .int .i64 0, .int .i64 0, .int .i64 0, .int .i64 0, .int .i64 0, .slice none 0 0] 33) := ⟨_, rfl⟩
 have S := Lib.hid (show Say w B L K W ⟨⟨0, 0, [], x1, kd, 0, 0, 0, 0, 0, []⟩, .slice none 0 0, .slice none 0 0⟩ from by
  have hlt := K2.out.lt
  rw [hW, hK, hL]
  exact ⟨⟨hB, Nat.le_refl _, hlt, C2.out.grown (grown_alloc w2 _ none) (fun g e => by cases e), Blk.new w2 _ _, K2.out.alloc _, grown_then G2.out (grown_alloc w2 _ none) (fun g e => by cases e), rfl, rfl, by simp⟩, ⟨rfl, .inl ⟨rfl, rfl⟩⟩⟩)
 rw [← hW, ← hK, ← hL]
 clear hW hK hL C2 K2 G2
 rcases kd_in hm with rfl | rfl | rfl | rfl
 ·clear hm
  go_wp2_with fail
  refine (below_any B 4 _ S.out.s.c (by omega)).mono ?_
  rintro e w3 ⟨x2, rfl, _, _, _, hc, hg⟩
  have S3 := S.out.call hc hg
  have c := S3.s.k.cell
  have f := S3.s.k.free
  simp only [ActT.cells] at c
  have S4 := Lib.hid (S3.store 5 (.int .i64 x2) ⟨⟨0, 0, [], x1, 1, x2, 0, 0, 0, 0, []⟩, .slice none 0 0, .slice none 0 0⟩ (by omega) rfl rfl rfl rfl rfl)
  clear S S3 hc hg
  go_wp2_with fail
  refine (below_any B 2 _ S4.out.s.c (by omega)).mono ?_
  rintro e w4 ⟨x3, rfl, _, _, _, hc, hg⟩
  have S5 := S4.out.call hc hg
  clear c f
  have c := S5.s.k.cell
  have f := S5.s.k.free
  simp only [ActT.cells] at c
  have S6 := Lib.hid (S5.store 6 (.int .i64 x3) ⟨⟨0, 0, [], x1, 1, x2, x3, 0, 0, 0, []⟩, .slice none 0 0, .slice none 0 0⟩ (by omega) rfl rfl rfl rfl rfl)
  clear S4 S5 hc hg
  go_wp2_with fail
  refine (pick_lit B w4.heap.size _ [15, 15, 7, 3, 2, 12, 6, 0] 8 _ (by simp) rfl rfl S6.out.s.c (by omega) (by omega)).mono ?_
  rintro e w5 ⟨x4, rfl, _, hc, hg⟩
  have S7 := S6.out.call hc hg
  clear c f
  have c := S7.s.k.cell
  have f := S7.s.k.free
  simp only [ActT.cells] at c
  have S8 := Lib.hid (S7.store 7 (.int .i64 x4) ⟨⟨0, 0, [], x1, 1, x2, x3, x4, 0, 0, []⟩, .slice none 0 0, .slice none 0 0⟩ (by omega) rfl rfl rfl rfl rfl)
  clear S6 S7 hc hg
  go_wp2_with fail
  refine (once_any B 2 _ S8.out.s.c (by omega)).mono ?_
  rintro e w6 ⟨b, rfl, hc, hg⟩
  have S9 := S8.out.call hc hg
  clear c f
  have c := S9.s.k.cell
  have f := S9.s.k.free
  simp only [ActT.cells] at c
  have c9 := S9.s.l.cell
  have f9 := S9.s.l.free
  simp only [ActT.cells, tz, act0] at c9
  clear S8 hc hg
  cases b
  ·have SF := Lib.hid S9
   clear S9
   go_wp2_with fail
   refine bodyPost_ret (v := ActT.val ⟨⟨0, 0, [], x1, 1, x2, x3, x4, 0, 0, []⟩, .slice none 0 0, .slice none 0 0⟩) (by simp [results, Tryz.results97, go_sem, c9, ActT.val]) rfl (SF.out.fin (grown11 ..))
  ·have SF := Lib.hid (S9.store 3 (.int .i64 0) ⟨⟨0, 0, [], 0, 1, x2, x3, x4, 0, 0, []⟩, .slice none 0 0, .slice none 0 0⟩ (by omega) rfl rfl rfl rfl rfl)
   clear S9
   go_upto_region 19 with (fail)
   obtain ⟨W9, hW9⟩ : ∃ W9, W9 = w6.setCell ⟨K, 3, none⟩ (.int .i64 0) := ⟨_, rfl⟩
   rw [← hW9] at SF ⊢
   clear hW9 c f c9 f9
   have c := SF.out.s.k.cell
   simp only [ActT.cells] at c
   have c9 := SF.out.s.l.cell
   have f9 := SF.out.s.l.free
   simp only [ActT.cells, tz, act0] at c9
   go_wp2_with fail
   refine bodyPost_ret (v := ActT.val ⟨⟨0, 0, [], 0, 1, x2, x3, x4, 0, 0, []⟩, .slice none 0 0, .slice none 0 0⟩) (by simp [results, Tryz.results97, go_sem, c9, ActT.val]) rfl (SF.out.fin (grown11 ..))
 ·clear hm
  have SF := Lib.hid S.out
  have c := SF.out.s.k.cell
  have f := SF.out.s.k.free
  simp only [ActT.cells] at c
  have c9 := SF.out.s.l.cell
  have f9 := SF.out.s.l.free
  simp only [ActT.cells, tz, act0] at c9
  clear S
  go_wp2_with fail
  refine bodyPost_ret (v := ActT.val ⟨⟨0, 0, [], x1, 2, 0, 0, 0, 0, 0, []⟩, .slice none 0 0, .slice none 0 0⟩) (by simp [results, Tryz.results97, go_sem, c9, ActT.val]) rfl (SF.out.fin (grown11 ..))
 ·clear hm
  go_wp2_with fail
  refine (below_any B 2 _ S.out.s.c (by omega)).mono ?_
  rintro e w4 ⟨x3, rfl, _, _, _, hc, hg⟩
  have S5 := S.out.call hc hg
  have c := S5.s.k.cell
  have f := S5.s.k.free
  simp only [ActT.cells] at c
  have S6 := Lib.hid (S5.store 6 (.int .i64 x3) ⟨⟨0, 0, [], x1, 3, 0, x3, 0, 0, 0, []⟩, .slice none 0 0, .slice none 0 0⟩ (by omega) rfl rfl rfl rfl rfl)
  clear S S5 hc hg
  go_wp2_with fail
  refine (pick_lit B w4.heap.size _ [15, 7, 5, 3, 1] 5 _ (by simp) rfl rfl S6.out.s.c (by omega) (by omega)).mono ?_
  rintro e w5 ⟨x4, rfl, _, hc, hg⟩
  have S7 := S6.out.call hc hg
  clear c f
  have c := S7.s.k.cell
  have f := S7.s.k.free
  simp only [ActT.cells] at c
  have S8 := Lib.hid (S7.store 7 (.int .i64 x4) ⟨⟨0, 0, [], x1, 3, 0, x3, x4, 0, 0, []⟩, .slice none 0 0, .slice none 0 0⟩ (by omega) rfl rfl rfl rfl rfl)
  clear S6 S7 hc hg
  go_wp2_with fail
  refine (once_any B 4 _ S8.out.s.c (by omega)).mono ?_
  rintro e w6 ⟨b, rfl, hc, hg⟩
  have S9 := S8.out.call hc hg
  clear c f
  have c := S9.s.k.cell
  have f := S9.s.k.free
  simp only [ActT.cells] at c
  have c9 := S9.s.l.cell
  have f9 := S9.s.l.free
  simp only [ActT.cells, tz, act0] at c9
  clear S8 hc hg
  cases b
  ·have SF := Lib.hid (S9.store 3 (.int .i64 0) ⟨⟨0, 0, [], 0, 3, 0, x3, x4, 0, 0, []⟩, .slice none 0 0, .slice none 0 0⟩ (by omega) rfl rfl rfl rfl rfl)
   clear S9
   go_upto_region 19 with (fail)
   obtain ⟨W9, hW9⟩ : ∃ W9, W9 = w6.setCell ⟨K, 3, none⟩ (.int .i64 0) := ⟨_, rfl⟩
   rw [← hW9] at SF ⊢
   clear hW9 c f c9 f9
   have c := SF.out.s.k.cell
   simp only [ActT.cells] at c
   have c9 := SF.out.s.l.cell
   have f9 := SF.out.s.l.free
   simp only [ActT.cells, tz, act0] at c9
   go_wp2_with fail
   refine bodyPost_ret (v := ActT.val ⟨⟨0, 0, [], 0, 3, 0, x3, x4, 0, 0, []⟩, .slice none 0 0, .slice none 0 0⟩) (by simp [results, Tryz.results97, go_sem, c9, ActT.val]) rfl (SF.out.fin (grown11 ..))
  ·have SF := Lib.hid S9
   clear S9
   go_wp2_with fail
   refine bodyPost_ret (v := ActT.val ⟨⟨0, 0, [], x1, 3, 0, x3, x4, 0, 0, []⟩, .slice none 0 0, .slice none 0 0⟩) (by simp [results, Tryz.results97, go_sem, c9, ActT.val]) rfl (SF.out.fin (grown11 ..))
 ·clear hm
  go_wp2_with fail
  refine (below_any B 3 _ S.out.s.c (by omega)).mono ?_
  rintro e w3 ⟨x2, rfl, x20, _, x23, hc, hg⟩
  have S3 := Lib.hid (S.out.call hc hg)
  have hx2 := x23 (by omega)
  obtain ⟨n2, rfl⟩ := Int.eq_ofNat_of_zero_le x20
  clear S hc hg x23 x20
  go_wp2_with fail
  go_loopw [4] (fun i wr => ∃ (k : Nat) (us : List UpM) (v : Value), i = .int .i64 k ∧ k + us.length ≤ 3 ∧ Hid (Say w B L K wr ⟨⟨0, 0, [], x1, 4, 0, 0, 0, 0, 0, us⟩, .slice none 0 0, v⟩)) (fun i _ => (intOf i).toNat)
  case atStart => exact ⟨1 + n2, [], .slice none 0 0, by simp, by simp; omega, S3.out⟩
  case round =>
   obtain ⟨k, us, v, rfl, hk, hs⟩ := hrel
   clear S3
   have hsh := row_shape hs.out.u
   simp only at hsh
   obtain ⟨va, vc, rfl⟩ := hsh
   by_cases hlt : 0 < k
   ·have c := hs.out.s.k.cell
    have f := hs.out.s.k.free
    simp only [ActT.cells] at c
    have hB1 : B < K + 1 := by have := hs.out.s.bl; have := hs.out.s.lk; omega
    have hm1 : us.length + 1 ≤ maxLen := by unfold maxLen; omega
    have hm2 : (us.length + 1) * 32 ≤ 140737488355328 := by omega
    go_wp2_with fail
    go_region_law (first | (go_simp; go_at_call 111; refine (l2up_any B _ hs.out.s.drew.c).mono ?_; rintro e w4 ⟨u, rfl, hc, hg⟩; have hb4 : Hid (K + 1 ≤ w4.heap.size) := Nat.le_trans hs.out.s.k.lt hg.size; have hu4 := Lib.hid ((row_grown (row_grown hs.out.u (grown_drew wr none) (fun g e => by cases e)) hg (fun g e => by cases e; exact hB1)).alloc (.cells #[.int .i64 u.kind, .int .i64 u.bucket, .int .i64 u.key, .int .i64 u.val] 111)); have S4 := Lib.hid (hs.out.s.drew.call hc hg); have c4 := S4.out.k.cell; simp only [ActT.cells] at c4; clear hc hg; have hl4 : K < w4.heap.size := hb4.out) | (refine step_append_lies _ (by rfl) _ _ _ (by rfl) (K + 1) 111 i1 _ 4 32 Tryz.underlying31 hj hy0 hy1 hy2 rfl (by omega) (.slice va us.length vc) us.length (vu us) (by rfl) hu4.out ⟨w4.heap.size, 0, none⟩ 1 1 (upCells u) (by rfl) (by rfl) (World.news_of_block (cs := #[.int .i64 u.kind, .int .i64 u.bucket, .int .i64 u.key, .int .i64 u.val]) (t := 111) (fr := (0, 0)) (heap_alloc_new w4 _)) (by simp [upCells, Value.oneCell']) (by omega) hm1 hm2 (by have := hb4.out; simp; omega) (w4.heap.size + 1) (by simp) ?_; intro gg cap w5 hown5 hgrow hat hlt5; have S5 := Lib.hid ((S4.out.alloc (.cells #[.int .i64 u.kind, .int .i64 u.bucket, .int .i64 u.key, .int .i64 u.val] 111)).row hu4.out hgrow); have c5 := S5.out.k.cell; have f5 := S5.out.k.free; simp only [ActT.cells] at c5; clear hgrow))
    all_goals
     have SF := Lib.hid (show Say w B L K (w5.setCell ⟨K, 10, none⟩ (.slice (some ⟨gg, 0, none⟩) (us.length + 1) cap)) ⟨⟨0, 0, [], x1, 4, 0, 0, 0, 0, 0, us ++ [u]⟩, .slice none 0 0, .slice (some ⟨gg, 0, none⟩) (us.length + 1) cap⟩ from
      ⟨S5.out.store 10 _ _ (by omega) rfl rfl rfl (by simp; omega), by
       have := row_grown hown5 (grown_set K 10 (.slice (some ⟨gg, 0, none⟩) (us.length + 1) cap)) (fun g e => by cases e; omega)
       simpa [vu, upCells] using this⟩)
     clear hown5 hat S5 c5 f5 S4 c4 hu4
     go_wp2_with fail
     go_roundw
     case rel => exact ⟨k - 1, us ++ [u], _, by go_num, by simp; omega, SF.out⟩
     case measure => simp [intOf]; omega
   ·obtain rfl : k = 0 := by omega
    have c := hs.out.s.k.cell
    have f := hs.out.s.k.free
    simp only [ActT.cells] at c
    have c9 := hs.out.s.l.cell
    have f9 := hs.out.s.l.free
    simp only [ActT.cells, tz, act0] at c9
    go_wp2_with fail
    refine bodyPost_ret (v := ActT.val ⟨⟨0, 0, [], x1, 4, 0, 0, 0, 0, 0, us⟩, .slice none 0 0, .slice va us.length vc⟩) (by simp [results, Tryz.results97, go_sem, c9, ActT.val]) rfl (hs.out.fin (grown11 ..))
end Go.Proofs.YtcjoecjijmkbaaaGreat
