/- The reference's l3draw, l2draw. -/
import Derived.Test.YtcjoecjijmkbaaaGreatDD

namespace Go.Proofs.YtcjoecjijmkbaaaGreat
open Go.RowKit
set_option linter.unusedVariables false
def DrawnSet (w : World) (B : Nat) (e : Ending) (w' : World) : Prop := ∃ (a : Option Addr) (c : Nat) (l : List ActM) (n : Nat), e = .returned (.tuple #[.slice a l.length c, .int .i64 n]) ∧ 1 ≤ n ∧ n ≤ 3 ∧ OwnActs w' w.heap.size (.slice a l.length c) l ∧ setOkM l n = true ∧ Cur w' B ∧ w.grownBy w' (some B)
set_option maxHeartbeats 800000 in
theorem l3draw_any (B : Nat) (most : Int) (w : World) (h : Cur w B) (hm : -1 ≤ most) (hm2 : most ≤ 200) : Calls Tryz.prog 47 #[.pointer (some ⟨B, 0, none⟩), .int .i64 most] w (DrawnSet w B) := by
 have HC := Lib.hid h
 clear h
 go_enter Tryz.func47, Tryz.ntmps47
 go_wp2_with fail
 refine (below_any B 3 _ HC.out (by omega)).mono ?_
 rintro e w1 ⟨x, rfl, x0, _, x2, hc, hg⟩
 have hx := x2 (by omega)
 obtain ⟨k, rfl⟩ := Int.eq_ofNat_of_zero_le x0
 have C1 := Lib.hid hc
 have G1 := Lib.hid hg
 clear hc hg x2
 have LG := Lib.hid (l3grow_any B (1 + k) most w1 C1.out (by omega) (by omega) hm hm2)
 have e1 : ((1 + k : Nat) : Int) = 1 + (k : Int) := by omega
 rw [e1] at LG
 go_wp2_with fail
 refine LG.out.mono ?_
 rintro e w2 ⟨v, l, rfl, ho, hs, hc, hg⟩
 obtain ⟨a, c, rfl⟩ := acts_len (ownActs_acts ho)
 have O2 := Lib.hid (ho.less G1.out.size)
 have S2 := Lib.hid hs
 have C2 := Lib.hid hc
 have G2 := Lib.hid (grown_then G1.out hg (fun g e => .inl (by cases e; rfl)))
 have E1 := Lib.hid e1
 clear hc hg hs ho e1
 go_wp2_with fail
 go_ret2
 exact ⟨a, c, l, 1 + k, by rw [E1.out]; rfl, by omega, by omega, O2.out, S2.out, C2.out, G2.out⟩
theorem ok_ups {a : ActM} {n : Int} (h : actOkM a n = true) : a.ups.length ≤ 5 := by
 simp only [actOkM, Bool.and_eq_true, fieldsM, okUps, decide_eq_true_eq] at h
 have h := h.2
 split at h
 ·simp only [Bool.and_eq_true, decide_eq_true_eq] at h; omega
 ·split at h
  ·simp only [Bool.and_eq_true, decide_eq_true_eq] at h; omega
  ·split at h
   ·simp only [Bool.and_eq_true, decide_eq_true_eq] at h; omega
   ·split at h
    ·simp only [Bool.and_eq_true, decide_eq_true_eq] at h; omega
    ·cases h
def DrawnOne (m : Nat) (w : World) (B : Nat) (e : Ending) (w' : World) : Prop :=
 ∃ t : ActT, e = .returned t.val ∧ t.Owns w' w.heap.size ∧ (1 ≤ t.a.dep.length ∧ t.a.dep.length ≤ m ∧ t.a.ups.length ≤ m) ∧ Cur w' B ∧ w.grownBy w' (some B)
theorem ActT.Owns.other {w w' : World} {lo L : Nat} {t : ActT} (h : t.Owns w lo) (hg : w.grownBy w' (some L)) (hL : L < lo) : t.Owns w' lo := h.else_ hg (fun g e => .inl (by cases e; exact hL))
theorem row_ltv {w : World} {K e size n : Nat} {v : Value} {xs : List Value} (h : w.ownsRow K e size v n xs) : ∀ g, v.ownBlock = some g → g < w.heap.size := by
 intro g hg
 rcases h.2 with ⟨rfl, _⟩ | ⟨g', cap, cur, rfl, hk, hh, _⟩
 ·cases hg
 ·cases hg; exact (Array.getElem?_eq_some_iff.1 hh).1
theorem row_apart {w w' : World} {K e size n : Nat} {v : Value} {xs : List Value} {r : Option Nat} (h : w.ownsRow K e size v n xs) (hg : w.grownBy w' r) (hr : ∀ g, r = some g → v.ownBlock ≠ some g) : w'.ownsRow K e size v n xs := by
 refine ⟨h.1, ?_⟩
 rcases h.2 with h2 | ⟨g, cap, cur, hv, hk, hh, r'⟩
 ·exact .inl h2
 ·refine .inr ⟨g, cap, cur, hv, hk, ?_, r'⟩
  rw [hg.block g (Array.getElem?_eq_some_iff.1 hh).1 (fun e => hr g e.symm (by rw [hv]; rfl))]
  exact hh
theorem row_succ {w : World} {K e size n : Nat} {v : Value} {xs : List Value} (h : w.ownsRow K e size v (n + 1) xs) : ∃ g c, v = .slice (some ⟨g, 0, none⟩) (n + 1) c := by
 rcases h.2 with ⟨_, h0⟩ | ⟨g, cap, cur, hv, _⟩
 ·simp at h0
 ·exact ⟨g, cap, hv⟩
structure Bent (w : World) (B L P : Nat) (W : World) (t : ActT) : Prop where
 bl : B < L
 lw : w.heap.size ≤ L
 lp : L < P
 c : Cur W B
 k : Blk W P t.cells
 l : Blk W L tz.cells
 g : w.grownBy W (some B)
 d : ∃ g, L < g ∧ (0 < t.a.dep.length → g ≠ P) ∧ Own W g t.vd t.a.dep
 u : W.ownsRow (L + 1) 111 4 t.vs t.a.ups.length (vu t.a.ups)
 up : t.vs.ownBlock ≠ some P
 n : t.a.dep.length ≤ 6 ∧ t.a.ups.length ≤ 6
theorem Bent.turn {w W W' : World} {B L P : Nat} {t : ActT} {r : Option Nat} (h : Bent w B L P W t) (hc : Cur W' B) (hg : W.grownBy W' r) (hr : ∀ g, r = some g → g = B ∨ (W.heap.size ≤ g)) : Bent w B L P W' t := by
 have h1 := h.bl
 have h2 := h.lp
 have h3 := h.lw
 have hk := h.k.lt
 obtain ⟨g, g1, g2, ho⟩ := h.d
 have hu := row_ltv h.u
 have hu2 := own_block_ge h.u
 refine ⟨h.bl, h.lw, h.lp, hc, h.k.same hg.size (hg.block P h.k.lt (fun e => by rcases hr P e.symm with h | h <;> omega)), h.l.same hg.size (hg.block L h.l.lt (fun e => by rcases hr L e.symm with h | h <;> omega)), grown_then h.g hg (fun g e => by rcases hr g e with h | h; exact .inl (by rw [h]); exact .inr (by omega)), ⟨g, g1, g2, ho.block fun hp => hg.block g (own_lt ho hp) (fun e => by have := own_lt ho hp; rcases hr g e.symm with h | h <;> omega)⟩, row_apart h.u hg (fun g e e2 => by have := hu g e2; have := hu2 g e2; rcases hr g e with h | h <;> omega), h.up, h.n⟩
theorem Bent.call {w W W' : World} {B L P : Nat} {t : ActT} (h : Bent w B L P W t) (hc : Cur W' B) (hg : W.grownBy W' (some B)) : Bent w B L P W' t := h.turn hc hg (fun g e => .inl (by cases e; rfl))
theorem Bent.same {w W W' : World} {B L P : Nat} {t : ActT} (h : Bent w B L P W t) (hg : W.grownBy W' none) : Bent w B L P W' t := h.turn (h.c.grown hg (fun g e => by cases e)) hg (fun g e => by cases e)
theorem Bent.alloc {w W : World} {B L P : Nat} {t : ActT} (h : Bent w B L P W t) (o : Obj) : Bent w B L P (W.alloc o) t := h.same (grown_alloc W o none)
theorem Bent.drew {w W : World} {B L P : Nat} {t : ActT} (h : Bent w B L P W t) : Bent w B L P W.drew t := h.same (grown_drew W none)
theorem Bent.store {w W : World} {B L P : Nat} {t : ActT} (h : Bent w B L P W t) (j : Nat) (v : Value) (t' : ActT) (hj : j < 11) (hs : t'.cells = t.cells.set j v) (hd : t'.a.dep = t.a.dep) (hv : t'.vd = t.vd) (hu : t'.a.ups = t.a.ups) (hvs : t'.vs = t.vs) :
  Bent w B L P (W.setCell ⟨P, j, none⟩ v) t' := by
 have h1 := h.bl
 have h2 := h.lp
 have h3 := h.lw
 have hg : W.grownBy (W.setCell ⟨P, j, none⟩ v) (some P) := grown_set P j v
 obtain ⟨g, g1, g2, ho⟩ := h.d
 refine ⟨h.bl, h.lw, h.lp, h.c.grown hg (fun g e => by cases e; omega), ?_, h.l.grown hg (by omega), grown_then h.g hg (fun g e => .inr (by cases e; omega)), ⟨g, g1, by rw [hd]; exact g2, by rw [hd, hv]; exact ho.other hg g2⟩, by rw [hu, hvs]; exact row_apart h.u hg (fun g e => by cases e; exact h.up), by rw [hvs]; exact h.up, by rw [hd, hu]; exact h.n⟩
 rw [hs]; exact h.k.set (j := j) (by simpa [ActT.cells] using hj) v
theorem Bent.dep {w W : World} {B L P : Nat} {t : ActT} (h : Bent w B L P W t) (v : Value) (xs : List Int) (t' : ActT) (hs : t'.cells = t.cells.set 2 v) (hd : t'.a.dep = xs) (hv : t'.vd = v) (hu : t'.a.ups = t.a.ups) (hvs : t'.vs = t.vs) (hl : xs.length ≤ 6) (g : Nat) (hPg : L < g) (hne : 0 < xs.length → g ≠ P) (ho : Own W g v xs) :
  Bent w B L P (W.setCell ⟨P, 2, none⟩ v) t' := by
 have h1 := h.bl
 have h2 := h.lp
 have h3 := h.lw
 have hg : W.grownBy (W.setCell ⟨P, 2, none⟩ v) (some P) := grown_set P 2 v
 refine ⟨h.bl, h.lw, h.lp, h.c.grown hg (fun g e => by cases e; omega), ?_, h.l.grown hg (by omega), grown_then h.g hg (fun g e => .inr (by cases e; omega)), ⟨g, hPg, by rw [hd]; exact hne, by rw [hd, hv]; exact ho.other hg hne⟩, by rw [hu, hvs]; exact row_apart h.u hg (fun g e => by cases e; exact h.up), by rw [hvs]; exact h.up, by rw [hd, hu]; exact ⟨hl, h.n.2⟩⟩
 rw [hs]; exact h.k.set (j := 2) (by simp [ActT.cells]) v
theorem Bent.ups {w W : World} {B L P : Nat} {t : ActT} (h : Bent w B L P W t) (v : Value) (us : List UpM) (t' : ActT) (hs : t'.cells = t.cells.set 10 v) (hd : t'.a.dep = t.a.dep) (hv : t'.vd = t.vd) (hu : t'.a.ups = us) (hvs : t'.vs = v) (hl : us.length ≤ 6) (hr : W.ownsRow (L + 1) 111 4 v us.length (vu us)) (hne : v.ownBlock ≠ some P) :
  Bent w B L P (W.setCell ⟨P, 10, none⟩ v) t' := by
 have h1 := h.bl
 have h2 := h.lp
 have h3 := h.lw
 have hg : W.grownBy (W.setCell ⟨P, 10, none⟩ v) (some P) := grown_set P 10 v
 obtain ⟨g, g1, g2, ho⟩ := h.d
 refine ⟨h.bl, h.lw, h.lp, h.c.grown hg (fun g e => by cases e; omega), ?_, h.l.grown hg (by omega), grown_then h.g hg (fun g e => .inr (by cases e; omega)), ⟨g, g1, by rw [hd]; exact g2, by rw [hd, hv]; exact ho.other hg g2⟩, by rw [hu, hvs]; exact row_apart hr hg (fun g e => by cases e; exact hne), by rw [hvs]; exact hne, by rw [hd, hu]; exact ⟨h.n.1, hl⟩⟩
 rw [hs]; exact h.k.set (j := 10) (by simp [ActT.cells]) v
theorem Bent.row {w W W' : World} {B L P : Nat} {t : ActT} (h : Bent w B L P W t) (hg : W.grownBy W' t.vs.ownBlock) : Cur W' B ∧ Blk W' P t.cells ∧ Blk W' L tz.cells ∧ w.grownBy W' (some B) ∧ ∃ g, L < g ∧ (0 < t.a.dep.length → g ≠ P) ∧ Own W' g t.vd t.a.dep := by
 have h1 := h.bl
 have h2 := h.lp
 have h3 := h.lw
 have hu2 := own_block_ge h.u
 obtain ⟨g, g1, g2, ho⟩ := h.d
 refine ⟨h.c.grown hg (fun g e => by have := hu2 g e; omega), h.k.same hg.size (hg.block P h.k.lt (fun e => h.up e.symm)), h.l.same hg.size (hg.block L h.l.lt (fun e => by have := hu2 L e.symm; omega)), grown_then h.g hg (fun g e => .inr (by have := hu2 g e; omega)), g, g1, g2, ho.block fun hp => hg.block g (own_lt ho hp) (fun e => ?_)⟩
 rcases ho with ⟨a, cap, he, h0⟩ | ⟨_, cap, he, hr⟩
 ·rw [h0] at hp; simp at hp
 ·obtain ⟨va, vc, hs⟩ := row_shape h.u
  have hru := h.u
  rw [hs] at hru e
  cases va with
  | none => simp [Value.ownBlock] at e
  | some ad =>
   simp only [Value.ownBlock, Option.some.injEq] at e
   rcases hru.2 with ⟨h', _⟩ | ⟨g', cap', cur', h', _, hh, _⟩
   ·simp at h'
   ·simp only [Value.slice.injEq, Option.some.injEq] at h'
    obtain ⟨rfl, _⟩ := h'
    simp only at e
    exact type_ne (row_type hr) ⟨cur', _, hh⟩ (by decide) e
theorem Bent.append {w W W' : World} {B L P g c : Nat} {t : ActT} (h : Bent w B L P W t) (u : UpM) (t' : ActT) (hg : W.grownBy W' t.vs.ownBlock) (hr : W'.ownsRow (L + 1) 111 4 (.slice (some ⟨g, 0, none⟩) (t.a.ups.length + 1) c) (t.a.ups.length + 1) (vu t.a.ups ++ upCells u)) (hne : g ≠ P) (hl : t.a.ups.length + 1 ≤ 6)
  (hs : t'.cells = t.cells.set 10 (.slice (some ⟨g, 0, none⟩) (t.a.ups.length + 1) c)) (hd : t'.a.dep = t.a.dep) (hv : t'.vd = t.vd) (hu : t'.a.ups = t.a.ups ++ [u]) (hvs : t'.vs = .slice (some ⟨g, 0, none⟩) (t.a.ups.length + 1) c) :
  Bent w B L P (W'.setCell ⟨P, 10, none⟩ (.slice (some ⟨g, 0, none⟩) (t.a.ups.length + 1) c)) t' := by
 have h1 := h.bl
 have h2 := h.lp
 have h3 := h.lw
 obtain ⟨rc, rk, rl, rg, ⟨g', g1, g2, ho⟩⟩ := h.row hg
 have hg2 : W'.grownBy (W'.setCell ⟨P, 10, none⟩ (.slice (some ⟨g, 0, none⟩) (t.a.ups.length + 1) c)) (some P) := grown_set P 10 _
 have hne2 : (Value.slice (some ⟨g, 0, none⟩) (t.a.ups.length + 1) c).ownBlock ≠ some P := by simp [Value.ownBlock]; exact hne
 refine ⟨h.bl, h.lw, h.lp, rc.grown hg2 (fun g e => by cases e; omega), ?_, rl.grown hg2 (by omega), grown_then rg hg2 (fun g e => .inr (by cases e; omega)), ⟨g', g1, by rw [hd]; exact g2, by rw [hd, hv]; exact ho.other hg2 g2⟩, ?_, by rw [hvs]; exact hne2, by rw [hd, hu]; exact ⟨h.n.1, by simp; omega⟩⟩
 ·rw [hs]; exact rk.set (j := 10) (by simp [ActT.cells]) _
 ·have := row_apart hr hg2 (fun g e => by cases e; exact hne2)
  rw [hu, hvs]
  simpa [vu, upCells] using this
theorem src_intv {w : World} (x : Int) : Src (w.alloc (.cells #[.int .i64 x] 3)) 1 (.slice (some ⟨w.heap.size, 0, none⟩) 1 1) 1 [.int .i64 x] :=
 .inr ⟨_, _, rfl, rfl, fun j u hu => by
  rw [add_flat, Nat.zero_add, (Blk.new w _ _).cell j]
  exact hu⟩
theorem src_up {w : World} (k b y v : Int) : Src (w.alloc (.cells #[.int .i64 k, .int .i64 b, .int .i64 y, .int .i64 v] 111)) 4 (.slice (some ⟨w.heap.size, 0, none⟩) 1 1) 1 (upCells ⟨k, b, y, v⟩) :=
 .inr ⟨_, _, rfl, rfl, fun j u hu => by
  rw [add_flat, Nat.zero_add, (Blk.new w _ _).cell j]
  exact hu⟩
theorem Bent.clock {w W W' : World} {B L P g g' n cap : Nat} {xs : List Value} {t : ActT} (h : Bent w B L P W t) (hL : L < g) (hgP : g ≠ P) (hr : W.ownsRow g 3 1 (.slice (some ⟨g, 0, none⟩) n cap) n xs) (hg : W.grownBy W' (some g)) (v : Value) (ys : List Int) (t' : ActT) (hL' : L < g') (hne : g' ≠ P) (hO : Own W' g' v ys) (hl : ys.length ≤ 6)
  (hs : t'.cells = t.cells.set 2 v) (hd : t'.a.dep = ys) (hv : t'.vd = v) (hu : t'.a.ups = t.a.ups) (hvs : t'.vs = t.vs) :
  Bent w B L P (W'.setCell ⟨P, 2, none⟩ v) t' := by
 have h1 := h.bl
 have h2 := h.lp
 have h3 := h.lw
 have hux : t.vs.ownBlock ≠ some g := by
  intro e
  obtain ⟨va, vc, hsv⟩ := row_shape h.u
  have hru := h.u
  rw [hsv] at hru e
  cases va with
  | none => simp [Value.ownBlock] at e
  | some ad =>
   simp only [Value.ownBlock, Option.some.injEq] at e
   rcases hru.2 with ⟨h', _⟩ | ⟨g', cap', cur', h', _, hh, _⟩
   ·simp at h'
   ·simp only [Value.slice.injEq, Option.some.injEq] at h'
    obtain ⟨rfl, _⟩ := h'
    simp only at e
    exact type_ne (row_type hr) ⟨cur', _, hh⟩ (by decide) e.symm
 have hg2 : W'.grownBy (W'.setCell ⟨P, 2, none⟩ v) (some P) := grown_set P 2 v
 have hu1 := row_apart h.u hg (fun k e => by cases e; exact hux)
 refine ⟨h.bl, h.lw, h.lp, (h.c.grown hg (fun g e => by cases e; omega)).grown hg2 (fun g e => by cases e; omega), ?_, (h.l.grown hg (by omega)).grown hg2 (by omega), grown_then (grown_then h.g hg (fun g e => .inr (by cases e; omega))) hg2 (fun g e => .inr (by cases e; omega)), ⟨g', hL', fun _ => hne, by rw [hd, hv]; exact hO.other hg2 (fun _ => hne)⟩, by rw [hu, hvs]; exact row_apart hu1 hg2 (fun g e => by cases e; exact h.up), by rw [hvs]; exact h.up, by rw [hd, hu]; exact ⟨hl, h.n.2⟩⟩
 rw [hs]; exact (h.k.grown hg (fun e => hgP e.symm)).set (j := 2) (by simp [ActT.cells]) v
theorem Bent.fin {w W W' : World} {B L P m : Nat} {t : ActT} (h : Bent w B L P W t) (hm : t.a.dep.length ≤ m ∧ t.a.ups.length ≤ m) (hn : 1 ≤ t.a.dep.length) (hg : W.grownBy W' (some L)) : DrawnOne m w B (.returned t.val) W' := by
 have h1 := h.bl
 have h2 := h.lp
 have h3 := h.lw
 obtain ⟨g, g1, g2, ho⟩ := h.d
 exact ⟨t, rfl, ⟨⟨g, by omega, ho.other hg (fun _ => by omega)⟩, row_less (row_grown h.u hg (fun g e => by cases e; omega)) (by omega)⟩, ⟨hn, hm.1, hm.2⟩, h.c.grown hg (fun g e => by cases e; omega), grown_then h.g hg (fun g e => .inr (by cases e; omega))⟩
set_option maxRecDepth 100000 in
set_option maxHeartbeats 3200000 in
theorem l2draw_any (B : Nat) (w : World) (h : Cur w B) : Calls Tryz.prog 78 #[.pointer (some ⟨B, 0, none⟩)] w (DrawnOne 5 w B) := by
 obtain ⟨i0, hi, hz0, hz1, hz2⟩ := info_parts Tryz.info3
 have hB := h.lt
 obtain ⟨L, hL⟩ : ∃ L, L = w.heap.size := ⟨_, rfl⟩
 obtain ⟨W0, hW0⟩ : ∃ W0, W0 = w.alloc (.cells #[.int .i64 0, .int .i64 0, .slice none 0 0, .int .i64 0, .int .i64 0, .int .i64 0, .int .i64 0, .int .i64 0, .int .i64 0, .int .i64 0, .slice none 0 0] 33) := ⟨_, rfl⟩
 have K0 := Blk.new w #[.int .i64 0, .int .i64 0, .slice none 0 0, .int .i64 0, .int .i64 0, .int .i64 0, .int .i64 0, .int .i64 0, .int .i64 0, .int .i64 0, .slice none 0 0] 33
 have G0 := (grown_alloc w (.cells #[.int .i64 0, .int .i64 0, .slice none 0 0, .int .i64 0, .int .i64 0, .int .i64 0, .int .i64 0, .int .i64 0, .int .i64 0, .int .i64 0, .slice none 0 0] 33) (some B))
 have C0 := (h.grown (grown_alloc w (.cells #[.int .i64 0, .int .i64 0, .slice none 0 0, .int .i64 0, .int .i64 0, .int .i64 0, .int .i64 0, .int .i64 0, .int .i64 0, .int .i64 0, .slice none 0 0] 33) none) (fun g e => by cases e))
 have hsz : W0.heap.size = w.heap.size + 1 := by rw [hW0]; simp
 rw [← hW0] at K0 G0 C0
 rw [← hL] at K0 hsz
 have hLw : w.heap.size ≤ L := by omega
 have hBL : B < L := by omega
 have HSZ := Lib.hid hsz
 have K0 := Lib.hid K0
 have G0 := Lib.hid G0
 have C0 := Lib.hid C0
 have HLw := Lib.hid hLw
 have HL := Lib.hid hL
 clear h hsz hL hLw hB
 go_enter Tryz.func78, Tryz.ntmps78
 go_upto_region 1 with (fail)
 rw [← HL.out, ← hW0]
 clear hW0
 go_wp2_with fail
 refine (l3draw_any B 8 _ C0.out (by omega) (by omega)).mono ?_
 rintro e w1 ⟨a, cp, l, n, rfl, n1, n3, ho, hs, hc, hg⟩
 have K1 := Lib.hid (K0.out.grown hg (by omega))
 have G1 := Lib.hid (grown_then G0.out hg (fun g e => .inl (by cases e; rfl)))
 have C1 := Lib.hid hc
 have O1 := Lib.hid (ho.less (lo' := L + 1) (by rw [HSZ.out]; exact Nat.le_refl _))
 have S1 := Lib.hid hs
 have l60 := (setOk_all hs).2.2.1
 have hs1 := hg.size
 have L1 : L + 1 ≤ w1.heap.size := by rw [HSZ.out] at hs1; exact hs1
 clear hc hg ho hs hs1 K0 G0 C0
 by_cases hl0 : l.length = 0
 ·rw [hl0]
  go_wp2_with fail
  refine (l2say_any B _ C1.out).mono ?_
  rintro e w2 ⟨⟨⟨q0, q1, q2, q3, q4, q5, q6, q7, q8, q9, q10⟩, vd, vs⟩, rfl, td, tvd, tow, tsm, hc, hg⟩
  simp only at td tvd tsm
  subst td
  subst tvd
  have hu := tow.2
  simp only at hu
  obtain ⟨ua, uc, rfl⟩ := row_shape hu
  have K2 := Lib.hid (K1.out.grown hg (by omega))
  have G2 := Lib.hid (grown_then G1.out hg (fun g e => .inl (by cases e; rfl)))
  have C2 := Lib.hid hc
  have U2 := Lib.hid (row_less (lo := L + 1) hu L1)
  have L2 := Nat.le_trans L1 hg.size
  clear hc hg tow hu K1 G1 C1 O1 S1
  simp only [ActT.val]
  go_upto_region 4 with (fail)
  obtain ⟨P, hP⟩ : ∃ P, P = w2.heap.size := ⟨_, rfl⟩
  obtain ⟨W3, hW3⟩ : ∃ W3, W3 = w2.alloc (.cells #[.int .i64 q0, .int .i64 q1, .slice none 0 0, .int .i64 q3, .int .i64 q4, .int .i64 q5, .int .i64 q6, .int .i64 q7, .int .i64 q8, .int .i64 q9, .slice ua q10.length uc] 33) := ⟨_, rfl⟩
  have P3 := Blk.new w2 #[.int .i64 q0, .int .i64 q1, .slice none 0 0, .int .i64 q3, .int .i64 q4, .int .i64 q5, .int .i64 q6, .int .i64 q7, .int .i64 q8, .int .i64 q9, .slice ua q10.length uc] 33
  have G3 := (grown_alloc w2 (.cells #[.int .i64 q0, .int .i64 q1, .slice none 0 0, .int .i64 q3, .int .i64 q4, .int .i64 q5, .int .i64 q6, .int .i64 q7, .int .i64 q8, .int .i64 q9, .slice ua q10.length uc] 33) none)
  rw [← hW3, ← hP] at P3
  rw [← hW3] at G3
  rw [← hW3, ← hP]
  have hPL : L < P := by omega
  have hmk : (Instr.makeSlice 24 (.int .i64 (n : Int)) (.int .i64 (n : Int))).run Tryz.prog (W3.setCell ⟨P, 1, none⟩ (.int .i64 1)) = .ok (.slice (some ⟨W3.heap.size, 0, none⟩) n n) ((W3.setCell ⟨P, 1, none⟩ (.int .i64 1)).alloc (.cells ((List.replicate n (0:Int)).map (Value.int .i64)).toArray 3)) := by
   have h := run_make (P := Tryz.prog) (W3.setCell ⟨P, 1, none⟩ (.int .i64 1)) 24 3 i0 (.int .i64 0) Tryz.underlying24 hi hz0 .i64 .i64 n n (by omega) (by omega) (by rw [hz2]; omega) (by omega)
   rw [hz1] at h
   simp only [Int.toNat_natCast] at h
   rw [made] at h
   simpa [World.setCell] using h
  have hown0 : ((W3.setCell ⟨P, 1, none⟩ (.int .i64 1)).alloc (.cells ((List.replicate n (0:Int)).map (Value.int .i64)).toArray 3)).ownsRow W3.heap.size 3 1 (.slice (some ⟨W3.heap.size, 0, none⟩) n n) n (vi (List.replicate n 0)) := by
   have := World.ownsRow_lit (size := 1) (e := 3) (base := W3.heap.size) (W3.setCell ⟨P, 1, none⟩ (.int .i64 1)) ((List.replicate n (0:Int)).map (Value.int .i64)).toArray n (by simp [World.setCell]) (by unfold maxLen; omega) (by simp)
   simpa [vi, World.setCell] using this
  have hPW : P < W3.heap.size := P3.lt
  have b3 : Bent w B L P W3 ⟨⟨q0, q1, [], q3, q4, q5, q6, q7, q8, q9, q10⟩, .slice none 0 0, .slice ua q10.length uc⟩ :=
   ⟨hBL, HLw.out, hPL, C2.out.grown G3 (fun g e => by cases e), P3, K2.out.same G3.size (G3.block L K2.out.lt (by simp)), grown_then G2.out G3 (fun g e => by cases e), ⟨L + 1, by omega, (fun h => absurd h (by simp)), .inl ⟨_, _, rfl, rfl⟩⟩, row_grown U2.out G3 (fun g e => by cases e), (fun e => by have := row_ltv U2.out P e; omega), by simp; omega⟩
  obtain ⟨H, hH⟩ : ∃ H, H = W3.heap.size := ⟨_, rfl⟩
  rw [← hH] at hmk hown0
  have b4 := (b3.store 1 (.int .i64 1) ⟨⟨q0, 1, [], q3, q4, q5, q6, q7, q8, q9, q10⟩, .slice none 0 0, .slice ua q10.length uc⟩ (by omega) rfl rfl rfl rfl rfl).alloc (.cells ((List.replicate n (0:Int)).map (Value.int .i64)).toArray 3)
  have hownD := own_of_row (xs := List.replicate n 0) (K := H) (v := .slice (some ⟨H, 0, none⟩) n n) (by simp) hown0
  have b5 := b4.dep (.slice (some ⟨H, 0, none⟩) n n) (List.replicate n 0) ⟨⟨q0, 1, List.replicate n 0, q3, q4, q5, q6, q7, q8, q9, q10⟩, .slice (some ⟨H, 0, none⟩) n n, .slice ua q10.length uc⟩ rfl rfl rfl rfl rfl (by simp; omega) H (by omega) (fun _ => by omega) (.inr ⟨by simp; omega, n, by simp, by simpa using hown0⟩)
  have c := P3.cell
  have f := P3.free
  have B5 := Lib.hid b5
  have HH := Lib.hid hH
  clear hW3 hP b3 b4 b5 hownD hown0 hH P3 G3 K2 G2 C2 U2 hi hz0 hz1 hz2 i0
  go_upto_region 6 with (fail)
  refine wp_gen (fun W5 hW5 => ?_)
  have hW6 : W5 = ((W3.setCell ⟨P, 1, none⟩ (.int .i64 1)).alloc (.cells ((List.replicate n (0:Int)).map (Value.int .i64)).toArray 3)).setCell ⟨P, 2, none⟩ (.slice (some ⟨H, 0, none⟩) n n) := by
   rw [hW5, World.setCell_alloc_past _ _ _ _ (by simpa [World.setCell] using hPW)]
   simp
  rw [← hW6] at B5
  clear hW5 hW6 hmk c f
  have c := B5.out.k.cell
  simp only [ActT.cells] at c
  have c9 := B5.out.l.cell
  have f9 := B5.out.l.free
  simp only [ActT.cells, tz, act0] at c9
  go_wp2_with fail
  refine bodyPost_ret (v := ActT.val ⟨⟨q0, 1, List.replicate n 0, q3, q4, q5, q6, q7, q8, q9, q10⟩, .slice (some ⟨H, 0, none⟩) n n, .slice ua q10.length uc⟩) (by simp [results, Tryz.results78, go_sem, c9, ActT.val]) rfl (B5.out.fin ⟨by simp; omega, by simp; omega⟩ (by simp; omega) (grown11 ..))
 ·obtain ⟨ts, hts, hot⟩ := O1.out
  have HTS := Lib.hid (show l.length = ts.length by rw [hts]; simp)
  have HOK := Lib.hid (fun (t : ActT) (ht : t ∈ ts) => (setOk_all S1.out).2.2.2 t.a (by rw [hts]; exact List.mem_map_of_mem ht))
  obtain ⟨hln, b, off, rfl, hb, hc2⟩ := actsT_at (ownT_acts hot) (by omega)
  have hge := own_block_ge hot.1 b rfl
  have HC2 := Lib.hid hc2
  have HOT := Lib.hid hot
  have HLN := Lib.hid hln
  have hlI : 0 < (l.length : Int) := by omega
  clear hc2 hot hts hln
  go_wp2_with fail
  refine (below_any B l.length _ C1.out (by omega)).mono ?_
  rintro e w2 ⟨y, rfl, y0, _, y2, hc, hg⟩
  have hy := y2 (by omega)
  obtain ⟨jj, rfl⟩ := Int.eq_ofNat_of_zero_le y0
  have hm := getD_mem (ts := ts) (i := jj) (by have := HTS.out; omega)
  have hok := HOK.out _ hm
  have ho1 := (ok_parts hok).2.2
  have ho2 := ok_ups hok
  have hej := (HC2.out jj (by omega)).same (w' := w2) (fun i => World.cell?_of_block (a := ⟨b, i, none⟩) (hg.block b hb (by intro e; cases e; omega)))
  have how := (HOT.out.2 _ hm).other hg (by omega)
  have K2 := Lib.hid (K1.out.grown hg (by omega))
  have G2 := Lib.hid (grown_then G1.out hg (fun g e => .inl (by cases e; rfl)))
  have C2 := Lib.hid hc
  clear hc hg y2 hm K1 G1 C1
  generalize ts.getD jj t0 = t at *
  clear hok
  obtain ⟨⟨q0, q1, q2, q3, q4, q5, q6, q7, q8, q9, q10⟩, vd, vs⟩ := t
  have hsd := ints_len how.reads.1
  have hsu := row_shape how.2
  simp only at hsd hsu ho1 ho2
  obtain ⟨da, dc, rfl⟩ := hsd
  obtain ⟨ua, uc, rfl⟩ := hsu
  have HOW := Lib.hid how
  have hd1 : 1 ≤ q2.length ∧ q2.length ≤ 5 ∧ q10.length ≤ 5 := by omega
  have HD1 := Lib.hid hd1
  have c0 := hej.c0
  have c1 := hej.c1
  have c2 := hej.c2
  have c3 := hej.c3
  have c4 := hej.c4
  have c5 := hej.c5
  have c6 := hej.c6
  have c7 := hej.c7
  have c8 := hej.c8
  have c9 := hej.c9
  have c10 := hej.c10
  simp only at c0 c1 c2 c3 c4 c5 c6 c7 c8 c9 c10
  have k9 := K2.out.cell
  have f9 := K2.out.free
  clear hej how ho1 ho2 hd1
  go_wp2_with fail
  refine bodyPost_ret (v := ActT.val ⟨⟨q0, q1, q2, q3, q4, q5, q6, q7, q8, q9, q10⟩, .slice da q2.length dc, .slice ua q10.length uc⟩) (by simp [results, Tryz.results78, go_sem, k9, ActT.val]) rfl ⟨⟨⟨q0, q1, q2, q3, q4, q5, q6, q7, q8, q9, q10⟩, .slice da q2.length dc, .slice ua q10.length uc⟩, rfl, (HOW.out.other (grown11 w2 L ..) (Nat.lt_succ_self L)).less (by have := HLw.out; omega), HD1.out, ?_, ?_⟩
  ·exact C2.out.grown (grown11 w2 L ..) (fun g e => by cases e; exact hBL)
  ·exact grown_then G2.out (grown11 w2 L ..) (fun g e => .inr (by cases e; exact HLw.out))
end Go.Proofs.YtcjoecjijmkbaaaGreat
