/- The reference's l3clock at every list; what holds while places write and meet (l3grow). -/
import Derived.Test.YtcjoecjijmkbaaaGreatDB
import Derived.Test.YtcjoecjijmkbaaaGreatMN
import Derived.Test.YtcjoecjijmkbaaaGreatHE

namespace Go.Proofs.YtcjoecjijmkbaaaGreat
open Go.RowKit
set_option linter.unusedVariables false
def ClockOwn (w : World) (l : List ActM) (n : Nat) (e : Ending) (w' : World) : Prop := ∃ H, w.heap.size ≤ H ∧ e = .returned (.slice (some ⟨H, 0, none⟩) n n) ∧ Own w' H (.slice (some ⟨H, 0, none⟩) n n) (clockM l n) ∧ Below w.heap.size w w'
theorem clockOwn {w w' : World} {l : List ActM} {n : Nat} {e : Ending} (h : ClockMade w l n e w') (h1 : 1 ≤ n) : ClockOwn w l n e w' := by
 obtain ⟨rfl, h2, h3⟩ := h
 refine ⟨_, Nat.le_refl _, rfl, ?_, h3⟩
 have hl := clockM_length l n
 generalize clockM l n = xs at *
 subst hl
 exact .inr ⟨by omega, _, rfl, h2⟩
theorem ints_cell {W : World} {H n c : Nat} {xs : List Int} (h : Ints W (.slice (some ⟨H, 0, none⟩) n c) xs) (i : Nat) (hi : i < n) : W.cell? ⟨H, i, none⟩ = some (.int .i64 (xs.getD i 0)) := by
 rcases h with ⟨a, cap, h', rfl⟩ | ⟨b, off, cap, h', h1, h2, h3, h4⟩
 ·simp only [Value.slice.injEq] at h'; omega
 ·simp only [Value.slice.injEq, Option.some.injEq, Addr.mk.injEq, and_true] at h'
  obtain ⟨⟨rfl, rfl⟩, rfl, rfl⟩ := h'
  have := h4 i hi
  rwa [Nat.zero_add] at this
theorem addM_ok {l m : List ActM} {n : Int} {a : ActM} (h : addM l n a = some m) : setOkM m n = true := by
 unfold addM at h
 split at h
 ·rename_i hx; cases h; exact hx.2.2
 ·cases h
theorem unionM_ok {l m o : List ActM} {n : Int} (h : unionM l m n = some o) : setOkM o n = true := by
 unfold unionM at h
 split at h
 ·split at h
  ·split at h
   ·rename_i hx; cases h; exact hx
   ·cases h
  ·cases h
 ·cases h
theorem setOk_empty {n : Nat} (h1 : 1 ≤ n) (h4 : n ≤ 4) : setOkM [] n = true := by
 rw [setOk_in [] n h1 h4 (by simp)]; rfl
theorem setOk_r {l : List ActM} {n : Nat} (h : setOkM l n = true) : ∀ a ∈ l, 0 ≤ a.r ∧ a.r < n := fun a ha => by
 have := ok_parts ((setOk_all h).2.2.2 a ha)
 omega
def AddedB (w : World) (n : Nat) (e : Ending) (w' : World) : Prop := ∃ a m c b, e = .returned (.tuple #[.slice a m c, .bool b]) ∧ Below w.heap.size w w' ∧ Hid (b = true → ∃ l, OwnActs w' w.heap.size (.slice a m c) l ∧ setOkM l n = true)
theorem addedB {w w' : World} {n : Nat} {e : Ending} {o : Option (List ActM)} (h : Added w o e w') (ho : ∀ l, o = some l → setOkM l n = true) : AddedB w n e w' := by
 rcases h with ⟨_, rfl, hb⟩ | ⟨l, rfl, v, rfl, hv, hb⟩
 ·exact ⟨_, _, _, _, rfl, hb, fun h => by cases h⟩
 ·obtain ⟨a, c, rfl⟩ := acts_len (ownActs_acts hv)
  exact ⟨_, _, _, _, rfl, hb, fun _ => ⟨l, hv, ho l rfl⟩⟩
structure All (w : World) (B A n : Nat) (W : World) (vs : List Value) : Prop where
 ba : B < A
 wa : w.heap.size ≤ A
 c : Cur W B
 k : Blk W A vs
 ln : vs.length = n
 r : ∀ i, i < n → ∃ l, OwnActs W (A + 1) (vs.getD i undef) l ∧ setOkM l n = true
 g : w.grownBy W (some B)
theorem All.since {w W W' : World} {B A n : Nat} {vs : List Value} (h : All w B A n W vs) (hc : Cur W' B) (hg : W.grownBy W' (some B)) : All w B A n W' vs := by
 have h1 := h.ba
 refine ⟨h.ba, h.wa, hc, h.k.grown hg (by omega), h.ln, fun i hi => ?_, grown_then h.g hg (fun g e => .inl (by cases e; rfl))⟩
 obtain ⟨l, q1, q2⟩ := h.r i hi
 exact ⟨l, q1.cur hg (by omega), q2⟩
theorem All.below {w W W' : World} {B A n : Nat} {vs : List Value} (h : All w B A n W vs) (hb : Below W.heap.size W W') : All w B A n W' vs := by
 refine ⟨h.ba, h.wa, h.c.grown (below_grown hb none) (fun g e => by cases e), h.k.below hb h.k.lt, h.ln, fun i hi => ?_, grown_then h.g (below_grown hb none) (fun g e => by cases e)⟩
 obtain ⟨l, q1, q2⟩ := h.r i hi
 exact ⟨l, q1.below hb, q2⟩
theorem All.drewN {w W : World} {B A n : Nat} {vs : List Value} (h : All w B A n W vs) (q : Nat) : All w B A n (W.drewN q) vs := h.below (below_drewN (Below.refl _ _) q)
theorem All.put {w W : World} {B A n : Nat} {vs : List Value} (h : All w B A n W vs) (i : Nat) (hi : i < n) (v : Value) (l : List ActM) (ho : OwnActs W (A + 1) v l) (hs : setOkM l n = true) : All w B A n (W.setCell ⟨A, i, none⟩ v) (vs.set i v) := by
 have h1 := h.ba
 have h2 := h.wa
 have h3 := h.ln
 have hg : W.grownBy (W.setCell ⟨A, i, none⟩ v) (some A) := grown_set A i v
 refine ⟨h.ba, h.wa, h.c.grown hg (fun g e => by cases e; omega), h.k.set (by omega) v, by simpa using h.ln, fun j hj => ?_, grown_then h.g hg (fun g e => .inr (by cases e; omega))⟩
 by_cases e : j = i
 ·subst e
  have : (vs.set j v).getD j undef = v := by simp [List.getD, h3, hi]
  rw [this]
  exact ⟨l, ho.cur hg (by omega), hs⟩
 ·have : (vs.set i v).getD j undef = vs.getD j undef := by simp [List.getD, Ne.symm e]
  rw [this]
  obtain ⟨l', q1, q2⟩ := h.r j hj
  exact ⟨l', q1.cur hg (by omega), q2⟩
theorem All.cell {w W : World} {B A n : Nat} {vs : List Value} (h : All w B A n W vs) (i : Nat) (hi : i < n) : W.cell? ⟨A, i, none⟩ = some (vs.getD i undef) := by
 have h3 := h.ln
 rw [h.k.cell i]
 simp [List.getD, h3, hi]
structure Cand (w : World) (B A n : Nat) (W0 : World) (vs : List Value) (P : Nat) (W : World) (t : ActT) : Prop where
 all : All w B A n W0 vs
 p : P = W0.heap.size
 g : W0.grownBy W (some B)
 c : Cur W B
 k : Blk W P t.cells
 u : W0.ownsRow (A + 1) 111 4 t.vs t.a.ups.length (vu t.a.ups)
 d : ∃ g, P < g ∧ Own W g t.vd t.a.dep
 sm : t.a.dep.length ≤ 4 ∧ t.a.ups.length ≤ 5
theorem Cand.now {w W0 W : World} {B A n P : Nat} {vs : List Value} {t : ActT} (h : Cand w B A n W0 vs P W t) : All w B A n W vs := h.all.since h.c h.g
theorem Cand.call {w W0 W W' : World} {B A n P : Nat} {vs : List Value} {t : ActT} (h : Cand w B A n W0 vs P W t) (hc : Cur W' B) (hg : W.grownBy W' (some B)) : Cand w B A n W0 vs P W' t := by
 have h1 := h.all.ba
 have h2 := h.all.k.lt
 have h3 := h.p
 obtain ⟨g, hg1, ho⟩ := h.d
 exact ⟨h.all, h.p, grown_then h.g hg (fun g e => .inl (by cases e; rfl)), hc, h.k.grown hg (by omega), h.u, ⟨g, hg1, ho.other hg (fun _ => by omega)⟩, h.sm⟩
theorem Cand.below {w W0 W W' : World} {B A n P : Nat} {vs : List Value} {t : ActT} (h : Cand w B A n W0 vs P W t) (hb : Below W.heap.size W W') : Cand w B A n W0 vs P W' t := by
 obtain ⟨g, hg1, ho⟩ := h.d
 exact ⟨h.all, h.p, grown_then h.g (below_grown hb none) (fun g e => by cases e), h.c.grown (below_grown hb none) (fun g e => by cases e), h.k.below hb h.k.lt, h.u, ⟨g, hg1, ho.below hb⟩, h.sm⟩
theorem Cand.store {w W0 W : World} {B A n P : Nat} {vs : List Value} {t : ActT} (h : Cand w B A n W0 vs P W t) (j : Nat) (v : Value) (t' : ActT) (hj : j < 11) (hs : t'.cells = t.cells.set j v) (hd : t'.a.dep = t.a.dep) (hv : t'.vd = t.vd) (hu : t'.a.ups = t.a.ups) (hvs : t'.vs = t.vs) :
  Cand w B A n W0 vs P (W.setCell ⟨P, j, none⟩ v) t' := by
 have h1 := h.all.ba
 have h2 := h.all.k.lt
 have h3 := h.p
 have hg : W.grownBy (W.setCell ⟨P, j, none⟩ v) (some P) := grown_set P j v
 obtain ⟨g, hg1, ho⟩ := h.d
 refine ⟨h.all, h.p, grown_then h.g hg (fun g e => .inr (by cases e; omega)), h.c.grown hg (fun g e => by cases e; omega), ?_, by rw [hu, hvs]; exact h.u, ⟨g, hg1, ?_⟩, by rw [hd, hu]; exact h.sm⟩
 ·rw [hs]; exact h.k.set (j := j) (by simpa [ActT.cells] using hj) v
 ·rw [hv, hd]; exact ho.other hg (fun _ => by omega)
theorem Cand.dep {w W0 W : World} {B A n P : Nat} {vs : List Value} {t : ActT} (h : Cand w B A n W0 vs P W t) (v : Value) (xs : List Int) (t' : ActT) (hs : t'.cells = t.cells.set 2 v) (hd : t'.a.dep = xs) (hv : t'.vd = v) (hu : t'.a.ups = t.a.ups) (hvs : t'.vs = t.vs) (hl : xs.length ≤ 4) (g : Nat) (hPg : P < g) (ho : Own W g v xs) :
  Cand w B A n W0 vs P (W.setCell ⟨P, 2, none⟩ v) t' := by
 have h1 := h.all.ba
 have h2 := h.all.k.lt
 have h3 := h.p
 have hg : W.grownBy (W.setCell ⟨P, 2, none⟩ v) (some P) := grown_set P 2 v
 refine ⟨h.all, h.p, grown_then h.g hg (fun g e => .inr (by cases e; omega)), h.c.grown hg (fun g e => by cases e; omega), ?_, by rw [hu, hvs]; exact h.u, ⟨g, hPg, ?_⟩, by rw [hd, hu]; exact ⟨hl, h.sm.2⟩⟩
 ·rw [hs]; exact h.k.set (j := 2) (by simp [ActT.cells]) v
 ·rw [hv, hd]; exact ho.other hg (fun _ => by omega)
theorem Cand.reads {w W0 W : World} {B A n P : Nat} {vs : List Value} {t : ActT} (h : Cand w B A n W0 vs P W t) : t.Reads W := by
 have h1 := h.all.ba
 obtain ⟨g, hg1, ho⟩ := h.d
 exact ⟨own_ints ho, ups_of_row (row_grown h.u h.g (fun g e => by cases e; omega))⟩
theorem Cand.small {w W0 W : World} {B A n P : Nat} {vs : List Value} {t : ActT} (h : Cand w B A n W0 vs P W t) : t.a.Small := by
 have := h.sm
 exact ⟨by omega, by omega⟩
structure SP (B : Nat) (W w' : World) : Prop where
 cur : Cur w' B
 g : W.grownBy w' (some B)
theorem SP.start {B : Nat} {W : World} (h : Cur W B) : SP B W W.drew := ⟨h.grown (grown_drew W none) (fun g e => by cases e), grown_drew W _⟩
theorem SP.base {B : Nat} {W : World} (h : Cur W B) : SP B W W := ⟨h, grown_refl W _⟩
theorem SP.drew {B : Nat} {W a : World} (h : SP B W a) : SP B W a.drew := ⟨h.cur.grown (grown_drew a none) (fun g e => by cases e), grown_then h.g (grown_drew a none) (fun g e => by cases e)⟩
theorem SP.call {B : Nat} {W a b : World} (h : SP B W a) (hc : Cur b B) (hg : a.grownBy b (some B)) : SP B W b := ⟨hc, grown_then h.g hg (fun g e => .inl (by cases e; rfl))⟩
theorem SP.alloc {B : Nat} {W a : World} (h : SP B W a) (o : Obj) : SP B W (a.alloc o) := ⟨h.cur.grown (grown_alloc a o none) (fun g e => by cases e), grown_then h.g (grown_alloc a o none) (fun g e => by cases e)⟩
theorem SP.set {B G : Nat} {W a : World} (h : SP B W a) (hB : B < G) (hG : W.heap.size ≤ G) (j : Nat) (v : Value) : SP B W (a.setCell ⟨G, j, none⟩ v) :=
 ⟨h.cur.grown (grown_set G j v) (fun g e => by cases e; exact hB), grown_then h.g (grown_set G j v) (fun g e => .inr (by cases e; exact hG))⟩
theorem el_all {B b off len : Nat} {W : World} {ts : List ActT} (hb : b < W.heap.size) (hne : b ≠ B) (hl : len = ts.length) (hr : ∀ t ∈ ts, t.Reads W) (hc : ∀ i, i < len → ActAt W b (off + i * 11) (ts.getD i t0)) (j : Nat) (hj : j < len) :
  ∃ (g0 g1 g3 g4 g5 g6 g7 g8 g9 : Int) (da : Option Addr) (nd dc : Nat) (ua : Option Addr) (nu uc : Nat), (∀ W', SP B W W' → W'.cell? ⟨b, off + j * 11, none⟩ = some (.int .i64 g0)) ∧ (∀ W', SP B W W' → W'.cell? ⟨b, off + j * 11 + 1, none⟩ = some (.int .i64 g1)) ∧ (∀ W', SP B W W' → W'.cell? ⟨b, off + j * 11 + 2, none⟩ = some (.slice da nd dc)) ∧ (∀ W', SP B W W' → W'.cell? ⟨b, off + j * 11 + 3, none⟩ = some (.int .i64 g3)) ∧ (∀ W', SP B W W' → W'.cell? ⟨b, off + j * 11 + 4, none⟩ = some (.int .i64 g4)) ∧ (∀ W', SP B W W' → W'.cell? ⟨b, off + j * 11 + 5, none⟩ = some (.int .i64 g5)) ∧ (∀ W', SP B W W' → W'.cell? ⟨b, off + j * 11 + 6, none⟩ = some (.int .i64 g6)) ∧ (∀ W', SP B W W' → W'.cell? ⟨b, off + j * 11 + 7, none⟩ = some (.int .i64 g7)) ∧ (∀ W', SP B W W' → W'.cell? ⟨b, off + j * 11 + 8, none⟩ = some (.int .i64 g8)) ∧ (∀ W', SP B W W' → W'.cell? ⟨b, off + j * 11 + 9, none⟩ = some (.int .i64 g9)) ∧ (∀ W', SP B W W' → W'.cell? ⟨b, off + j * 11 + 10, none⟩ = some (.slice ua nu uc)) := by
 have hm := getD_mem (ts := ts) (i := j) (by omega)
 have h0 := hr _ hm
 have h1 := hc j hj
 obtain ⟨da, dc, hvd⟩ := ints_len h0.1
 obtain ⟨ua, uc, hvs⟩ := ups_len h0.2
 have hk := fun W' (h : SP B W W') => h1.same (w' := W') (fun i => World.cell?_of_block (a := ⟨b, i, none⟩) (h.g.block b hb (by intro e; cases e; exact hne rfl)))
 exact ⟨_, _, _, _, _, _, _, _, _, da, _, dc, ua, _, uc, fun W' h => (hk W' h).c0, fun W' h => (hk W' h).c1, fun W' h => hvd ▸ (hk W' h).c2, fun W' h => (hk W' h).c3, fun W' h => (hk W' h).c4, fun W' h => (hk W' h).c5, fun W' h => (hk W' h).c6, fun W' h => (hk W' h).c7, fun W' h => (hk W' h).c8, fun W' h => (hk W' h).c9, fun W' h => hvs ▸ (hk W' h).c10⟩
theorem Cand.sp {w W0 W W' : World} {B A n P : Nat} {vs : List Value} {t : ActT} (h : Cand w B A n W0 vs P W t) (hs : SP B W W') : Cand w B A n W0 vs P W' t := h.call hs.cur hs.g
end Go.Proofs.YtcjoecjijmkbaaaGreat
