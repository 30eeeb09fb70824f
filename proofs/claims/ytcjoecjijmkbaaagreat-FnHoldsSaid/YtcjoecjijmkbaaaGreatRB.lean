/- The reference's l3bent: acts that may be bent. -/
import Derived.Test.YtcjoecjijmkbaaaGreatDF

namespace Go.Proofs.YtcjoecjijmkbaaaGreat
open Go.RowKit
set_option linter.unusedVariables false
def StillT (w : World) (s : Nat) (v : Value) (ts : List ActT) : Prop := ∃ (v0 : Value) (us : List ActT) (lo : Nat), s ≤ lo ∧ OwnT w lo v0 us ∧ ∀ W, OwnT W lo v0 us → ActsT W v ts
theorem StillT.now {w : World} {s : Nat} {v : Value} {ts : List ActT} (h : StillT w s v ts) : ActsT w v ts := by
 obtain ⟨v0, us, lo, hl, o, f⟩ := h
 exact f w o
theorem StillT.cur {w w' : World} {s g : Nat} {v : Value} {ts : List ActT} (h : StillT w s v ts) (hg : w.grownBy w' (some g)) (hs : g < s) : StillT w' s v ts := by
 obtain ⟨v0, us, lo, hl, o, f⟩ := h
 exact ⟨v0, us, lo, hl, o.cur hg (by omega), f⟩
theorem StillT.below {w w' : World} {s : Nat} {v : Value} {ts : List ActT} (h : StillT w s v ts) (hb : Below w.heap.size w w') : StillT w' s v ts := by
 obtain ⟨v0, us, lo, hl, o, f⟩ := h
 exact ⟨v0, us, lo, hl, o.below hb, f⟩
theorem StillT.less {w : World} {s s' : Nat} {v : Value} {ts : List ActT} (h : StillT w s v ts) (hs : s' ≤ s) : StillT w s' v ts := by
 obtain ⟨v0, us, lo, hl, o, f⟩ := h
 exact ⟨v0, us, lo, by omega, o, f⟩
theorem StillT.at {w : World} {s g off m c : Nat} {ts : List ActT} (h : StillT w s (.slice (some ⟨g, off, none⟩) m c) ts) (k : Nat) (hk : k < m) : ActAt w g (off + k * 11) (ts.getD k t0) := by
 obtain ⟨_, b, o, e, _, f⟩ := actsT_at h.now (by omega)
 simp only [Option.some.injEq, Addr.mk.injEq, and_true] at e
 obtain ⟨rfl, rfl⟩ := e
 exact f k hk
def DrawnL (w : World) (B : Nat) (e : Ending) (w' : World) : Prop := ∃ (v : Value) (ts : List ActT) (n : Int), e = .returned (.tuple #[v, .int .i64 n]) ∧ StillT w' w.heap.size v ts ∧ SmallL (ts.map ActT.a) ∧ ts.length ≤ 61 ∧ 0 ≤ n ∧ n ≤ 5 ∧ Cur w' B ∧ w.grownBy w' (some B)
structure BL (w : World) (B lo : Nat) (W : World) (v : Value) (ts : List ActT) : Prop where
 bl : B < lo
 lw : w.heap.size ≤ lo
 lW : lo ≤ W.heap.size
 o : OwnT W lo v ts
 s : SmallL (ts.map ActT.a)
 n : ts.length ≤ 60
 c : Cur W B
 g : w.grownBy W (some B)
theorem BL.call {w W W' : World} {B lo : Nat} {v : Value} {ts : List ActT} (h : BL w B lo W v ts) (hc : Cur W' B) (hg : W.grownBy W' (some B)) : BL w B lo W' v ts :=
 ⟨h.bl, h.lw, Nat.le_trans h.lW hg.size, h.o.cur hg h.bl, h.s, h.n, hc, grown_then h.g hg (fun g e => .inl (by cases e; rfl))⟩
theorem BL.alloc {w W : World} {B lo : Nat} {v : Value} {ts : List ActT} (h : BL w B lo W v ts) (o : Obj) : BL w B lo (W.alloc o) v ts :=
 ⟨h.bl, h.lw, Nat.le_trans h.lW (by simp), h.o.alloc o, h.s, h.n, h.c.grown (grown_alloc W o none) (fun g e => by cases e), grown_then h.g (grown_alloc W o none) (fun g e => by cases e)⟩
theorem BL.fin {w W : World} {B lo : Nat} {v : Value} {ts : List ActT} (h : BL w B lo W v ts) (n : Int) (h0 : 0 ≤ n) (h5 : n ≤ 5) : DrawnL w B (.returned (.tuple #[v, .int .i64 n])) W :=
 ⟨v, ts, n, rfl, ⟨_, ts, lo, h.lw, h.o, fun V o => ownT_acts o⟩, h.s, by have := h.n; omega, h0, h5, h.c, h.g⟩
theorem ownT_drop {w : World} {lo g m cap : Nat} {t : ActT} {r : List ActT} (h : OwnT w lo (.slice (some ⟨g, 0, none⟩) m cap) (t :: r)) (k : Nat) (hk : k = r.length) (cp : Nat) (hcp : cp = cap - 1) : ActsT w (.slice (some ⟨g, 11, none⟩) k cp) r := by
 subst hk hcp
 obtain ⟨h1, h2⟩ := ownT_acts h
 refine ⟨fun x hx => h1 x (List.mem_cons_of_mem _ hx), ?_⟩
 rcases h2 with ⟨a, c, hv, hn⟩ | ⟨b, off, c, hv, hb, hl, hm, hc⟩
 ·cases hn
 ·simp only [Value.slice.injEq, Option.some.injEq, Addr.mk.injEq] at hv
  obtain ⟨⟨rfl, rfl, _⟩, rfl, rfl⟩ := hv
  simp only [List.length_cons] at hl hc
  refine .inr ⟨g, 11, cap - 1, rfl, hb, by omega, by omega, fun i hi => ?_⟩
  have := hc (i + 1) (by omega)
  rw [List.getD_cons_succ, show 0 + (i + 1) * 11 = 11 + i * 11 from by omega] at this
  exact this
theorem BL.drop {w W : World} {B lo g m cap : Nat} {t : ActT} {r : List ActT} (h : BL w B lo W (.slice (some ⟨g, 0, none⟩) m cap) (t :: r)) (k : Nat) (hk : k = r.length) (cp : Nat) (hcp : cp = cap - 1) (n : Int) (h0 : 0 ≤ n) (h5 : n ≤ 5) :
  DrawnL w B (.returned (.tuple #[.slice (some ⟨g, 11, none⟩) k cp, .int .i64 n])) W :=
 ⟨_, r, n, rfl, ⟨_, t :: r, lo, h.lw, h.o, fun V o => ownT_drop o k hk cp hcp⟩, ⟨by have := h.n; simp only [List.length_cons] at this; simp; omega, fun a ha => h.s.2 a (by simp only [List.map_cons, List.mem_cons]; exact .inr ha)⟩, by have := h.n; simp only [List.length_cons] at this; omega, h0, h5, h.c, h.g⟩
theorem OwnT.put {w w' : World} {lo g n cap : Nat} {ts : List ActT} (h : OwnT w lo (.slice (some ⟨g, 0, none⟩) n cap) ts) (k : Nat) (hk : k < ts.length) (t : ActT) (ht : t.Owns w lo)
  (hw : w' = ((((((((((w.setCell ⟨g, k * 11, none⟩ (.int .i64 t.a.r)).setCell ⟨g, k * 11 + 1, none⟩ (.int .i64 t.a.n)).setCell ⟨g, k * 11 + 2, none⟩ t.vd).setCell ⟨g, k * 11 + 3, none⟩ (.int .i64 t.a.actor)).setCell ⟨g, k * 11 + 4, none⟩ (.int .i64 t.a.kind)).setCell ⟨g, k * 11 + 5, none⟩ (.int .i64 t.a.to)).setCell ⟨g, k * 11 + 6, none⟩ (.int .i64 t.a.bucket)).setCell ⟨g, k * 11 + 7, none⟩ (.int .i64 t.a.mask)).setCell ⟨g, k * 11 + 8, none⟩ (.int .i64 t.a.gr)).setCell ⟨g, k * 11 + 9, none⟩ (.int .i64 t.a.gn)).setCell ⟨g, k * 11 + 10, none⟩ t.vs) :
  OwnT w' lo (.slice (some ⟨g, 0, none⟩) n cap) (ts.set k t) ∧ w.grownBy w' (some g) := by
 obtain ⟨a, c, hv⟩ := row_shape h.1
 simp only [Value.slice.injEq] at hv
 obtain ⟨-, hn, -⟩ := hv
 subst hn
 have hg := grown_set11 w g (k * 11) (k * 11 + 1) (k * 11 + 2) (k * 11 + 3) (k * 11 + 4) (k * 11 + 5) (k * 11 + 6) (k * 11 + 7) (k * 11 + 8) (k * 11 + 9) (k * 11 + 10) (.int .i64 t.a.r) (.int .i64 t.a.n) t.vd (.int .i64 t.a.actor) (.int .i64 t.a.kind) (.int .i64 t.a.to) (.int .i64 t.a.bucket) (.int .i64 t.a.mask) (.int .i64 t.a.gr) (.int .i64 t.a.gn) t.vs
 rw [← hw] at hg
 have ho := own_at h.1
 have hr := row_set11 ho.1 k rfl hk t
 rw [← hw] at hr
 have he : Elsewhere w lo (some g) := own_else (lo := lo) h.1
 refine ⟨⟨?_, fun x hx => ?_⟩, hg⟩
 ·rw [List.length_set]; exact row_less hr ho.2.1
 ·rcases List.mem_or_eq_of_mem_set hx with hx | rfl
  ·exact (h.2 x hx).else_ hg he
  ·exact ht.else_ hg he
theorem BL.put {w W W' : World} {B lo g n cap : Nat} {ts : List ActT} (h : BL w B lo W (.slice (some ⟨g, 0, none⟩) n cap) ts) (k : Nat) (hk : k < ts.length) (t : ActT) (ht : t.Owns W lo) (hs : t.a.Small)
  (hw : W' = ((((((((((W.setCell ⟨g, k * 11, none⟩ (.int .i64 t.a.r)).setCell ⟨g, k * 11 + 1, none⟩ (.int .i64 t.a.n)).setCell ⟨g, k * 11 + 2, none⟩ t.vd).setCell ⟨g, k * 11 + 3, none⟩ (.int .i64 t.a.actor)).setCell ⟨g, k * 11 + 4, none⟩ (.int .i64 t.a.kind)).setCell ⟨g, k * 11 + 5, none⟩ (.int .i64 t.a.to)).setCell ⟨g, k * 11 + 6, none⟩ (.int .i64 t.a.bucket)).setCell ⟨g, k * 11 + 7, none⟩ (.int .i64 t.a.mask)).setCell ⟨g, k * 11 + 8, none⟩ (.int .i64 t.a.gr)).setCell ⟨g, k * 11 + 9, none⟩ (.int .i64 t.a.gn)).setCell ⟨g, k * 11 + 10, none⟩ t.vs) :
  BL w B lo W' (.slice (some ⟨g, 0, none⟩) n cap) (ts.set k t) := by
 obtain ⟨ho, hg⟩ := h.o.put k hk t ht hw
 have hlo := (own_at h.o.1).2.1
 have h1 := h.bl
 have h2 := h.lw
 refine ⟨h.bl, h.lw, Nat.le_trans h.lW hg.size, ho, ⟨by have := h.s.1; simpa using this, fun a ha => ?_⟩, by have := h.n; simpa using this, h.c.grown hg (fun g e => by cases e; omega), grown_then h.g hg (fun g e => .inr (by cases e; omega))⟩
 obtain ⟨x, hx, rfl⟩ := List.mem_map.1 ha
 rcases List.mem_or_eq_of_mem_set hx with hx | rfl
 ·exact h.s.2 _ (List.mem_map.2 ⟨x, hx, rfl⟩)
 ·exact hs
theorem BL.at {w W : World} {B lo g n cap : Nat} {ts : List ActT} (h : BL w B lo W (.slice (some ⟨g, 0, none⟩) n cap) ts) (k : Nat) (hk : k < ts.length) : ActAt W g (k * 11) (ts.getD k t0) := by
 obtain ⟨a, c, hv⟩ := row_shape h.o.1
 simp only [Value.slice.injEq] at hv
 obtain ⟨-, hn, -⟩ := hv
 subst hn
 exact row_actAt (own_at h.o.1).1 k rfl hk
theorem BL.gp {w W : World} {B lo g n cap : Nat} {ts : List ActT} (h : BL w B lo W (.slice (some ⟨g, 0, none⟩) n cap) ts) : lo ≤ g ∧ g < W.heap.size := (own_at h.o.1).2
theorem BL.shape {w W : World} {B lo m sc : Nat} {sa : Option Addr} {ts : List ActT} (h : BL w B lo W (.slice sa m sc) ts) (h0 : 0 < m) : ∃ g t r, sa = some ⟨g, 0, none⟩ ∧ ts = t :: r ∧ m = r.length + 1 := by
 rcases h.o.1.2 with ⟨hv, _⟩ | ⟨g, cap, cur, hv, _⟩
 ·simp only [Value.slice.injEq] at hv; omega
 ·simp only [Value.slice.injEq] at hv
  obtain ⟨rfl, rfl, rfl⟩ := hv
  cases ts with
  | nil => simp at h0
  | cons t r => exact ⟨g, t, r, rfl, rfl, rfl⟩
theorem BL.cap {w W : World} {B lo m sc : Nat} {sa : Option Addr} {ts : List ActT} (h : BL w B lo W (.slice sa m sc) ts) : m ≤ sc ∧ m = ts.length := by
 rcases h.o.1.2 with ⟨hv, h0⟩ | ⟨g, cap, cur, hv, _, _, hc, _⟩
 ·simp only [Value.slice.injEq] at hv
  obtain ⟨_, rfl, rfl⟩ := hv
  exact ⟨Nat.le_refl _, h0.symm⟩
 ·simp only [Value.slice.injEq] at hv
  obtain ⟨_, rfl, rfl⟩ := hv
  exact ⟨hc, rfl⟩
theorem BL.gone {w W : World} {B lo m sc : Nat} {sa : Option Addr} {ts : List ActT} (h : BL w B lo W (.slice sa m sc) ts) (a : Option Addr) (k c : Nat) (hk : k = 0) (n : Int) (h0 : 0 ≤ n) (h5 : n ≤ 5) : DrawnL w B (.returned (.tuple #[.slice a k c, .int .i64 n])) W := by
 subst hk
 exact ⟨_, [], n, rfl, ⟨_, ts, lo, h.lw, h.o, fun V o => ⟨(fun t ht => by cases ht), .inl ⟨a, c, rfl, rfl⟩⟩⟩, ⟨by simp, fun a ha => by cases ha⟩, by simp, h0, h5, h.c, h.g⟩
theorem BL.snoc {w W w2 : World} {B lo : Nat} {v v2 : Value} {ts : List ActT} {t : ActT} (h : BL w B lo W v ts) (ht : t.Owns W lo) (hs : t.a.Small) (ho : w2.ownsRow lo 33 11 v2 (ts.length + 1) (va ts ++ t.cells)) (hg : W.grownBy w2 v.ownBlock) (n : Int) (h0 : 0 ≤ n) (h5 : n ≤ 5) : DrawnL w B (.returned (.tuple #[v2, .int .i64 n])) w2 := by
 have hb := own_block_ge h.o.1
 have h1 := h.bl
 have h2 := h.lw
 have h3 := h.n
 refine ⟨v2, ts ++ [t], n, rfl, ⟨_, ts ++ [t], lo, h.lw, h.o.snoc ht ho hg, fun V o => ownT_acts o⟩, ⟨by simp; omega, fun a ha => ?_⟩, by simp; omega, h0, h5, h.c.grown hg (fun g e => by have := hb g e; omega), grown_then h.g hg (fun g e => .inr (by have := hb g e; omega))⟩
 rw [List.map_append] at ha
 rcases List.mem_append.1 ha with ha | ha
 ·exact h.s.2 a ha
 ·simp only [List.map_cons, List.map_nil, List.mem_singleton] at ha
  subst ha
  exact hs
theorem BL.free {w W : World} {B lo g n cap : Nat} {ts : List ActT} (h : BL w B lo W (.slice (some ⟨g, 0, none⟩) n cap) ts) (j : Nat) : W.frozen? ⟨g, j, none⟩ = false := by
 obtain ⟨_, hn⟩ := h.cap
 subst hn
 exact (own_at h.o.1).1.frozenAt j
theorem BL.drew {w W : World} {B lo : Nat} {v : Value} {ts : List ActT} (h : BL w B lo W v ts) : BL w B lo W.drew v ts :=
 ⟨h.bl, h.lw, h.lW, h.o.below ((Below.refl _ _).drew), h.s, h.n, h.c.grown (grown_drew W none) (fun g e => by cases e), grown_then h.g (grown_drew W none) (fun g e => by cases e)⟩
def depAt (d j : Nat) (x : Int) (t : ActT) : ActT := if t.vd.ownBlock = some d then ⟨{ t.a with dep := t.a.dep.set j x }, t.vd, t.vs⟩ else t
theorem depAt_cells (d j : Nat) (x : Int) (t : ActT) : (depAt d j x t).cells = t.cells := by unfold depAt; split <;> rfl
theorem depAt_va (d j : Nat) (x : Int) (ts : List ActT) : va (ts.map (depAt d j x)) = va ts := by
 induction ts with
 | nil => rfl
 | cons t r ih => simp only [va, List.map_cons, List.flatMap_cons, depAt_cells] at ih ⊢; rw [ih]
theorem own_store {w : World} {g d j : Nat} {x : Int} {v : Value} {xs : List Int} (h : Own w g v xs) : Own (w.setCell ⟨d, j, none⟩ (.int .i64 x)) g v (if v.ownBlock = some d then xs.set j x else xs) := by
 rcases h with ⟨a, cap, rfl, rfl⟩ | ⟨hp, cap, rfl, ho⟩
 ·exact .inl ⟨a, cap, rfl, by split <;> simp⟩
 ·by_cases hd : g = d
  ·subst hd
   rw [if_pos (show (Value.slice (some ⟨g, 0, none⟩) xs.length cap).ownBlock = some g from rfl)]
   refine .inr ⟨by simpa using hp, cap, by simp, ?_⟩
   have := (ho.stored j (.int .i64 x)).1
   simp only [vi, List.length_set, List.map_set] at this ⊢
   exact this
  ·have hne : (Value.slice (some ⟨g, 0, none⟩) xs.length cap).ownBlock ≠ some d := by simp [Value.ownBlock, hd]
   rw [if_neg hne]
   exact .inr ⟨hp, cap, rfl, ownsRow_setCell_other ho hne _⟩
theorem row_other {w : World} {lo e size n d j : Nat} {v u : Value} {xs : List Value} (h : w.ownsRow lo e size v n xs) (hd : OfType w d 3) (he : e ≠ 3) : (w.setCell ⟨d, j, none⟩ u).ownsRow lo e size v n xs := by
 refine ownsRow_setCell_other h (fun hv => ?_) u
 obtain ⟨a, c, rfl⟩ := row_shape h
 rcases h.2 with ⟨h', _⟩ | ⟨g, cap, cur, h', _, hg, _⟩
 ·simp only [Value.slice.injEq] at h'
  obtain ⟨rfl, _⟩ := h'
  simp [Value.ownBlock] at hv
 ·simp only [Value.slice.injEq] at h'
  obtain ⟨rfl, _⟩ := h'
  simp only [Value.ownBlock, Option.some.injEq] at hv
  subst hv
  exact type_ne ⟨cur, _, hg⟩ hd he rfl
theorem ActT.Owns.store {w : World} {lo d j : Nat} {x : Int} {t : ActT} (h : t.Owns w lo) (hd : OfType w d 3) : (depAt d j x t).Owns (w.setCell ⟨d, j, none⟩ (.int .i64 x)) lo := by
 obtain ⟨⟨g, hg, ho⟩, hu⟩ := h
 have h1 := own_store (d := d) (j := j) (x := x) ho
 have h2 := row_other (d := d) (j := j) (u := .int .i64 x) hu hd (by decide)
 unfold depAt
 split
 ·rename_i hc
  rw [if_pos hc] at h1
  exact ⟨⟨g, hg, h1⟩, h2⟩
 ·rename_i hc
  rw [if_neg hc] at h1
  exact ⟨⟨g, hg, h1⟩, h2⟩
theorem BL.dep {w W : World} {B lo d : Nat} {v : Value} {ts : List ActT} (h : BL w B lo W v ts) (j : Nat) (x : Int) (hd : OfType W d 3) (hl : lo ≤ d) : BL w B lo (W.setCell ⟨d, j, none⟩ (.int .i64 x)) v (ts.map (depAt d j x)) := by
 have hg : W.grownBy (W.setCell ⟨d, j, none⟩ (.int .i64 x)) (some d) := grown_set d j _
 have h1 := h.bl
 have h2 := h.lw
 refine ⟨h.bl, h.lw, Nat.le_trans h.lW hg.size, ⟨?_, fun y hy => ?_⟩, ⟨by have := h.s.1; simpa using this, fun a ha => ?_⟩, by have := h.n; simpa using this, h.c.grown hg (fun g e => by cases e; omega), grown_then h.g hg (fun g e => .inr (by cases e; omega))⟩
 ·rw [depAt_va, List.length_map]
  exact row_other h.o.1 hd (by decide)
 ·obtain ⟨t, ht, rfl⟩ := List.mem_map.1 hy
  exact (h.o.2 t ht).store hd
 ·rw [List.map_map] at ha
  obtain ⟨t, ht, rfl⟩ := List.mem_map.1 ha
  have := h.s.2 _ (List.mem_map.2 ⟨t, ht, rfl⟩)
  simp only [Function.comp, depAt]
  split
  ·exact ⟨by simpa using this.1, this.2⟩
  ·exact this
theorem BL.clock {w W : World} {B lo : Nat} {v : Value} {ts : List ActT} (h : BL w B lo W v ts) (t : ActT) (ht : t ∈ ts) (hp : 0 < t.a.dep.length) : ∃ d c, t.vd = .slice (some ⟨d, 0, none⟩) t.a.dep.length c ∧ OfType W d 3 ∧ lo ≤ d ∧ (∀ j, W.frozen? ⟨d, j, none⟩ = false) := by
 obtain ⟨⟨g, hg, ho⟩, _⟩ := h.o.2 t ht
 rcases ho with ⟨a, c, _, h0⟩ | ⟨_, c, hv, hr⟩
 ·rw [h0] at hp; simp at hp
 ·exact ⟨g, c, hv, row_type hr, hg, hr.frozenAt⟩
structure BX (w : World) (B lo g m sc d n dc i : Nat) (W : World) : Prop where
 us : ∃ us : List ActT, BL w B lo W (.slice (some ⟨g, 0, none⟩) m sc) us ∧ i < us.length ∧ (us.getD i t0).vd = .slice (some ⟨d, 0, none⟩) n dc ∧ (us.getD i t0).a.dep.length = n
 n0 : 0 < n
def cellOf (W : World) (d j : Nat) : Value := (W.cell? ⟨d, j, none⟩).getD undef
theorem BX.cell {w W : World} {B lo g m sc d n dc i : Nat} (h : BX w B lo g m sc d n dc i W) : W.cell? ⟨g, i * 11 + 2, none⟩ = some (.slice (some ⟨d, 0, none⟩) n dc) := by
 obtain ⟨us, hb, hi, hv, _⟩ := h.us
 rw [← hv]
 exact (hb.at i hi).c2
theorem BX.all {w W : World} {B lo g m sc d n dc i : Nat} (h : BX w B lo g m sc d n dc i W) : OfType W d 3 ∧ lo ≤ d ∧ (∀ j, W.frozen? ⟨d, j, none⟩ = false) ∧ ∀ j, j < n → W.cell? ⟨d, j, none⟩ = some (cellOf W d j) := by
 obtain ⟨us, hb, hi, hv, hl⟩ := h.us
 have h0 := h.n0
 have hown := hb.o.2 _ (getD_mem hi)
 generalize us.getD i t0 = T at hown hv hl
 obtain ⟨⟨g', hg, ho⟩, _⟩ := hown
 rcases ho with ⟨a, c, _, hz⟩ | ⟨_, c, hv', hr⟩
 ·rw [hz] at hl; simp at hl; omega
 ·rw [hv] at hv'
  simp only [Value.slice.injEq, Option.some.injEq, Addr.mk.injEq, and_true] at hv'
  obtain ⟨rfl, _, _⟩ := hv'
  refine ⟨row_type hr, hg, hr.frozenAt, fun j hj => ?_⟩
  have := hr.cellAt j (by omega)
  unfold cellOf
  rw [this, List.getElem?_eq_getElem (by simp [vi]; omega)]
  rfl
theorem BX.call {w W W' : World} {B lo g m sc d n dc i : Nat} (h : BX w B lo g m sc d n dc i W) (hc : Cur W' B) (hg : W.grownBy W' (some B)) : BX w B lo g m sc d n dc i W' := by
 obtain ⟨us, hb, hi, hv, hl⟩ := h.us
 exact ⟨⟨us, hb.call hc hg, hi, hv, hl⟩, h.n0⟩
theorem BX.drew {w W : World} {B lo g m sc d n dc i : Nat} (h : BX w B lo g m sc d n dc i W) : BX w B lo g m sc d n dc i W.drew := by
 obtain ⟨us, hb, hi, hv, hl⟩ := h.us
 exact ⟨⟨us, hb.drew, hi, hv, hl⟩, h.n0⟩
theorem BX.cur {w W : World} {B lo g m sc d n dc i : Nat} (h : BX w B lo g m sc d n dc i W) : Cur W B := by
 obtain ⟨us, hb, _⟩ := h.us
 exact hb.c
theorem BX.store {w W : World} {B lo g m sc d n dc i : Nat} (h : BX w B lo g m sc d n dc i W) (j : Nat) (x : Int) : BX w B lo g m sc d n dc i (W.setCell ⟨d, j, none⟩ (.int .i64 x)) := by
 obtain ⟨us, hb, hi, hv, hl⟩ := h.us
 obtain ⟨ty, hlo, _⟩ := h.all
 have hi' : i < (us.map (depAt d j x)).length := by simpa using hi
 have e : (us.map (depAt d j x)).getD i t0 = depAt d j x (us.getD i t0) := by simp [List.getD, hi]
 refine ⟨⟨us.map (depAt d j x), hb.dep j x ty hlo, hi', ?_, ?_⟩, h.n0⟩
 ·rw [e, ← hv]; unfold depAt; split <;> rfl
 ·rw [e, ← hl]; unfold depAt; split <;> simp
theorem BX.fin {w W : World} {B lo g m sc d n dc i : Nat} (h : BX w B lo g m sc d n dc i W) (k : Int) (h0 : 0 ≤ k) (h5 : k ≤ 5) : DrawnL w B (.returned (.tuple #[.slice (some ⟨g, 0, none⟩) m sc, .int .i64 k])) W := by
 obtain ⟨us, hb, _⟩ := h.us
 exact hb.fin k h0 h5
set_option maxRecDepth 100000 in
set_option maxHeartbeats 6400000 in
theorem l3bent_any (B : Nat) (w : World) (h : Cur w B) : Calls Tryz.prog 25 #[.pointer (some ⟨B, 0, none⟩)] w (DrawnL w B) := by
 obtain ⟨i2, hi, hz0, hz1, hz2⟩ := info_parts Tryz.infoAct
 have hBw := h.lt
 have HC := Lib.hid h
 clear h
 go_enter Tryz.func25, Tryz.ntmps25
 go_wp2_with fail
 refine (l3draw_any B 16 _ HC.out (by omega) (by omega)).mono ?_
 rintro e w1 ⟨a, c, l, n, rfl, n1, n3, ho, hs, hc, hg⟩
 have A1 := Lib.hid (ownActs_acts ho)
 have S1 := Lib.hid (setOk_small hs)
 have N1 := Lib.hid (setOk_all hs).2.2.1
 have D1 := Lib.hid (fun x hx => (ok_parts ((setOk_all hs).2.2.2 x hx)).2.2)
 have C1 := Lib.hid hc
 have G1 := Lib.hid hg
 clear ho hs hc hg HC
 go_wp2_with fail
 refine (l3own_any _ l _ A1.out S1.out).mono ?_
 rintro e w2 ⟨v, rfl, ⟨ts, rfl, ot⟩, b2⟩
 obtain ⟨sa, sc, rfl⟩ := row_shape ot.1
 have L2 := Lib.hid (show BL w B w1.heap.size w2 (.slice sa ts.length sc) ts from ⟨by have := G1.out.size; omega, G1.out.size, b2.size, ot, S1.out, by have := N1.out; simpa using this, C1.out.grown (below_grown b2 none) (fun g e => by cases e), grown_then G1.out (below_grown b2 none) (fun g e => by cases e)⟩)
 have ND := Lib.hid (show ∀ t ∈ ts, t.a.dep.length = n from fun t ht => D1.out _ (List.mem_map.2 ⟨t, ht, rfl⟩))
 clear D1
 obtain ⟨lo, hlo⟩ : ∃ lo, lo = w1.heap.size := ⟨_, rfl⟩
 obtain ⟨l0, hl0⟩ : ∃ l, l = (ts.map ActT.a).length := ⟨_, rfl⟩
 obtain ⟨m, hm⟩ : ∃ m, m = ts.length := ⟨_, rfl⟩
 rw [← hlo] at L2
 rw [← hl0]
 rw [← hm] at L2 ⊢
 clear ot b2 A1 S1 N1 C1 G1 hlo hl0 hm
 go_wp2_with fail
 refine (below_any B 16 _ L2.out.c (by omega)).mono ?_
 rintro e w3 ⟨x, rfl, x0, _, x2, hc, hg⟩
 have hx := x2 (by omega)
 have L3 := Lib.hid (L2.out.call hc hg)
 obtain ⟨kk, rfl⟩ := Int.eq_ofNat_of_zero_le x0
 clear hc hg x2 L2 x0
 by_cases hk : kk ≤ 4
 ·have hcs : kk = 0 ∨ kk = 1 ∨ kk = 2 ∨ kk = 3 ∨ kk = 4 := by omega
  clear hk hx
  rcases hcs with rfl | rfl | rfl | rfl | rfl
  ·go_wp2_with fail
   refine (pick_lit B w3.heap.size _ [0, (n : Int) + 1, 5] 3 _ rfl rfl rfl L3.out.c (by omega) (by omega)).mono ?_
   rintro e w4 ⟨y, rfl, hy, hc, hg⟩
   have L4 := Lib.hid (L3.out.call hc hg)
   have HY := Lib.hid hy
   clear hc hg L3 hy
   go_wp2_with fail
   go_ret2
   have hy := HY.out
   simp only [List.mem_cons, List.not_mem_nil, or_false] at hy
   exact L4.out.fin y (by omega) (by omega)
  ·by_cases h0 : 0 < m
   ·obtain ⟨g, t, r, rfl, rfl, hm⟩ := L3.out.shape h0
    have HM := Lib.hid hm
    have hcp := L3.out.cap.1
    clear hm
    go_wp2_with fail
    ·go_ret2
     exact L3.out.gone _ _ _ (by omega) n (by omega) (by omega)
    ·go_ret2
     exact L3.out.drop _ (by have := HM.out; omega) _ rfl n (by omega) (by omega)
   ·go_wp2_with fail
    go_ret2
    exact L3.out.fin n (by omega) (by omega)
  ·by_cases h0 : 1 < m
   ·obtain ⟨g, t, r', rfl, rfl, hm⟩ := L3.out.shape (by omega)
    obtain ⟨u, r, rfl⟩ : ∃ u r, r' = u :: r := by
     cases r' with
     | nil => simp at hm; omega
     | cons u r => exact ⟨u, r, rfl⟩
    have HM := Lib.hid hm
    have ht := L3.out.o.2 t (by simp)
    have hu := L3.out.o.2 u (by simp)
    obtain ⟨x1, m1, y1, x2, m2, y2, hvd, hvs⟩ := slice_of ht.reads
    obtain ⟨x3, m3, y3, x4, m4, y4, hvd', hvs'⟩ := slice_of hu.reads
    obtain ⟨⟨p0, p1, p2, p3, p4, p5, p6, p7, p8, p9, p10⟩, vd, vs⟩ := t
    obtain ⟨⟨q0, q1, q2, q3, q4, q5, q6, q7, q8, q9, q10⟩, vd', vs'⟩ := u
    simp only at hvd hvs hvd' hvs'
    subst hvd hvs hvd' hvs'
    obtain ⟨T, hT⟩ : ∃ T : ActT, T = ⟨⟨p0, p1, p2, p3, p4, p5, p6, p7, p8, p9, p10⟩, .slice x1 m1 y1, .slice x2 m2 y2⟩ := ⟨_, rfl⟩
    obtain ⟨U, hU⟩ : ∃ U : ActT, U = ⟨⟨q0, q1, q2, q3, q4, q5, q6, q7, q8, q9, q10⟩, .slice x3 m3 y3, .slice x4 m4 y4⟩ := ⟨_, rfl⟩
    rw [← hT, ← hU] at L3
    have HT := Lib.hid hT
    have HU := Lib.hid hU
    clear hT hU ht hu hm
    obtain ⟨W4, hW4⟩ : ∃ V, V = w3.alloc (.cells #[.int .i64 p0, .int .i64 p1, .slice x1 m1 y1, .int .i64 p3, .int .i64 p4, .int .i64 p5, .int .i64 p6, .int .i64 p7, .int .i64 p8, .int .i64 p9, .slice x2 m2 y2] 33) := ⟨_, rfl⟩
    have L4 := Lib.hid (show BL w B lo W4 _ _ from by rw [hW4]; exact L3.out.alloc _)
    have K4 := Lib.hid (show Blk W4 w3.heap.size _ from by rw [hW4]; exact Blk.new w3 _ _)
    have a0 := L3.out.at 0 (by simp)
    simp only [List.getD_cons_zero, HT.out, Nat.zero_mul] at a0
    have a1 := L4.out.at 1 (by simp)
    simp only [List.getD_cons_zero, List.getD_cons_succ, HU.out, Nat.one_mul] at a1
    obtain ⟨P, hP⟩ : ∃ P, P = w3.heap.size := ⟨_, rfl⟩
    have hPg : g < P := by rw [hP]; exact L3.out.gp.2
    have T4 := Lib.hid (show T.Owns W4 lo from L4.out.o.2 T (by simp))
    have U4 := Lib.hid (show U.Owns W4 lo from L4.out.o.2 U (by simp))
    have TS := Lib.hid (show T.a.Small from L3.out.s.2 _ (by simp))
    have US := Lib.hid (show U.a.Small from L3.out.s.2 _ (by simp))
    obtain ⟨c0, c1, c2, c3, c4, c5, c6, c7, c8, c9, c10⟩ := a0
    go_upto_region 12 with (fail)
    rw [← hW4, ← hP]
    rw [← hP] at K4
    clear hW4 hP c0 c1 c2 c3 c4 c5 c6 c7 c8 c9 c10 L3
    obtain ⟨d0, d1, d2, d3, d4, d5, d6, d7, d8, d9, d10⟩ := a1
    simp only [Nat.reduceAdd] at d1 d2 d3 d4 d5 d6 d7 d8 d9 d10
    have b0 := L4.out.at 0 (by simp)
    simp only [List.getD_cons_zero, HT.out, Nat.zero_mul] at b0
    obtain ⟨c0, c1, c2, c3, c4, c5, c6, c7, c8, c9, c10⟩ := b0
    simp only [Nat.zero_add] at c1 c2 c3 c4 c5 c6 c7 c8 c9 c10
    have f := L4.out.free
    obtain ⟨W5, hW5⟩ : ∃ V, V = ((((((((((W4.setCell ⟨g, 0, none⟩ (.int .i64 q0)).setCell ⟨g, 1, none⟩ (.int .i64 q1)).setCell ⟨g, 2, none⟩ (.slice x3 m3 y3)).setCell ⟨g, 3, none⟩ (.int .i64 q3)).setCell ⟨g, 4, none⟩ (.int .i64 q4)).setCell ⟨g, 5, none⟩ (.int .i64 q5)).setCell ⟨g, 6, none⟩ (.int .i64 q6)).setCell ⟨g, 7, none⟩ (.int .i64 q7)).setCell ⟨g, 8, none⟩ (.int .i64 q8)).setCell ⟨g, 9, none⟩ (.int .i64 q9)).setCell ⟨g, 10, none⟩ (.slice x4 m4 y4) := ⟨_, rfl⟩
    obtain ⟨o5, g5⟩ := L4.out.o.put (w' := W5) 0 (by simp) U U4.out (by have e := HU.out; clear HU; subst e; exact hW5)
    have L5 := Lib.hid (L4.out.put (W' := W5) 0 (by simp) U U4.out US.out (by have e := HU.out; clear HU; subst e; exact hW5))
    have T5 := Lib.hid (T4.out.else_ g5 (own_else (lo := lo) L4.out.o.1))
    have K5 := Lib.hid (K4.out.grown g5 (by omega))
    clear o5 g5
    go_upto_region 13 with (fail)
    rw [← hW5]
    clear hW5 c0 c1 c2 c3 c4 c5 c6 c7 c8 c9 c10 d0 d1 d2 d3 d4 d5 d6 d7 d8 d9 d10 f L4 K4 T4 U4 US
    have k := K5.out.cell
    have b1 := L5.out.at 1 (by simp)
    simp only [List.set_cons_zero, List.getD_cons_zero, List.getD_cons_succ, HU.out, Nat.one_mul] at b1
    obtain ⟨d0, d1, d2, d3, d4, d5, d6, d7, d8, d9, d10⟩ := b1
    simp only [Nat.reduceAdd] at d1 d2 d3 d4 d5 d6 d7 d8 d9 d10
    have f := L5.out.free
    obtain ⟨W6, hW6⟩ : ∃ V, V = ((((((((((W5.setCell ⟨g, 11, none⟩ (.int .i64 p0)).setCell ⟨g, 12, none⟩ (.int .i64 p1)).setCell ⟨g, 13, none⟩ (.slice x1 m1 y1)).setCell ⟨g, 14, none⟩ (.int .i64 p3)).setCell ⟨g, 15, none⟩ (.int .i64 p4)).setCell ⟨g, 16, none⟩ (.int .i64 p5)).setCell ⟨g, 17, none⟩ (.int .i64 p6)).setCell ⟨g, 18, none⟩ (.int .i64 p7)).setCell ⟨g, 19, none⟩ (.int .i64 p8)).setCell ⟨g, 20, none⟩ (.int .i64 p9)).setCell ⟨g, 21, none⟩ (.slice x2 m2 y2) := ⟨_, rfl⟩
    have L6 := Lib.hid (L5.out.put (W' := W6) 1 (by simp) T T5.out TS.out (by have e := HT.out; clear HT; subst e; exact hW6))
    go_upto_region 20 with (fail)
    rw [← hW6]
    clear hW6 k f d0 d1 d2 d3 d4 d5 d6 d7 d8 d9 d10
    go_wp2_with fail
    go_ret2
    exact L6.out.fin n (by omega) (by omega)
   ·go_wp2_with fail
    go_ret2
    exact L3.out.fin n (by omega) (by omega)
  ·by_cases h0 : 0 < m
   ·have hm60 : m ≤ 60 := by have := L3.out.n; have := L3.out.cap.2; omega
    obtain ⟨g, hg⟩ : ∃ g, sa = some ⟨g, 0, none⟩ := by
     obtain ⟨g, _, _, h, _⟩ := L3.out.shape h0
     exact ⟨g, h⟩
    subst hg
    go_wp2_with fail
    refine (below_any B m _ L3.out.c (by omega)).mono ?_
    rintro e w4 ⟨y, rfl, y0, _, y2, hc, hg⟩
    have hy := y2 (by omega)
    obtain ⟨i, rfl⟩ := Int.eq_ofNat_of_zero_le y0
    have L4 := Lib.hid (L3.out.call hc hg)
    have hit : i < ts.length := by have := L4.out.cap.2; omega
    obtain ⟨d, dc, hvd, _⟩ := L4.out.clock _ (getD_mem hit) (by rw [ND.out _ (getD_mem hit)]; omega)
    rw [ND.out _ (getD_mem hit)] at hvd
    have X0 := Lib.hid (show BX w B lo g m sc d n dc i w4 from ⟨⟨ts, L4.out, hit, hvd, ND.out _ (getD_mem hit)⟩, by omega⟩)
    have XD := Lib.hid X0.out.drew
    have KE := fun W' (h : BX w B lo g m sc d n dc i W') => h.cell
    have KF := fun W' (h : BX w B lo g m sc d n dc i W') j => h.all.2.2.1 j
    have KD := fun W' (h : BX w B lo g m sc d n dc i W') j (hj : j < n) => h.all.2.2.2 j hj
    clear hc hg L3 L4 hvd y2 hit y0
    go_wp2_with fail
    go_region_held3 (fun w' => BX w B lo g m sc d n dc i w')
     (first | (with_reducible exact XD.out) | (with_reducible assumption) | (with_reducible refine BX.store ?_ _ _; with_reducible assumption))
     (first | (go_at_call 26; (with_reducible refine (below_any B n _ (BX.cur (by with_reducible first | exact XD.out | assumption)) (by omega)).mono ?_); rintro e wz ⟨yz, rfl, yz0, _, yz2, hcz, hgz⟩; have hyz := yz2 (by omega); obtain ⟨jz, rfl⟩ := Int.eq_ofNat_of_zero_le yz0; have hjz : jz < n := (by omega); have bz := BX.call (by with_reducible first | exact XD.out | assumption) hcz hgz; clear yz2 hcz hgz) | (go_at_call 26; (with_reducible refine (below_any B 4 _ (BX.cur (by with_reducible first | exact XD.out | assumption)) (by omega)).mono ?_); rintro e wz ⟨yz, rfl, yz0, _, yz2, hcz, hgz⟩; have bz := BX.call (by with_reducible first | exact XD.out | assumption) hcz hgz; clear yz2 hcz hgz))
    all_goals (have FS := Lib.hid (fun (j : Nat) (x : Int) => BX.fin (BX.store bz j x) n (by omega) (by omega)); clear KE KF KD bz; go_wp2_with fail; go_ret2; exact FS.out _ _)
   ·go_wp2_with fail
    go_ret2
    exact L3.out.fin n (by omega) (by omega)
  ·go_wp2_with fail
   refine (l2bent_any B _ L3.out.c).mono ?_
   rintro e w4 ⟨t, rfl, ht, hn, hc, hg⟩
   have L4 := Lib.hid (L3.out.call hc hg)
   have T4 := Lib.hid (ht.less L3.out.lW)
   have S4 := Lib.hid (show t.a.Small from ⟨by omega, by omega⟩)
   clear hc hg L3 ht hn
   have L5 := Lib.hid (L4.out.alloc (.cells #[.int .i64 t.a.r, .int .i64 t.a.n, t.vd, .int .i64 t.a.actor, .int .i64 t.a.kind, .int .i64 t.a.to, .int .i64 t.a.bucket, .int .i64 t.a.mask, .int .i64 t.a.gr, .int .i64 t.a.gn, t.vs] 33))
   have SR := Lib.hid (src_new (w := w4) t 33)
   have CO := Lib.hid (cells_one T4.out.reads)
   have HM : Hid (m = ts.length) := L4.out.cap.2
   have hlW := L4.out.lW
   have hm60 : m ≤ 60 := by have := L4.out.n; have := HM.out; omega
   have HM1 : Hid (m + 1 ≤ maxLen) := by show _ ≤ _; unfold maxLen; omega
   have HM2 : Hid ((m + 1) * 120 ≤ 140737488355328) := by show _ ≤ _; omega
   have RW := Lib.hid (show World.ownsRow _ lo 33 11 (.slice sa m sc) m (va ts) from by have := L5.out.o.1; rw [← HM.out] at this; exact this)
   simp only [ActT.val]
   go_wp2_with (at_builtin; refine wpList_app rfl (.tmp 69) (.tmp 72) 23 rfl lo 33 i2 _ 11 120 Tryz.underlying23 hi hz0 hz1 hz2 rfl (by decide) (.slice sa m sc) (.slice (some ⟨w4.heap.size, 0, none⟩) 1 1) m 1 (va ts) t.cells rfl rfl RW.out SR.out CO.out HM1.out HM2.out (by simp; omega) ?_)
   intro v5 w5 hown5 hgrow5 _
   rw [HM.out] at hown5
   have FN := Lib.hid (L5.out.snoc (T4.out.alloc _) S4.out hown5 hgrow5 n (by omega) (by omega))
   clear hown5 hgrow5
   go_wp2_with fail
   go_ret2
   exact FN.out
 ·have e0 : ((kk : Int) == 0) = false := by simp; omega
  have e1 : ((kk : Int) == 1) = false := by simp; omega
  have e2 : ((kk : Int) == 2) = false := by simp; omega
  have e3 : ((kk : Int) == 3) = false := by simp; omega
  have e4 : ((kk : Int) == 4) = false := by simp; omega
  go_wp2_with fail
  go_ret2
  exact L3.out.fin n (by omega) (by omega)
end Go.Proofs.YtcjoecjijmkbaaaGreat
