/- Slices of acts in memory: what one reads as (Acts), what one owns (OwnActs). -/
import Derived.Test.YtcgncaiehdcooaaAG
namespace Go.Proofs.Ytcgncaiehdcooaa
open Go.RowKit
set_option linter.unusedVariables false

theorem Try.infoAct : (Try.prog.info? 26).map (fun i => (i.zero, i.size, i.bytes)) = some (some (.agg #[.int .i64 0, .int .i64 0, .slice none 0 0, .int .i64 0, .int .i64 0, .int .i64 0, .int .i64 0, .int .i64 0, .int .i64 0, .int .i64 0, .slice none 0 0]), 11, 120) := by kernel_rfl

def act0 : ActM := ⟨0, 0, [], 0, 0, 0, 0, 0, 0, 0, []⟩
/-- an act with the values of its two lists -/
structure ActT where
  a : ActM
  vd : Value
  vs : Value
def t0 : ActT := ⟨act0, .bool false, .bool false⟩
def ActT.cells (t : ActT) : List Value := [.int .i64 t.a.r, .int .i64 t.a.n, t.vd, .int .i64 t.a.actor, .int .i64 t.a.kind, .int .i64 t.a.to, .int .i64 t.a.bucket, .int .i64 t.a.mask, .int .i64 t.a.gr, .int .i64 t.a.gn, t.vs]
def va (l : List ActT) : List Value := l.flatMap ActT.cells
/-- the cells of one act at an address -/
structure ActAt (w : World) (b o : Nat) (t : ActT) : Prop where
  c0 : w.cell? ⟨b, o, none⟩ = some (.int .i64 t.a.r)
  c1 : w.cell? ⟨b, o + 1, none⟩ = some (.int .i64 t.a.n)
  c2 : w.cell? ⟨b, o + 2, none⟩ = some t.vd
  c3 : w.cell? ⟨b, o + 3, none⟩ = some (.int .i64 t.a.actor)
  c4 : w.cell? ⟨b, o + 4, none⟩ = some (.int .i64 t.a.kind)
  c5 : w.cell? ⟨b, o + 5, none⟩ = some (.int .i64 t.a.to)
  c6 : w.cell? ⟨b, o + 6, none⟩ = some (.int .i64 t.a.bucket)
  c7 : w.cell? ⟨b, o + 7, none⟩ = some (.int .i64 t.a.mask)
  c8 : w.cell? ⟨b, o + 8, none⟩ = some (.int .i64 t.a.gr)
  c9 : w.cell? ⟨b, o + 9, none⟩ = some (.int .i64 t.a.gn)
  c10 : w.cell? ⟨b, o + 10, none⟩ = some t.vs
theorem ActAt.same {w w' : World} {b o : Nat} {t : ActT} (h : ActAt w b o t) (k : ∀ j, w'.cell? ⟨b, j, none⟩ = w.cell? ⟨b, j, none⟩) : ActAt w' b o t :=
  ⟨(k _).trans h.c0, (k _).trans h.c1, (k _).trans h.c2, (k _).trans h.c3, (k _).trans h.c4, (k _).trans h.c5, (k _).trans h.c6, (k _).trans h.c7, (k _).trans h.c8, (k _).trans h.c9, (k _).trans h.c10⟩
theorem ActAt.below {w w' : World} {B b o : Nat} {t : ActT} (h : ActAt w b o t) (hb : Below B w w') (hl : b < B) : ActAt w' b o t :=
  h.same fun j => hb.cell (p := ⟨b, j, none⟩) hl

/-- the value of an act -/
def ActT.val (t : ActT) : Value := .agg #[.int .i64 t.a.r, .int .i64 t.a.n, t.vd, .int .i64 t.a.actor, .int .i64 t.a.kind, .int .i64 t.a.to, .int .i64 t.a.bucket, .int .i64 t.a.mask, .int .i64 t.a.gr, .int .i64 t.a.gn, t.vs]
/-- its lists read as the act's -/
def ActT.Reads (w : World) (t : ActT) : Prop := Ints w t.vd t.a.dep ∧ Ups w t.vs t.a.ups
theorem ActT.Reads.below {w w' : World} {t : ActT} (h : t.Reads w) (hb : Below w.heap.size w w') : t.Reads w' := ⟨h.1.below (B := 0) hb, h.2.below hb⟩
theorem ActT.Reads.is {w : World} {t : ActT} (h : t.Reads w) : ActIs w t.val t.a := ⟨t.vd, t.vs, rfl, h.1, h.2⟩

/-- v is a slice that reads as the acts ts, whose lists have these values -/
def ActsT (w : World) (v : Value) (ts : List ActT) : Prop :=
  (∀ t ∈ ts, t.Reads w) ∧ ((∃ a cap, v = .slice a 0 cap ∧ ts = []) ∨
  ∃ b off cap, v = .slice (some ⟨b, off, none⟩) ts.length cap ∧ b < w.heap.size ∧ ts.length ≤ cap ∧ cap ≤ maxLen ∧ ∀ i, i < ts.length → ActAt w b (off + i * 11) (ts.getD i t0))
/-- v is a slice that reads as the acts l -/
def Acts (w : World) (v : Value) (l : List ActM) : Prop := ∃ ts : List ActT, l = ts.map ActT.a ∧ ActsT w v ts
theorem ActsT.below {w w' : World} {v : Value} {ts : List ActT} (h : ActsT w v ts) (hb : Below w.heap.size w w') : ActsT w' v ts := by
  refine ⟨fun t ht => (h.1 t ht).below hb, ?_⟩
  rcases h.2 with h | ⟨b, off, cap, rfl, h1, h2, h3, h4⟩
  · exact .inl h
  · exact .inr ⟨b, off, cap, rfl, Nat.lt_of_lt_of_le h1 hb.size, h2, h3, fun i hi => (h4 i hi).below hb h1⟩
theorem Acts.below {w w' : World} {v : Value} {l : List ActM} (h : Acts w v l) (hb : Below w.heap.size w w') : Acts w' v l := by
  obtain ⟨ts, hl, ht⟩ := h
  exact ⟨ts, hl, ht.below hb⟩
theorem actsT_drewN {w : World} {v : Value} {ts : List ActT} (h : ActsT w v ts) (n : Nat) : ActsT (w.drewN n) v ts := h.below (below_drewN (Below.refl _ _) n)
theorem acts_drewN {w : World} {v : Value} {l : List ActM} (h : Acts w v l) (n : Nat) : Acts (w.drewN n) v l := h.below (below_drewN (Below.refl _ _) n)
theorem actsT_len {w : World} {v : Value} {ts : List ActT} (h : ActsT w v ts) : ∃ a cap, v = .slice a ts.length cap := by
  rcases h.2 with ⟨a, cap, rfl, rfl⟩ | ⟨b, off, cap, rfl, _⟩
  · exact ⟨a, cap, rfl⟩
  · exact ⟨_, cap, rfl⟩
theorem acts_len {w : World} {v : Value} {l : List ActM} (h : Acts w v l) : ∃ a cap, v = .slice a l.length cap := by
  obtain ⟨ts, rfl, ht⟩ := h
  simpa using actsT_len ht
theorem actsT_max {w : World} {v : Value} {ts : List ActT} (h : ActsT w v ts) : ts.length ≤ 9223372036854775807 := by
  rcases h.2 with ⟨a, cap, rfl, rfl⟩ | ⟨b, off, cap, rfl, _, h2, h3, _⟩
  · simp
  · unfold maxLen at h3; omega
theorem acts_max {w : World} {v : Value} {l : List ActM} (h : Acts w v l) : l.length ≤ 9223372036854775807 := by
  obtain ⟨ts, rfl, ht⟩ := h
  simpa using actsT_max ht
theorem acts_empty (w : World) (a : Option Addr) (cap : Nat) : Acts w (.slice a 0 cap) [] := ⟨[], rfl, ⟨(fun t ht => by cases ht), .inl ⟨a, cap, rfl, rfl⟩⟩⟩
theorem getD_mem {ts : List ActT} {i : Nat} (h : i < ts.length) : ts.getD i t0 ∈ ts := by simp [List.getD, h]
theorem getD_map {ts : List ActT} {i : Nat} (h : i < ts.length) : (ts.map ActT.a).getD i act0 = (ts.getD i t0).a := by simp [List.getD, h]

theorem va_length (l : List ActT) : (va l).length = l.length * 11 := by
  induction l with
  | nil => rfl
  | cons u l ih => simp only [va, List.flatMap_cons, List.length_append, List.length_cons] at ih ⊢; rw [ih]; simp [ActT.cells]; omega
theorem va_append (l m : List ActT) : va (l ++ m) = va l ++ va m := by simp [va]
theorem va_at (l : List ActT) (i j : Nat) (h : i < l.length) (hj : j < 11) : (va l)[i * 11 + j]? = (l.getD i t0).cells[j]? := by
  induction l generalizing i with
  | nil => simp at h
  | cons u l ih =>
    cases i with
    | zero =>
      have e : (va (u :: l)) = u.cells ++ va l := rfl
      rw [e, Nat.zero_mul, Nat.zero_add, List.getElem?_append_left (by simpa [ActT.cells] using hj)]
      rfl
    | succ i =>
      have := ih i (by simpa using h)
      simp only [List.getD_cons_succ]
      have e : (va (u :: l)) = u.cells ++ va l := rfl
      rw [e, List.getElem?_append_right (by simp [ActT.cells]; omega), ← this]
      congr 1
      simp [ActT.cells]; omega
theorem row_actAt {w : World} {g e n cap : Nat} {l : List ActT} (h : w.ownsRow g e 11 (.slice (some ⟨g, 0, none⟩) n cap) n (va l)) (k : Nat) (hl : l.length = n) (hk : k < n) : ActAt w g (k * 11) (l.getD k t0) := by
  have key : ∀ j, j < 11 → w.cell? ⟨g, k * 11 + j, none⟩ = (l.getD k t0).cells[j]? := fun j hj => (h.cellAt _ (by omega)).trans (va_at l k j (by omega) hj)
  exact ⟨key 0 (by omega), key 1 (by omega), key 2 (by omega), key 3 (by omega), key 4 (by omega), key 5 (by omega), key 6 (by omega), key 7 (by omega), key 8 (by omega), key 9 (by omega), key 10 (by omega)⟩

theorem row_less {w : World} {K lo e size n : Nat} {v : Value} {xs : List Value} (h : w.ownsRow K e size v n xs) (hl : lo ≤ K) : w.ownsRow lo e size v n xs := by
  refine ⟨h.1, ?_⟩
  rcases h.2 with h2 | ⟨g, cap, cur, hv, hg, hh, r⟩
  · exact .inl h2
  · exact .inr ⟨g, cap, cur, hv, by omega, hh, r⟩
theorem ups_of_row {w : World} {lo : Nat} {v : Value} {us : List UpM} (h : w.ownsRow lo 37 4 v us.length (vu us)) : Ups w v us := by
  rcases h.2 with ⟨rfl, h0⟩ | ⟨g, cap, cur, rfl, _⟩
  · exact .inl ⟨_, _, rfl, List.eq_nil_of_length_eq_zero h0⟩
  · exact ups_own rfl h
/-- the lists of an act lie in rows of their own, in blocks from lo on -/
def ActT.Owns (w : World) (lo : Nat) (t : ActT) : Prop := (∃ g, lo ≤ g ∧ Own w g t.vd t.a.dep) ∧ w.ownsRow lo 37 4 t.vs t.a.ups.length (vu t.a.ups)
theorem ActT.Owns.reads {w : World} {lo : Nat} {t : ActT} (h : t.Owns w lo) : t.Reads w := by
  obtain ⟨⟨g, _, hg⟩, hk⟩ := h
  exact ⟨own_ints hg, ups_of_row hk⟩
/-- a block of cells of type e -/
def OfType (w : World) (g : Nat) (e : TypeId) : Prop := ∃ cs cur, w.heap[g]? = some (.cells cs e cur)
theorem row_type {w : World} {B e size g n cap n' : Nat} {xs : List Value} (h : w.ownsRow B e size (.slice (some ⟨g, 0, none⟩) n cap) n' xs) : OfType w g e := by
  obtain ⟨h1, h2⟩ := h
  rcases h2 with ⟨h', _⟩ | ⟨g', cap', cur, h', hbg, hg, r⟩
  · simp at h'
  · simp only [Value.slice.injEq, Option.some.injEq, Addr.mk.injEq, and_true] at h'
    obtain ⟨rfl, _⟩ := h'
    exact ⟨cur, _, hg⟩
theorem type_ne {w : World} {g g' : Nat} {e e' : TypeId} (h : OfType w g e) (h' : OfType w g' e') (hne : e ≠ e') : g ≠ g' := by
  rintro rfl
  obtain ⟨cs, cur, h⟩ := h
  obtain ⟨cs', cur', h'⟩ := h'
  rw [h] at h'
  injection h' with h'
  injection h' with _ ht
  exact hne ht
/-- what changes is the cursor, or a block of acts -/
def Elsewhere (w : World) (lo : Nat) (r : Option Nat) : Prop := ∀ g, r = some g → g < lo ∨ OfType w g 26
theorem Own.else_ {w w' : World} {lo g : Nat} {r : Option Nat} {v : Value} {xs : List Int} (h : Own w g v xs) (hl : lo ≤ g) (hg : w.grownBy w' r) (hr : Elsewhere w lo r) : Own w' g v xs := by
  refine h.block fun hp => hg.block g (own_lt h hp) fun e => ?_
  rcases hr g e.symm with h1 | h1
  · omega
  · rcases h with ⟨a, cap, rfl, rfl⟩ | ⟨hp, cap, rfl, ho⟩
    · simp at hp
    · exact type_ne (row_type ho) h1 (by decide) rfl
theorem row_keep {w w' : World} {lo e size n : Nat} {v : Value} {xs : List Value} (h : w.ownsRow lo e size v n xs) (hk : ∀ g, lo ≤ g → g < w.heap.size → OfType w g e → w'.heap[g]? = w.heap[g]?) : w'.ownsRow lo e size v n xs := by
  obtain ⟨h1, h2⟩ := h
  refine ⟨h1, ?_⟩
  rcases h2 with h2 | ⟨g, cap, cur, hv, hg, hh, r⟩
  · exact .inl h2
  · exact .inr ⟨g, cap, cur, hv, hg, (hk g hg (Array.getElem?_eq_some_iff.1 hh).1 ⟨cur, _, hh⟩).trans hh, r⟩
theorem ActT.Owns.else_ {w w' : World} {lo : Nat} {r : Option Nat} {t : ActT} (h : t.Owns w lo) (hg : w.grownBy w' r) (hr : Elsewhere w lo r) : t.Owns w' lo := by
  obtain ⟨⟨g, lg, hd⟩, hk⟩ := h
  refine ⟨⟨g, lg, hd.else_ lg hg hr⟩, row_keep hk fun k lk hs ht => hg.block k hs fun e => ?_⟩
  rcases hr k e.symm with h1 | h1
  · omega
  · exact type_ne ht h1 (by decide) rfl
theorem ActT.Owns.below {w w' : World} {lo : Nat} {t : ActT} (h : t.Owns w lo) (hb : Below w.heap.size w w') : t.Owns w' lo := by
  obtain ⟨⟨g, lg, hd⟩, hk⟩ := h
  exact ⟨⟨g, lg, hd.below hb⟩, row_keep hk fun k _ hl _ => hb.block k hl⟩
theorem ActT.Owns.less {w : World} {lo lo' : Nat} {t : ActT} (h : t.Owns w lo) (hl : lo' ≤ lo) : t.Owns w lo' := by
  obtain ⟨⟨g, lg, hd⟩, hk⟩ := h
  exact ⟨⟨g, by omega, hd⟩, row_less hk hl⟩

/-- v is a slice of acts in a row of its own, from block lo on, and so are their lists -/
def OwnT (w : World) (lo : Nat) (v : Value) (ts : List ActT) : Prop := w.ownsRow lo 26 11 v ts.length (va ts) ∧ ∀ t ∈ ts, t.Owns w lo
def OwnActs (w : World) (lo : Nat) (v : Value) (l : List ActM) : Prop := ∃ ts : List ActT, l = ts.map ActT.a ∧ OwnT w lo v ts
theorem ownT_acts {w : World} {lo : Nat} {v : Value} {ts : List ActT} (h : OwnT w lo v ts) : ActsT w v ts := by
  refine ⟨fun t ht => (h.2 t ht).reads, ?_⟩
  rcases h.1.2 with ⟨rfl, hx⟩ | ⟨g, cap, cur, rfl, hbg, hg, hx, hy, _⟩
  · have : ts = [] := List.eq_nil_of_length_eq_zero hx
    subst this
    exact .inl ⟨_, _, rfl, rfl⟩
  · have hown := (own_at h.1).1
    exact .inr ⟨g, 0, cap, rfl, (Array.getElem?_eq_some_iff.1 hg).1, hx, hy, fun i hi => by rw [Nat.zero_add]; exact row_actAt hown i rfl hi⟩
theorem ownActs_acts {w : World} {lo : Nat} {v : Value} {l : List ActM} (h : OwnActs w lo v l) : Acts w v l := by
  obtain ⟨ts, hl, ht⟩ := h
  exact ⟨ts, hl, ownT_acts ht⟩
theorem OwnT.below {w w' : World} {lo : Nat} {v : Value} {ts : List ActT} (h : OwnT w lo v ts) (hb : Below w.heap.size w w') : OwnT w' lo v ts :=
  ⟨row_keep h.1 fun g _ hl _ => hb.block g hl, fun t ht => (h.2 t ht).below hb⟩
theorem OwnT.cur {w w' : World} {lo B : Nat} {v : Value} {ts : List ActT} (h : OwnT w lo v ts) (hg : w.grownBy w' (some B)) (hB : B < lo) : OwnT w' lo v ts :=
  ⟨row_keep h.1 fun g hl hs _ => hg.block g hs (fun e => by injection e; omega), fun t ht => (h.2 t ht).else_ hg (fun g e => .inl (by injection e; omega))⟩
theorem OwnActs.below {w w' : World} {lo : Nat} {v : Value} {l : List ActM} (h : OwnActs w lo v l) (hb : Below w.heap.size w w') : OwnActs w' lo v l := by
  obtain ⟨ts, hl, ht⟩ := h
  exact ⟨ts, hl, ht.below hb⟩
theorem OwnActs.cur {w w' : World} {lo B : Nat} {v : Value} {l : List ActM} (h : OwnActs w lo v l) (hg : w.grownBy w' (some B)) (hB : B < lo) : OwnActs w' lo v l := by
  obtain ⟨ts, hl, ht⟩ := h
  exact ⟨ts, hl, ht.cur hg hB⟩
theorem OwnActs.less {w : World} {lo lo' : Nat} {v : Value} {l : List ActM} (h : OwnActs w lo v l) (hl : lo' ≤ lo) : OwnActs w lo' v l := by
  obtain ⟨ts, hl', ht⟩ := h
  refine ⟨ts, hl', ⟨ht.1.1, ?_⟩, fun t hh => (ht.2 t hh).less hl⟩
  rcases ht.1.2 with h2 | ⟨g, cap, cur, hv, hg, hh, r⟩
  · exact .inl h2
  · exact .inr ⟨g, cap, cur, hv, by omega, hh, r⟩
theorem ownActs_nil (w : World) (lo : Nat) : OwnActs w lo (.slice none 0 0) [] := ⟨[], rfl, ⟨⟨rfl, .inl ⟨rfl, rfl⟩⟩, (fun t ht => by cases ht)⟩⟩
end Go.Proofs.Ytcgncaiehdcooaa
