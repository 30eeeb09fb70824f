/- Slices of acts in memory: what one reads as (Acts), what one owns (OwnActs). The reference's l3find, l3clock. append of whatever slice reads; the reference's l2own. The reference's l2own. The reference's l3own. The reference's l3put. -/
import Derived.Test.YtghgiefciijoeaaGreatDoorMB
import Derived.Maps.AppendAt
import Derived.Deep.DeepCutAuto
import Derived.StillTailTactics

namespace Go.Proofs.YtghgiefciijoeaaGreatDoor
open Go.RowKit
set_option linter.unusedVariables false
theorem Tryz.infoAct : (Tryz.prog.info? 32).map (fun i => (i.zero, i.size, i.bytes)) = some (some (.agg #[.int .i64 0, .int .i64 0, .slice none 0 0, .int .i64 0, .int .i64 0, .int .i64 0, .int .i64 0, .int .i64 0, .int .i64 0, .int .i64 0, .slice none 0 0]), 11, 120) := by kernel_rfl
def act0 : ActM := ⟨0, 0, [], 0, 0, 0, 0, 0, 0, 0, []⟩
structure ActT where
 a : ActM
 vd : Value
 vs : Value
def t0 : ActT := ⟨act0, .bool false, .bool false⟩
def ActT.cells (t : ActT) : List Value := [.int .i64 t.a.r, .int .i64 t.a.n, t.vd, .int .i64 t.a.actor, .int .i64 t.a.kind, .int .i64 t.a.to, .int .i64 t.a.bucket, .int .i64 t.a.mask, .int .i64 t.a.gr, .int .i64 t.a.gn, t.vs]
def va (l : List ActT) : List Value := l.flatMap ActT.cells
structure ActAt (w : World) (b o : Nat) (t : ActT) : Prop where
 c0 : w.cell? ⟨b, o, none⟩ = some (.int .i64 t.a.r)
 c1 : w.cell? ⟨b, o + 1, none⟩ = some (.int .i64 t.a.n)
 c2 : w.cell? ⟨b, o + 2, none⟩ = some t.vd
 c3 : w.cell? ⟨b, o + 3, none⟩ = some (.int .i64 t.a.actor)
 c4 : w.cell? ⟨b, o + 4, none⟩ = some (.int .i64 t.a.kind)
 c5 : w.cell? ⟨b, o + 5, none⟩ = some (.int .i64 t.a.to)
 c6 : w.cell? ⟨b, o + 6, none⟩ = some (.int .i64 t.a.bucket)
 c7 : w.cell? ⟨b, o + 7, none⟩ = some (.int .i64 t.a.mask)
 c8 : w.cell? ⟨b, o + 8, none⟩ = some (.int .i64 t.a.gr)
 c9 : w.cell? ⟨b, o + 9, none⟩ = some (.int .i64 t.a.gn)
 c10 : w.cell? ⟨b, o + 10, none⟩ = some t.vs
theorem ActAt.same {w w' : World} {b o : Nat} {t : ActT} (h : ActAt w b o t) (k : ∀ j, w'.cell? ⟨b, j, none⟩ = w.cell? ⟨b, j, none⟩) : ActAt w' b o t :=
 ⟨(k _).trans h.c0, (k _).trans h.c1, (k _).trans h.c2, (k _).trans h.c3, (k _).trans h.c4, (k _).trans h.c5, (k _).trans h.c6, (k _).trans h.c7, (k _).trans h.c8, (k _).trans h.c9, (k _).trans h.c10⟩
theorem ActAt.below {w w' : World} {B b o : Nat} {t : ActT} (h : ActAt w b o t) (hb : Below B w w') (hl : b < B) : ActAt w' b o t :=
 h.same fun j => hb.cell (p := ⟨b, j, none⟩) hl
def ActT.val (t : ActT) : Value := .agg #[.int .i64 t.a.r, .int .i64 t.a.n, t.vd, .int .i64 t.a.actor, .int .i64 t.a.kind, .int .i64 t.a.to, .int .i64 t.a.bucket, .int .i64 t.a.mask, .int .i64 t.a.gr, .int .i64 t.a.gn, t.vs]
def ActT.Reads (w : World) (t : ActT) : Prop := Ints w t.vd t.a.dep ∧ Ups w t.vs t.a.ups
theorem ActT.Reads.below {w w' : World} {t : ActT} (h : t.Reads w) (hb : Below w.heap.size w w') : t.Reads w' := ⟨h.1.below (B := 0) hb, h.2.below hb⟩
theorem ActT.Reads.is {w : World} {t : ActT} (h : t.Reads w) : ActIs w t.val t.a := ⟨t.vd, t.vs, rfl, h.1, h.2⟩
def ActsT (w : World) (v : Value) (ts : List ActT) : Prop :=
 (∀ t ∈ ts, t.Reads w) ∧ ((∃ a cap, v = .slice a 0 cap ∧ ts = []) ∨
 ∃ b off cap, v = .slice (some ⟨b, off, none⟩) ts.length cap ∧ b < w.heap.size ∧ ts.length ≤ cap ∧ cap ≤ maxLen ∧ ∀ i, i < ts.length → ActAt w b (off + i * 11) (ts.getD i t0))
def Acts (w : World) (v : Value) (l : List ActM) : Prop := ∃ ts : List ActT, l = ts.map ActT.a ∧ ActsT w v ts
theorem ActsT.below {w w' : World} {v : Value} {ts : List ActT} (h : ActsT w v ts) (hb : Below w.heap.size w w') : ActsT w' v ts := by
 refine ⟨fun t ht => (h.1 t ht).below hb, ?_⟩
 rcases h.2 with h | ⟨b, off, cap, rfl, h1, h2, h3, h4⟩
 ·exact .inl h
 ·exact .inr ⟨b, off, cap, rfl, Nat.lt_of_lt_of_le h1 hb.size, h2, h3, fun i hi => (h4 i hi).below hb h1⟩
theorem Acts.below {w w' : World} {v : Value} {l : List ActM} (h : Acts w v l) (hb : Below w.heap.size w w') : Acts w' v l := by
 obtain ⟨ts, hl, ht⟩ := h
 exact ⟨ts, hl, ht.below hb⟩
theorem actsT_drewN {w : World} {v : Value} {ts : List ActT} (h : ActsT w v ts) (n : Nat) : ActsT (w.drewN n) v ts := h.below (below_drewN (Below.refl _ _) n)
theorem acts_drewN {w : World} {v : Value} {l : List ActM} (h : Acts w v l) (n : Nat) : Acts (w.drewN n) v l := h.below (below_drewN (Below.refl _ _) n)
theorem actsT_len {w : World} {v : Value} {ts : List ActT} (h : ActsT w v ts) : ∃ a cap, v = .slice a ts.length cap := by
 rcases h.2 with ⟨a, cap, rfl, rfl⟩ | ⟨b, off, cap, rfl, _⟩
 ·exact ⟨a, cap, rfl⟩
 ·exact ⟨_, cap, rfl⟩
theorem acts_len {w : World} {v : Value} {l : List ActM} (h : Acts w v l) : ∃ a cap, v = .slice a l.length cap := by
 obtain ⟨ts, rfl, ht⟩ := h
 simpa using actsT_len ht
theorem actsT_max {w : World} {v : Value} {ts : List ActT} (h : ActsT w v ts) : ts.length ≤ 9223372036854775807 := by
 rcases h.2 with ⟨a, cap, rfl, rfl⟩ | ⟨b, off, cap, rfl, _, h2, h3, _⟩
 ·simp
 ·unfold maxLen at h3; omega
theorem acts_max {w : World} {v : Value} {l : List ActM} (h : Acts w v l) : l.length ≤ 9223372036854775807 := by
 obtain ⟨ts, rfl, ht⟩ := h
 simpa using actsT_max ht
theorem acts_empty (w : World) (a : Option Addr) (cap : Nat) : Acts w (.slice a 0 cap) [] := ⟨[], rfl, ⟨(fun t ht => by cases ht), .inl ⟨a, cap, rfl, rfl⟩⟩⟩
theorem getD_mem {ts : List ActT} {i : Nat} (h : i < ts.length) : ts.getD i t0 ∈ ts := by simp [List.getD, h]
theorem getD_map {ts : List ActT} {i : Nat} (h : i < ts.length) : (ts.map ActT.a).getD i act0 = (ts.getD i t0).a := by simp [List.getD, h]
theorem va_length (l : List ActT) : (va l).length = l.length * 11 := by
 induction l with
 | nil => rfl
 | cons u l ih => simp only [va, List.flatMap_cons, List.length_append, List.length_cons] at ih ⊢; rw [ih]; simp [ActT.cells]; omega
theorem va_append (l m : List ActT) : va (l ++ m) = va l ++ va m := by simp [va]
theorem va_at (l : List ActT) (i j : Nat) (h : i < l.length) (hj : j < 11) : (va l)[i * 11 + j]? = (l.getD i t0).cells[j]? := by
 induction l generalizing i with
 | nil => simp at h
 | cons u l ih =>
  cases i with
  | zero =>
   have e : (va (u :: l)) = u.cells ++ va l := rfl
   rw [e, Nat.zero_mul, Nat.zero_add, List.getElem?_append_left (by simpa [ActT.cells] using hj)]
   rfl
  | succ i =>
   have := ih i (by simpa using h)
   simp only [List.getD_cons_succ]
   have e : (va (u :: l)) = u.cells ++ va l := rfl
   rw [e, List.getElem?_append_right (by simp [ActT.cells]; omega), ← this]
   congr 1
   simp [ActT.cells]; omega
theorem row_actAt {w : World} {g e n cap : Nat} {l : List ActT} (h : w.ownsRow g e 11 (.slice (some ⟨g, 0, none⟩) n cap) n (va l)) (k : Nat) (hl : l.length = n) (hk : k < n) : ActAt w g (k * 11) (l.getD k t0) := by
 have key : ∀ j, j < 11 → w.cell? ⟨g, k * 11 + j, none⟩ = (l.getD k t0).cells[j]? := fun j hj => (h.cellAt _ (by omega)).trans (va_at l k j (by omega) hj)
 exact ⟨key 0 (by omega), key 1 (by omega), key 2 (by omega), key 3 (by omega), key 4 (by omega), key 5 (by omega), key 6 (by omega), key 7 (by omega), key 8 (by omega), key 9 (by omega), key 10 (by omega)⟩
theorem row_less {w : World} {K lo e size n : Nat} {v : Value} {xs : List Value} (h : w.ownsRow K e size v n xs) (hl : lo ≤ K) : w.ownsRow lo e size v n xs := by
 refine ⟨h.1, ?_⟩
 rcases h.2 with h2 | ⟨g, cap, cur, hv, hg, hh, r⟩
 ·exact .inl h2
 ·exact .inr ⟨g, cap, cur, hv, by omega, hh, r⟩
theorem ups_of_row {w : World} {lo : Nat} {v : Value} {us : List UpM} (h : w.ownsRow lo 116 4 v us.length (vu us)) : Ups w v us := by
 rcases h.2 with ⟨rfl, h0⟩ | ⟨g, cap, cur, rfl, _⟩
 ·exact .inl ⟨_, _, rfl, List.eq_nil_of_length_eq_zero h0⟩
 ·exact ups_own rfl h
def ActT.Owns (w : World) (lo : Nat) (t : ActT) : Prop := (∃ g, lo ≤ g ∧ Own w g t.vd t.a.dep) ∧ w.ownsRow lo 116 4 t.vs t.a.ups.length (vu t.a.ups)
theorem ActT.Owns.reads {w : World} {lo : Nat} {t : ActT} (h : t.Owns w lo) : t.Reads w := by
 obtain ⟨⟨g, _, hg⟩, hk⟩ := h
 exact ⟨own_ints hg, ups_of_row hk⟩
def OfType (w : World) (g : Nat) (e : TypeId) : Prop := ∃ cs cur, w.heap[g]? = some (.cells cs e cur)
theorem row_type {w : World} {B e size g n cap n' : Nat} {xs : List Value} (h : w.ownsRow B e size (.slice (some ⟨g, 0, none⟩) n cap) n' xs) : OfType w g e := by
 obtain ⟨h1, h2⟩ := h
 rcases h2 with ⟨h', _⟩ | ⟨g', cap', cur, h', hbg, hg, r⟩
 ·simp at h'
 ·simp only [Value.slice.injEq, Option.some.injEq, Addr.mk.injEq, and_true] at h'
  obtain ⟨rfl, _⟩ := h'
  exact ⟨cur, _, hg⟩
theorem type_ne {w : World} {g g' : Nat} {e e' : TypeId} (h : OfType w g e) (h' : OfType w g' e') (hne : e ≠ e') : g ≠ g' := by
 rintro rfl
 obtain ⟨cs, cur, h⟩ := h
 obtain ⟨cs', cur', h'⟩ := h'
 rw [h] at h'
 injection h' with h'
 injection h' with _ ht
 exact hne ht
def Elsewhere (w : World) (lo : Nat) (r : Option Nat) : Prop := ∀ g, r = some g → g < lo ∨ OfType w g 32
theorem Own.else_ {w w' : World} {lo g : Nat} {r : Option Nat} {v : Value} {xs : List Int} (h : Own w g v xs) (hl : lo ≤ g) (hg : w.grownBy w' r) (hr : Elsewhere w lo r) : Own w' g v xs := by
 refine h.block fun hp => hg.block g (own_lt h hp) fun e => ?_
 rcases hr g e.symm with h1 | h1
 ·omega
 ·rcases h with ⟨a, cap, rfl, rfl⟩ | ⟨hp, cap, rfl, ho⟩
  ·simp at hp
  ·exact type_ne (row_type ho) h1 (by decide) rfl
theorem row_keep {w w' : World} {lo e size n : Nat} {v : Value} {xs : List Value} (h : w.ownsRow lo e size v n xs) (hk : ∀ g, lo ≤ g → g < w.heap.size → OfType w g e → w'.heap[g]? = w.heap[g]?) : w'.ownsRow lo e size v n xs := by
 obtain ⟨h1, h2⟩ := h
 refine ⟨h1, ?_⟩
 rcases h2 with h2 | ⟨g, cap, cur, hv, hg, hh, r⟩
 ·exact .inl h2
 ·exact .inr ⟨g, cap, cur, hv, hg, (hk g hg (Array.getElem?_eq_some_iff.1 hh).1 ⟨cur, _, hh⟩).trans hh, r⟩
theorem ActT.Owns.else_ {w w' : World} {lo : Nat} {r : Option Nat} {t : ActT} (h : t.Owns w lo) (hg : w.grownBy w' r) (hr : Elsewhere w lo r) : t.Owns w' lo := by
 obtain ⟨⟨g, lg, hd⟩, hk⟩ := h
 refine ⟨⟨g, lg, hd.else_ lg hg hr⟩, row_keep hk fun k lk hs ht => hg.block k hs fun e => ?_⟩
 rcases hr k e.symm with h1 | h1
 ·omega
 ·exact type_ne ht h1 (by decide) rfl
theorem ActT.Owns.below {w w' : World} {lo : Nat} {t : ActT} (h : t.Owns w lo) (hb : Below w.heap.size w w') : t.Owns w' lo := by
 obtain ⟨⟨g, lg, hd⟩, hk⟩ := h
 exact ⟨⟨g, lg, hd.below hb⟩, row_keep hk fun k _ hl _ => hb.block k hl⟩
theorem ActT.Owns.less {w : World} {lo lo' : Nat} {t : ActT} (h : t.Owns w lo) (hl : lo' ≤ lo) : t.Owns w lo' := by
 obtain ⟨⟨g, lg, hd⟩, hk⟩ := h
 exact ⟨⟨g, by omega, hd⟩, row_less hk hl⟩
def OwnT (w : World) (lo : Nat) (v : Value) (ts : List ActT) : Prop := w.ownsRow lo 32 11 v ts.length (va ts) ∧ ∀ t ∈ ts, t.Owns w lo
def OwnActs (w : World) (lo : Nat) (v : Value) (l : List ActM) : Prop := ∃ ts : List ActT, l = ts.map ActT.a ∧ OwnT w lo v ts
theorem ownT_acts {w : World} {lo : Nat} {v : Value} {ts : List ActT} (h : OwnT w lo v ts) : ActsT w v ts := by
 refine ⟨fun t ht => (h.2 t ht).reads, ?_⟩
 rcases h.1.2 with ⟨rfl, hx⟩ | ⟨g, cap, cur, rfl, hbg, hg, hx, hy, _⟩
 ·have : ts = [] := List.eq_nil_of_length_eq_zero hx
  subst this
  exact .inl ⟨_, _, rfl, rfl⟩
 ·have hown := (own_at h.1).1
  exact .inr ⟨g, 0, cap, rfl, (Array.getElem?_eq_some_iff.1 hg).1, hx, hy, fun i hi => by rw [Nat.zero_add]; exact row_actAt hown i rfl hi⟩
theorem ownActs_acts {w : World} {lo : Nat} {v : Value} {l : List ActM} (h : OwnActs w lo v l) : Acts w v l := by
 obtain ⟨ts, hl, ht⟩ := h
 exact ⟨ts, hl, ownT_acts ht⟩
theorem OwnT.below {w w' : World} {lo : Nat} {v : Value} {ts : List ActT} (h : OwnT w lo v ts) (hb : Below w.heap.size w w') : OwnT w' lo v ts :=
 ⟨row_keep h.1 fun g _ hl _ => hb.block g hl, fun t ht => (h.2 t ht).below hb⟩
theorem OwnT.cur {w w' : World} {lo B : Nat} {v : Value} {ts : List ActT} (h : OwnT w lo v ts) (hg : w.grownBy w' (some B)) (hB : B < lo) : OwnT w' lo v ts :=
 ⟨row_keep h.1 fun g hl hs _ => hg.block g hs (fun e => by injection e; omega), fun t ht => (h.2 t ht).else_ hg (fun g e => .inl (by injection e; omega))⟩
theorem OwnActs.below {w w' : World} {lo : Nat} {v : Value} {l : List ActM} (h : OwnActs w lo v l) (hb : Below w.heap.size w w') : OwnActs w' lo v l := by
 obtain ⟨ts, hl, ht⟩ := h
 exact ⟨ts, hl, ht.below hb⟩
theorem OwnActs.cur {w w' : World} {lo B : Nat} {v : Value} {l : List ActM} (h : OwnActs w lo v l) (hg : w.grownBy w' (some B)) (hB : B < lo) : OwnActs w' lo v l := by
 obtain ⟨ts, hl, ht⟩ := h
 exact ⟨ts, hl, ht.cur hg hB⟩
theorem OwnActs.less {w : World} {lo lo' : Nat} {v : Value} {l : List ActM} (h : OwnActs w lo v l) (hl : lo' ≤ lo) : OwnActs w lo' v l := by
 obtain ⟨ts, hl', ht⟩ := h
 refine ⟨ts, hl', ⟨ht.1.1, ?_⟩, fun t hh => (ht.2 t hh).less hl⟩
 rcases ht.1.2 with h2 | ⟨g, cap, cur, hv, hg, hh, r⟩
 ·exact .inl h2
 ·exact .inr ⟨g, cap, cur, hv, by omega, hh, r⟩
theorem ownActs_nil (w : World) (lo : Nat) : OwnActs w lo (.slice none 0 0) [] := ⟨[], rfl, ⟨⟨rfl, .inl ⟨rfl, rfl⟩⟩, (fun t ht => by cases ht)⟩⟩
end Go.Proofs.YtghgiefciijoeaaGreatDoor
namespace Go.Proofs.YtghgiefciijoeaaGreatDoor
open Go.RowKit
set_option linter.unusedVariables false
theorem drop_acts {l : List ActM} {k : Nat} (h : k < l.length) : l.drop k = l.getD k act0 :: l.drop (k + 1) := by
 rw [List.drop_eq_getElem_cons h]; simp [List.getD, h]
theorem drop_end {α : Type} {l : List α} {k : Nat} (h : l.length ≤ k) : l.drop k = [] := List.drop_eq_nil_of_le h
theorem drop_ts {ts : List ActT} {k : Nat} (h : k < ts.length) : (ts.map ActT.a).drop k = (ts.getD k t0).a :: (ts.map ActT.a).drop (k + 1) := by
 rw [drop_acts (by simpa using h), getD_map h]
def findFrom (r n : Int) : List ActM → Nat → Int
 | [], _ => -1
 | a :: l, i => if a.r = r ∧ a.n = n then i else findFrom r n l (i + 1)
def findM (l : List ActM) (r n : Int) : Int := findFrom r n l 0
set_option maxHeartbeats 800000 in
theorem find_some (b off cap len : Nat) (ts : List ActT) (r n : Int) (w : World) (h1 : ts.length = len) (hl : len ≤ 9223372036854775807)
  (hc : ∀ i, i < len → ActAt w b (off + i * 11) (ts.getD i t0)) :
  Calls Tryz.prog 57 #[.slice (some ⟨b, off, none⟩) len cap, .int .i64 r, .int .i64 n] w fun e w' => e = .returned (.int .i64 (findM (ts.map ActT.a) r n)) ∧ w' = w := by
 have N1 := Lib.hid h1
 have HC := Lib.hid hc
 obtain ⟨R, hR⟩ : ∃ R, R = findM (ts.map ActT.a) r n := ⟨_, rfl⟩
 rw [← hR]
 have HR := Lib.hid hR
 clear h1 hc hR
 go_enter Tryz.func57, Tryz.ntmps57
 go_wp2
 go_loop [7] (fun i => ∃ k : Nat, k ≤ len ∧ i = .int .i64 k ∧ Hid (R = findFrom r n ((ts.map ActT.a).drop k) k)) (fun i => len - (intOf i).toNat)
 case atStart => exact ⟨0, Nat.zero_le _, rfl, HR.out⟩
 case round =>
  obtain ⟨k, hk, rfl, hg⟩ := hrel
  by_cases hlt : k < len
  ·have at_ := HC.out k hlt
   have c0 := at_.c0
   have c1 := at_.c1
   have hst := hg.out
   rw [drop_ts (by rw [N1.out]; exact hlt), findFrom] at hst
   generalize ts.getD k t0 = t at *
   obtain ⟨⟨x0, x1, dep, x3, x4, x5, x6, x7, x8, x9, ups⟩, vd, vs⟩ := t
   simp only at c0 c1 hst
   clear at_ hg
   by_cases e0 : x0 = r
   ·subst e0
    by_cases e1 : x1 = n
    ·subst e1
     rw [if_pos ⟨rfl, rfl⟩] at hst
     have HST := Lib.hid hst
     clear hst
     go_wp2
     go_ret
     exact ⟨ret_int HST.out.symm, rfl⟩
    ·rw [if_neg (fun h => e1 h.2)] at hst
     have HST := Lib.hid hst
     have e2 : (x1 == n) = false := by simpa using e1
     clear hst e1
     go_wp2
     go_round
     case rel => exact ⟨k + 1, by omega, by go_num, HST.out⟩
     case measure => simp [intOf]; omega
   ·rw [if_neg (fun h => e0 h.1)] at hst
    have HST := Lib.hid hst
    have e2 : (x0 == r) = false := by simpa using e0
    clear hst e0
    go_wp2
    go_round
    case rel => exact ⟨k + 1, by omega, by go_num, HST.out⟩
    case measure => simp [intOf]; omega
  ·have HST := Lib.hid (show R = -1 by rw [hg.out, drop_end (by simp; rw [N1.out]; omega)]; rfl)
   clear hg
   go_wp2
   go_ret
   exact ⟨ret_int HST.out.symm, rfl⟩
theorem find_nil (a : Option Addr) (cap : Nat) (r n : Int) (w : World) :
  Calls Tryz.prog 57 #[.slice a 0 cap, .int .i64 r, .int .i64 n] w fun e w' => e = .returned (.int .i64 (findM [] r n)) ∧ w' = w := by
 go_enter Tryz.func57, Tryz.ntmps57
 go_wp2
 go_loop [7] (fun i => i = .int .i64 0) (fun _ => 0)
 case atStart => rfl
 case round =>
  obtain rfl := hrel
  go_wp2
  go_ret
  exact ⟨rfl, rfl⟩
theorem find_any (v : Value) (l : List ActM) (r n : Int) (w : World) (h : Acts w v l) :
  Calls Tryz.prog 57 #[v, .int .i64 r, .int .i64 n] w fun e w' => e = .returned (.int .i64 (findM l r n)) ∧ w' = w := by
 obtain ⟨ts, rfl, ht⟩ := h
 have hm := actsT_max ht
 rcases ht.2 with ⟨a, cap, rfl, rfl⟩ | ⟨b, off, cap, rfl, h1, h2, h3, h4⟩
 ·exact find_nil _ _ _ _ w
 ·exact find_some b off cap _ ts r n w rfl hm h4
def clockFrom : List ActM → List Int → List Int
 | [], v => v
 | a :: l, v => clockFrom l (v.set a.r.toNat (v.getD a.r.toNat 0 + 1))
def clockM (l : List ActM) (n : Nat) : List Int := clockFrom l (List.replicate n 0)
theorem clockFrom_length (l : List ActM) (v : List Int) : (clockFrom l v).length = v.length := by
 induction l generalizing v with
 | nil => rfl
 | cons a l ih => rw [clockFrom, ih]; simp
theorem vi_set (v : List Int) (i : Nat) (x : Int) : (vi v).set i (.int .i64 x) = vi (v.set i x) := by
 simp [vi, List.map_set]
theorem vi_getD (v : List Int) (i : Nat) (h : i < v.length) : (vi v)[i]? = some (.int .i64 (v.getD i 0)) := by
 simp [vi, List.getD, h]
set_option maxHeartbeats 1600000 in
theorem l3clock_some (b off cap len n : Nat) (ts : List ActT) (w : World) (h1 : ts.length = len) (hl : len ≤ 9223372036854775807) (hn : n ≤ 4) (hb : b < w.heap.size)
  (hr : ∀ i, i < len → 0 ≤ (ts.getD i t0).a.r ∧ (ts.getD i t0).a.r < n)
  (hc : ∀ i, i < len → ActAt w b (off + i * 11) (ts.getD i t0)) :
  Calls Tryz.prog 124 #[.slice (some ⟨b, off, none⟩) len cap, .int .i64 n] w fun e w' =>
   e = .returned (.slice (some ⟨w.heap.size, 0, none⟩) n n) ∧ w'.ownsRow w.heap.size 3 1 (.slice (some ⟨w.heap.size, 0, none⟩) n n) n (vi (clockM (ts.map ActT.a) n)) ∧ Below w.heap.size w w' := by
 obtain ⟨i0, hi, hz0, hz1, hz2⟩ := info_parts Tryz.info3
 have hmk : (Instr.makeSlice 29 (.int .i64 (n : Int)) (.int .i64 (n : Int))).run Tryz.prog w = .ok (.slice (some ⟨w.heap.size, 0, none⟩) n n) (w.alloc (.cells ((List.replicate n (0:Int)).map (Value.int .i64)).toArray 3)) := by
  have h := run_make (P := Tryz.prog) w 29 3 i0 (.int .i64 0) Tryz.underlying29 hi hz0 .i64 .i64 n n (by omega) (by omega) (by rw [hz2]; omega) (by omega)
  rw [hz1] at h
  simp only [Int.toNat_natCast] at h
  rw [made] at h
  exact h
 have hown0 : (w.alloc (.cells ((List.replicate n (0:Int)).map (Value.int .i64)).toArray 3)).ownsRow w.heap.size 3 1 (.slice (some ⟨w.heap.size, 0, none⟩) n n) n (vi (List.replicate n 0)) := by
  have := World.ownsRow_lit (size := 1) (e := 3) (base := w.heap.size) w ((List.replicate n (0:Int)).map (Value.int .i64)).toArray n (Nat.le_refl _) (by unfold maxLen; omega) (by simp)
  simpa [vi] using this
 have hbel0 : Below w.heap.size w (w.alloc (.cells ((List.replicate n (0:Int)).map (Value.int .i64)).toArray 3)) := (Below.refl _ _).alloc (Nat.le_refl _) _
 obtain ⟨W0, hW0⟩ : ∃ W0, W0 = (w.alloc (.cells ((List.replicate n (0:Int)).map (Value.int .i64)).toArray 3)) := ⟨_, rfl⟩
 rw [← hW0] at hmk hown0 hbel0
 clear hi hz0 hz1 hz2 i0 hW0
 have N1 := Lib.hid h1
 have HC := Lib.hid hc
 have HRg := Lib.hid hr
 obtain ⟨R, hR⟩ : ∃ R, R = clockM (ts.map ActT.a) n := ⟨_, rfl⟩
 rw [← hR]
 have HR := Lib.hid hR
 clear h1 hc hR hr
 go_enter Tryz.func124, Tryz.ntmps124
 go_wp2
 go_loopw [6] (fun i wr => ∃ (k : Nat) (v : List Int), k ≤ len ∧ i = .int .i64 k ∧ Hid (v.length = n) ∧ Hid (∀ j, 0 ≤ v.getD j 0 ∧ v.getD j 0 ≤ k) ∧ Hid (R = clockFrom ((ts.map ActT.a).drop k) v) ∧ Hid (wr.ownsRow w.heap.size 3 1 (.slice (some ⟨w.heap.size, 0, none⟩) n n) n (vi v)) ∧ Hid (Below w.heap.size w wr)) (fun i _ => len - (intOf i).toNat)
 case atStart => exact ⟨0, List.replicate n 0, Nat.zero_le _, rfl, (by show _ = _; simp), (by intro j; simp [List.getD]; grind), HR.out, hown0, hbel0⟩
 case round =>
  obtain ⟨k, v, hk, rfl, hvl, hv, hg, ho, hbel⟩ := hrel
  clear hmk hown0 hbel0
  by_cases hlt : k < len
  ·have at_ := (HC.out k hlt).below hbel.out hb
   have c0 := at_.c0
   have hst := hg.out
   obtain ⟨r0, r1⟩ := HRg.out k hlt
   rw [drop_ts (by rw [N1.out]; exact hlt), clockFrom] at hst
   generalize ts.getD k t0 = t at *
   obtain ⟨⟨x0, x1, dep, x3, x4, x5, x6, x7, x8, x9, ups⟩, vd, vs⟩ := t
   simp only at c0 hst r0 r1
   clear at_ hg
   obtain ⟨j, rfl⟩ := Int.eq_ofNat_of_zero_le r0
   have hj : j < n := by omega
   have q := (ho.out.cellAt j (by omega)).trans (vi_getD v j (by rw [hvl.out]; exact hj))
   have f := ho.out.frozenAt j
   obtain ⟨y0, y1⟩ := hv.out j
   simp only [Int.toNat_natCast] at hst
   obtain ⟨y, hy⟩ : ∃ y, y = v.getD j 0 := ⟨_, rfl⟩
   rw [← hy] at q hst y0 y1
   have HO := Lib.hid ((ho.out.stored j (.int .i64 (y + 1))).1)
   rw [vi_set] at HO
   have HB := Lib.hid (hbel.out.setCell (p := ⟨w.heap.size, j, none⟩) (Nat.le_refl _) (.int .i64 (y + 1)))
   have HST := Lib.hid hst
   have HY := Lib.hid hy
   clear hst ho hbel hy
   go_wp2
   go_roundw
   case rel => exact ⟨k + 1, v.set j (y + 1), by omega, by go_num, (by show _ = _; simp [hvl.out]), (by
     intro i
     have h0 := hv.out i
     have h1 := hvl.out
     simp only [List.getD, List.getElem?_set] at h0 ⊢
     grind), HST.out, HO.out, HB.out⟩
   case measure => simp [intOf]; omega
  ·have HST := Lib.hid (show R = v by rw [hg.out, drop_end (by simp; rw [N1.out]; omega)]; rfl)
   clear hg
   go_wp2
   go_ret
   exact ⟨rfl, by rw [HST.out]; exact ho.out, hbel.out⟩
end Go.Proofs.YtghgiefciijoeaaGreatDoor
namespace Go.Proofs.YtghgiefciijoeaaGreatDoor
open Go.RowKit
set_option linter.unusedVariables false
def Src (w : World) (size : Nat) (sv : Value) (m : Nat) (news : List Value) : Prop :=
 (∃ a c, sv = .slice a 0 c ∧ m = 0 ∧ news = []) ∨ ∃ ad c, sv = .slice (some ad) m c ∧ news.length = m * size ∧ ∀ j u, news[j]? = some u → w.cell? (ad.add j) = some u
theorem add_flat (b o j : Nat) : (Addr.add ⟨b, o, none⟩ j) = ⟨b, o + j, none⟩ := by
 unfold Addr.add; split
 ·subst j; rfl
 ·rfl
theorem src_ints {w : World} {v : Value} {xs : List Int} (h : Ints w v xs) : Src w 1 v xs.length (vi xs) := by
 rcases h with ⟨a, cap, rfl, rfl⟩ | ⟨b, off, cap, rfl, h1, h2, h3, h4⟩
 ·exact .inl ⟨a, cap, rfl, rfl, rfl⟩
 ·refine .inr ⟨_, cap, rfl, by simp [vi], fun j u hu => ?_⟩
  have hj : j < xs.length := by have := (List.getElem?_eq_some_iff.1 hu).1; simpa [vi] using this
  rw [vi_getD xs j hj] at hu
  rw [add_flat, h4 j hj, hu]
theorem vu_get (l : List UpM) (i j : Nat) (h : i < l.length) (hj : j < 4) : (vu l)[i * 4 + j]? = (upCells (l.getD i up0))[j]? := by
 obtain ⟨q0, q1, q2, q3⟩ := vu_at l i h
 match j, hj with
 | 0, _ => exact q0
 | 1, _ => exact q1
 | 2, _ => exact q2
 | 3, _ => exact q3
theorem src_ups {w : World} {v : Value} {us : List UpM} (h : Ups w v us) : Src w 4 v us.length (vu us) := by
 rcases h with ⟨a, cap, rfl, rfl⟩ | ⟨b, off, cap, rfl, h1, h2, h3, h4⟩
 ·exact .inl ⟨a, cap, rfl, rfl, rfl⟩
 ·refine .inr ⟨_, cap, rfl, vu_length us, fun j u hu => ?_⟩
  have hj : j < us.length * 4 := by have := (List.getElem?_eq_some_iff.1 hu).1; rwa [vu_length] at this
  obtain ⟨i, r, rfl, hr⟩ : ∃ i r, j = i * 4 + r ∧ r < 4 := ⟨j / 4, j % 4, by omega, by omega⟩
  rw [vu_get us i r (by omega) hr] at hu
  obtain ⟨q0, q1, q2, q3⟩ := h4 i (by omega)
  rw [add_flat, ← hu, ← Nat.add_assoc]
  match r, hr with
  | 0, _ => exact q0
  | 1, _ => exact q1
  | 2, _ => exact q2
  | 3, _ => exact q3
theorem src_acts {w : World} {v : Value} {ts : List ActT} (h : ActsT w v ts) : Src w 11 v ts.length (va ts) := by
 rcases h.2 with ⟨a, cap, rfl, rfl⟩ | ⟨b, off, cap, rfl, h1, h2, h3, h4⟩
 ·exact .inl ⟨a, cap, rfl, rfl, rfl⟩
 ·refine .inr ⟨_, cap, rfl, va_length ts, fun j u hu => ?_⟩
  have hj : j < ts.length * 11 := by have := (List.getElem?_eq_some_iff.1 hu).1; rwa [va_length] at this
  obtain ⟨i, r, rfl, hr⟩ : ∃ i r, j = i * 11 + r ∧ r < 11 := ⟨j / 11, j % 11, by omega, by omega⟩
  rw [va_at ts i r (by omega) hr] at hu
  have q := h4 i (by omega)
  rw [add_flat, ← hu, ← Nat.add_assoc]
  match r, hr with
  | 0, _ => exact q.c0
  | 1, _ => exact q.c1
  | 2, _ => exact q.c2
  | 3, _ => exact q.c3
  | 4, _ => exact q.c4
  | 5, _ => exact q.c5
  | 6, _ => exact q.c6
  | 7, _ => exact q.c7
  | 8, _ => exact q.c8
  | 9, _ => exact q.c9
  | 10, _ => exact q.c10
theorem vi_one (xs : List Int) : ∀ u ∈ vi xs, u.oneCell' = true := by
 intro u hu
 simp only [vi, List.mem_map] at hu
 obtain ⟨x, _, rfl⟩ := hu
 rfl
theorem vu_one (us : List UpM) : ∀ u ∈ vu us, u.oneCell' = true := by
 intro u hu
 simp only [vu, List.mem_flatMap, upCells, List.mem_cons, List.not_mem_nil, or_false] at hu
 obtain ⟨x, _, rfl | rfl | rfl | rfl⟩ := hu <;> rfl
theorem ints_one {w : World} {v : Value} {xs : List Int} (h : Ints w v xs) : v.oneCell' = true := by
 obtain ⟨a, c, rfl⟩ := ints_len h; rfl
theorem ups_one {w : World} {v : Value} {us : List UpM} (h : Ups w v us) : v.oneCell' = true := by
 obtain ⟨a, c, rfl⟩ := ups_len h; rfl
theorem va_one {ts : List ActT} (h : ∀ t ∈ ts, t.vd.oneCell' = true ∧ t.vs.oneCell' = true) : ∀ u ∈ va ts, u.oneCell' = true := by
 intro u hu
 simp only [va, List.mem_flatMap, ActT.cells, List.mem_cons, List.not_mem_nil, or_false] at hu
 obtain ⟨x, hx, rfl | rfl | rfl | rfl | rfl | rfl | rfl | rfl | rfl | rfl | rfl⟩ := hu
 all_goals first | rfl | exact (h x hx).1 | exact (h x hx).2
theorem append_none {P : Program} {w : World} (base : Nat) (t ty e : TypeId) (i : TypeInfo) (size : Nat) (ht : P.underlying t = some (.slice e)) (hi : P.info? e = some i) (v : Value) (n : Nat) (xs : List Value)
  (hown : w.ownsRow base e size v n xs) (c : Nat) : (Builtin.append_ #[t, t] ty #[v, .slice none 0 c]).run P w = .ok v w := by
 obtain ⟨_, h⟩ := hown
 rcases h with ⟨hv, hn⟩ | ⟨g, cap, cur, hv, _, _, hle, _⟩
 ·subst hv; simp [Builtin.append_, run_underlying ht, sizeOf, typeInfo, hi, Builtin.lenOf, Builtin.firstCells]
 ·subst hv; simp [Builtin.append_, run_underlying ht, sizeOf, typeInfo, hi, Builtin.lenOf, Builtin.firstCells, hle, storeCells]
theorem wpList_app {P : Program} {w : World} {ops : Array Oper} {rest : List Oper} {o : Oper} {a : Act} {Q : Exit → Act → World → Prop} (hgd : o.guard = none) (s x : Operand) (t : TypeId)
  (ho : o.op = .call { callee := .builtin .append, args := #[s, x], argTypes := #[t, t] })
  (base : Nat) (e : TypeId) (i : TypeInfo) (z : Value) (size bytes : Nat) (ht : P.underlying t = some (.slice e)) (hi : P.info? e = some i) (hz : i.zero = some z)
  (hsize : i.size = size) (hby : i.bytes = bytes) (hzs : z.cells.size = size) (hsz : 0 < size)
  (v sv : Value) (n m : Nat) (xs news : List Value) (hs : a.eval s = v) (hx : a.eval x = sv) (hown : w.ownsRow base e size v n xs) (hsrc : Src w size sv m news) (h1 : ∀ u ∈ news, u.oneCell' = true)
  (h63 : n + m ≤ maxLen) (hbytes : (n + m) * bytes ≤ 140737488355328) (hbase : base ≤ w.heap.size)
  (h : ∀ v' w', w'.ownsRow base e size v' (n + m) (xs ++ news) → w.grownBy w' v.ownBlock → (v'.ownBlock = v.ownBlock ∨ v'.ownBlock = some w.heap.size) → wpList P ops Q rest (a.put o.dst v') w') :
  wpList P ops Q (o :: rest) a w := by
 rcases hsrc with ⟨ad, c, rfl, rfl, rfl⟩ | ⟨ad, c, rfl, hl, hc⟩
 ·rcases ad with _ | ad
  ·refine wpList_plain hgd fun K hK => ?_
   have hrun := append_none (P := P) base t o.type e i size ht hi v n xs hown c
   have h' := h v w (by simpa using hown) (World.grownBy.refl w _) (.inl rfl)
   unfold Oper.wp execOp
   simp only [ho, resolve, invoke, builtin, Sem.run_bind, Sem.run_pure, Result.andThen_ok, List.map_toArray, List.map_cons, List.map_nil, hs, hx, hrun]
   exact hK _ _ h'
  ·exact wpList_append_own_at w hgd s x t ho base e i z size bytes ht hi hz hsize hby hzs hsz v n xs hs hown ad 0 c [] hx (by simp) (by intro j u hu; simp at hu) (by simp) h63 hbytes hbase fun v' w' q1 q2 _ q4 => h v' w' q1 q2 q4
 ·exact wpList_append_own_at w hgd s x t ho base e i z size bytes ht hi hz hsize hby hzs hsz v n xs hs hown ad m c news hx hl hc h1 h63 hbytes hbase fun v' w' q1 q2 _ q4 => h v' w' q1 q2 q4
theorem row_shape {w : World} {K e size n : Nat} {v : Value} {xs : List Value} (h : w.ownsRow K e size v n xs) : ∃ a c, v = .slice a n c := by
 rcases h.2 with ⟨rfl, rfl⟩ | ⟨g, cap, cur, rfl, _⟩
 ·exact ⟨_, _, rfl⟩
 ·exact ⟨_, _, rfl⟩
theorem ownU_of_row {w : World} {K n : Nat} {v : Value} {us : List UpM} (hn : us.length = n) (h : w.ownsRow K 116 4 v n (vu us)) : ∃ g, K ≤ g ∧ OwnU w g v us := by
 subst hn
 rcases h.2 with ⟨rfl, h0⟩ | ⟨g, cap, cur, rfl, hk, hg, r⟩
 ·exact ⟨K, Nat.le_refl _, .inl ⟨_, _, rfl, List.eq_nil_of_length_eq_zero h0⟩⟩
 ·exact ⟨g, hk, ownU_new rfl h⟩
end Go.Proofs.YtghgiefciijoeaaGreatDoor
namespace Go.Proofs.YtghgiefciijoeaaGreatDoor
open Go.RowKit
set_option linter.unusedVariables false
def ActM.Small (a : ActM) : Prop := a.dep.length ≤ 1048576 ∧ a.ups.length ≤ 1048576
def Owned (w : World) (a : ActM) (e : Ending) (w' : World) : Prop := ∃ t : ActT, t.a = a ∧ e = .returned t.val ∧ t.Owns w' w.heap.size ∧ Below w.heap.size w w'
theorem Blk.grown {w w' : World} {B g : Nat} {l : List Value} (h : Blk w B l) (hg : w.grownBy w' (some g)) (hne : B ≠ g) : Blk w' B l :=
 h.same hg.size (hg.block B h.lt (fun e => hne (Option.some.inj e)))
set_option maxHeartbeats 3200000 in
theorem l2own_any (t : ActT) (w : World) (h : t.Reads w) (hs : t.a.Small) : Calls Tryz.prog 95 #[t.val] w (Owned w t.a) := by
 obtain ⟨i0, hi, hz0, hz1, hz2⟩ := info_parts Tryz.info3
 obtain ⟨i1, hj, hy0, hy1, hy2⟩ := info_parts Tryz.infoUp
 obtain ⟨⟨r, n, dep, actor, kind, dst, bucket, mask, gr, gn, ups⟩, vd, vs⟩ := t
 obtain ⟨hd, hu⟩ := h
 obtain ⟨s1, s2⟩ := hs
 simp only at hd hu s1 s2
 show Calls _ _ #[Value.agg #[.int .i64 r, .int .i64 n, vd, .int .i64 actor, .int .i64 kind, .int .i64 dst, .int .i64 bucket, .int .i64 mask, .int .i64 gr, .int .i64 gn, vs]] w (Owned w ⟨r, n, dep, actor, kind, dst, bucket, mask, gr, gn, ups⟩)
 have od := ints_one hd
 have ou := ups_one hu
 have b2 := (((Below.refl w.heap.size w).alloc (Nat.le_refl _) (.cells #[.int .i64 r, .int .i64 n, vd, .int .i64 actor, .int .i64 kind, .int .i64 dst, .int .i64 bucket, .int .i64 mask, .int .i64 gr, .int .i64 gn, vs] 32)).alloc (by simp) (.cells #[.int .i64 0, .int .i64 0, .slice none 0 0, .int .i64 0, .int .i64 0, .int .i64 0, .int .i64 0, .int .i64 0, .int .i64 0, .int .i64 0, .slice none 0 0] 32))
 have k0 := (Blk.new w #[.int .i64 r, .int .i64 n, vd, .int .i64 actor, .int .i64 kind, .int .i64 dst, .int .i64 bucket, .int .i64 mask, .int .i64 gr, .int .i64 gn, vs] 32).alloc (.cells #[.int .i64 0, .int .i64 0, .slice none 0 0, .int .i64 0, .int .i64 0, .int .i64 0, .int .i64 0, .int .i64 0, .int .i64 0, .int .i64 0, .slice none 0 0] 32)
 have k1 := Blk.new (w.alloc (.cells #[.int .i64 r, .int .i64 n, vd, .int .i64 actor, .int .i64 kind, .int .i64 dst, .int .i64 bucket, .int .i64 mask, .int .i64 gr, .int .i64 gn, vs] 32)) #[.int .i64 0, .int .i64 0, .slice none 0 0, .int .i64 0, .int .i64 0, .int .i64 0, .int .i64 0, .int .i64 0, .int .i64 0, .int .i64 0, .slice none 0 0] 32
 simp only [World.size_alloc] at k1
 have B2 := Lib.hid b2
 have K0 := Lib.hid k0
 have K1 := Lib.hid k1
 have HD := Lib.hid hd
 have HU := Lib.hid hu
 have OD := Lib.hid od
 have OU := Lib.hid ou
 clear b2 k0 k1 hd hu od ou
 go_enter Tryz.func95, Tryz.ntmps95
 go_upto_region 1 with (fail)
 obtain ⟨W2, hW2⟩ : ∃ W2, W2 = ((w.alloc (.cells #[.int .i64 r, .int .i64 n, vd, .int .i64 actor, .int .i64 kind, .int .i64 dst, .int .i64 bucket, .int .i64 mask, .int .i64 gr, .int .i64 gn, vs] 32)).alloc (.cells #[.int .i64 0, .int .i64 0, .slice none 0 0, .int .i64 0, .int .i64 0, .int .i64 0, .int .i64 0, .int .i64 0, .int .i64 0, .int .i64 0, .slice none 0 0] 32)) := ⟨_, rfl⟩
 rw [← hW2] at B2 K0 K1 ⊢
 have hsz : W2.heap.size = w.heap.size + 2 := by rw [hW2]; simp
 have HSZ := Lib.hid hsz
 clear hW2 hsz
 have O0 := Lib.hid (World.ownsRow_lit (size := 1) (e := 3) (base := W2.heap.size) W2 #[] 0 (Nat.le_refl _) (by unfold maxLen; omega) rfl)
 have c0 := K0.out.cell
 have l0 := K0.out.lt
 have K0a := Lib.hid (K0.out.alloc (.cells #[] 3))
 have K1a := Lib.hid (K1.out.alloc (.cells #[] 3))
 have B3 := Lib.hid (B2.out.alloc B2.out.size (.cells #[] 3))
 go_wp2_with (at_builtin; refine wpList_app rfl (.tmp 3) (.tmp 5) 29 rfl W2.heap.size 3 i0 (.int .i64 0) 1 8 Tryz.underlying29 hi hz0 hz1 hz2 rfl (by decide) _ vd 0 dep.length [] (vi dep) rfl rfl O0.out (src_ints (HD.out.below (B := 0) B3.out)) (vi_one dep) (by unfold maxLen; omega) (by omega) (by simp) ?_)
 intro v1 w1 hown1 hgrow1 _
 try simp only [Nat.zero_add, List.nil_append] at hown1
 obtain ⟨a1, c1, rfl⟩ := row_shape hown1
 have G1 : (W2.alloc (.cells #[] 3)).grownBy w1 (some W2.heap.size) := hgrow1
 have K0b := Lib.hid (K0a.out.grown G1 (by rw [HSZ.out]; omega))
 have K1b := Lib.hid (K1a.out.grown G1 (by rw [HSZ.out]; omega))
 have B4 := Lib.hid (B3.out.grown G1 B3.out.size (fun k hk => by cases hk; exact B2.out.size))
 obtain ⟨g, hg, hO⟩ := own_of_row rfl hown1
 have HO := Lib.hid hO
 have HG : w.heap.size + 2 ≤ g := by have := HSZ.out; omega
 clear hgrow1 G1 hown1 hO hg c0 l0
 have c2 := K0b.out.cell
 have f2 := K0b.out.free
 go_upto_region 2 with (fail)
 obtain ⟨W4, hW4⟩ : ∃ W4, W4 = w1.setCell ⟨w.heap.size, 2, none⟩ (.slice a1 dep.length c1) := ⟨_, rfl⟩
 have K0c : Hid (Blk W4 w.heap.size [.int .i64 r, .int .i64 n, .slice a1 dep.length c1, .int .i64 actor, .int .i64 kind, .int .i64 dst, .int .i64 bucket, .int .i64 mask, .int .i64 gr, .int .i64 gn, vs]) := by rw [hW4]; exact K0b.out.set (j := 2) (by simp) _
 have K1c : Hid (Blk W4 (w.heap.size + 1) [.int .i64 0, .int .i64 0, .slice none 0 0, .int .i64 0, .int .i64 0, .int .i64 0, .int .i64 0, .int .i64 0, .int .i64 0, .int .i64 0, .slice none 0 0]) := by rw [hW4]; exact K1b.out.other (by simp) _
 have B5 : Hid (Below w.heap.size w W4) := by rw [hW4]; exact B4.out.setCell (by simp) _
 have O1 : Hid (Own W4 g (.slice a1 dep.length c1) dep) := by
  rw [hW4]
  exact HO.out.block fun _ => Below.heap_setCell _ _ _ _ (by simp; omega)
 have L4 : w.heap.size + 2 ≤ W4.heap.size := by
  have := K1c.out.lt
  omega
 rw [← hW4]
 clear hW4 c2 f2 K0b K1b B4 HO K0a K1a B3 O0 K0 K1
 have O2 := Lib.hid (World.ownsRow_lit (size := 4) (e := 116) (base := W4.heap.size) W4 #[] 0 (Nat.le_refl _) (by unfold maxLen; omega) rfl)
 have c0 := K0c.out.cell
 have l0 := K0c.out.lt
 have K0a := Lib.hid (K0c.out.alloc (.cells #[] 116))
 have K1a := Lib.hid (K1c.out.alloc (.cells #[] 116))
 have B6 := Lib.hid (B5.out.alloc B5.out.size (.cells #[] 116))
 have O3 := Lib.hid (O1.out.block (w' := W4.alloc (.cells #[] 116)) fun hp => Below.heap_alloc _ _ _ (own_lt O1.out hp))
 go_wp2_with (at_builtin; refine wpList_app rfl (.tmp 8) (.tmp 10) 30 rfl W4.heap.size 116 i1 _ 4 32 Tryz.underlying30 hj hy0 hy1 hy2 rfl (by decide) _ vs 0 ups.length [] (vu ups) rfl rfl O2.out (src_ups (HU.out.below B6.out)) (vu_one ups) (by unfold maxLen; omega) (by omega) (by simp) ?_)
 intro v2 w2 hown2 hgrow2 _
 try simp only [Nat.zero_add, List.nil_append] at hown2
 obtain ⟨a2, c2, rfl⟩ := row_shape hown2
 have G2 : (W4.alloc (.cells #[] 116)).grownBy w2 (some W4.heap.size) := hgrow2
 have K0b := Lib.hid (K0a.out.grown G2 (by omega))
 have K1b := Lib.hid (K1a.out.grown G2 (by omega))
 have B7 := Lib.hid (B6.out.grown G2 B6.out.size (fun k hk => by cases hk; exact B5.out.size))
 have HP := Lib.hid hown2
 have O4 := Lib.hid (O3.out.other G2 (fun hp => by have := own_lt O1.out hp; omega))
 clear hgrow2 G2 hown2 c0 l0
 have d2 := K0b.out.cell
 have f2 := K0b.out.free
 go_upto_region 3 with (fail)
 obtain ⟨W6, hW6⟩ : ∃ W6, W6 = w2.setCell ⟨w.heap.size, 10, none⟩ (.slice a2 ups.length c2) := ⟨_, rfl⟩
 have K0d : Hid (Blk W6 w.heap.size [.int .i64 r, .int .i64 n, .slice a1 dep.length c1, .int .i64 actor, .int .i64 kind, .int .i64 dst, .int .i64 bucket, .int .i64 mask, .int .i64 gr, .int .i64 gn, .slice a2 ups.length c2]) := by rw [hW6]; exact K0b.out.set (j := 10) (by simp) _
 have K1d : Hid (Blk W6 (w.heap.size + 1) [.int .i64 0, .int .i64 0, .slice none 0 0, .int .i64 0, .int .i64 0, .int .i64 0, .int .i64 0, .int .i64 0, .int .i64 0, .int .i64 0, .slice none 0 0]) := by rw [hW6]; exact K1b.out.other (by simp) _
 have B8 : Hid (Below w.heap.size w W6) := by rw [hW6]; exact B7.out.setCell (by simp) _
 have O5 : Hid (Own W6 g (.slice a1 dep.length c1) dep) := by
  rw [hW6]
  exact O4.out.block fun _ => Below.heap_setCell _ _ _ _ (by simp; omega)
 have P5 : Hid (W6.ownsRow (w.heap.size + 2) 116 4 (.slice a2 ups.length c2) ups.length (vu ups)) := by
  rw [hW6]
  exact row_less (row_grown HP.out (grown_set w.heap.size 10 _) (fun g e => by cases e; omega)) (by omega)
 rw [← hW6]
 clear hW6 d2 f2 K0b K1b B7 HP O4 O3 O1 K0a K1a B6 O2 K0c K1c B5
 have c0 := K0d.out.cell
 have c9 := K1d.out.cell
 have f9 := K1d.out.free
 go_wp2
 refine bodyPost_ret (v := .agg #[.int .i64 r, .int .i64 n, .slice a1 dep.length c1, .int .i64 actor, .int .i64 kind, .int .i64 dst, .int .i64 bucket, .int .i64 mask, .int .i64 gr, .int .i64 gn, .slice a2 ups.length c2]) (by simp [results, Tryz.results95, go_sem, c9]) rfl ⟨⟨⟨r, n, dep, actor, kind, dst, bucket, mask, gr, gn, ups⟩, .slice a1 dep.length c1, .slice a2 ups.length c2⟩, rfl, rfl, ⟨⟨g, by omega, O5.out.block fun _ => ?_⟩, row_less (row_keep P5.out fun k hk hl _ => ?_) (by omega)⟩, ?_⟩
 ·repeat rw [Below.heap_setCell _ _ _ _ (by simp; omega)]
 ·repeat rw [Below.heap_setCell _ _ _ _ (by simp; omega)]
 ·repeat (with_reducible refine Below.setCell ?_ ?_ _)
  all_goals (first | exact B8.out | (simp; done) | (simp; omega))
end Go.Proofs.YtghgiefciijoeaaGreatDoor
namespace Go.Proofs.YtghgiefciijoeaaGreatDoor
open Go.RowKit
set_option linter.unusedVariables false
theorem own_else {w : World} {K lo size n : Nat} {v : Value} {xs : List Value} (h : w.ownsRow K 32 size v n xs) : Elsewhere w lo v.ownBlock := by
 intro g e
 refine .inr ?_
 obtain ⟨a, c, rfl⟩ := row_shape h
 rcases h.2 with ⟨h', _⟩ | ⟨g', cap, cur, h', hbg, hg, r⟩
 ·simp only [Value.slice.injEq] at h'
  obtain ⟨rfl, _⟩ := h'
  simp [Value.ownBlock] at e
 ·simp only [Value.slice.injEq] at h'
  obtain ⟨rfl, _⟩ := h'
  simp only [Value.ownBlock, Option.some.injEq] at e
  subst e
  exact ⟨cur, _, hg⟩
theorem OwnT.snoc {W w2 : World} {lo : Nat} {v v2 : Value} {ts : List ActT} {t : ActT} (h : OwnT W lo v ts) (ht : t.Owns W lo) (ho : w2.ownsRow lo 32 11 v2 (ts.length + 1) (va ts ++ t.cells)) (hg : W.grownBy w2 v.ownBlock) : OwnT w2 lo v2 (ts ++ [t]) := by
 have he := own_else (lo := lo) h.1
 refine ⟨?_, fun x hx => ?_⟩
 ·have e : va (ts ++ [t]) = va ts ++ t.cells := by simp [va]
  rw [e]
  simpa using ho
 ·rcases List.mem_append.1 hx with hx | hx
  ·exact (h.2 x hx).else_ hg he
  ·simp only [List.mem_singleton] at hx
   subst hx
   exact ht.else_ hg he
theorem src_new {w : World} (t : ActT) (e : TypeId) : Src (w.alloc (.cells #[.int .i64 t.a.r, .int .i64 t.a.n, t.vd, .int .i64 t.a.actor, .int .i64 t.a.kind, .int .i64 t.a.to, .int .i64 t.a.bucket, .int .i64 t.a.mask, .int .i64 t.a.gr, .int .i64 t.a.gn, t.vs] e)) 11 (.slice (some ⟨w.heap.size, 0, none⟩) 1 1) 1 t.cells :=
 .inr ⟨_, _, rfl, rfl, fun j u hu => by
  rw [add_flat, Nat.zero_add, (Blk.new w _ e).cell j]
  exact hu⟩
theorem OwnT.alloc {w : World} {lo : Nat} {v : Value} {ts : List ActT} (h : OwnT w lo v ts) (o : Obj) : OwnT (w.alloc o) lo v ts := h.below ((Below.refl _ _).alloc (Nat.le_refl _) _)
theorem ActT.Owns.alloc {w : World} {lo : Nat} {t : ActT} (h : t.Owns w lo) (o : Obj) : t.Owns (w.alloc o) lo := h.below ((Below.refl _ _).alloc (Nat.le_refl _) _)
theorem cells_one {w : World} {t : ActT} (h : t.Reads w) : ∀ u ∈ t.cells, u.oneCell' = true := by
 have := va_one (ts := [t]) (fun x hx => by simp only [List.mem_singleton] at hx; subst hx; exact ⟨ints_one h.1, ups_one h.2⟩)
 simpa [va] using this
def OwnedL (w : World) (l : List ActM) (e : Ending) (w' : World) : Prop := ∃ v, e = .returned v ∧ OwnActs w' w.heap.size v l ∧ Below w.heap.size w w'
theorem owned_block {w w2 W : World} {lo K size n : Nat} {v : Value} {xs : List Value} {e : TypeId} (hb : Below lo w W) (h : W.ownsRow K e size v n xs) (hg : W.grownBy w2 v.ownBlock) (hl : lo ≤ W.heap.size) (hk : lo ≤ K) : Below lo w w2 :=
 hb.grown hg hl fun g e' => by have := own_block_ge h g e'; omega
set_option maxRecDepth 100000 in
set_option maxHeartbeats 1600000 in
theorem l3own_some (b off cap len : Nat) (ts : List ActT) (w : World) (h1 : ts.length = len) (hl : len ≤ 1048576) (hb : b < w.heap.size) (hs : ∀ t ∈ ts, t.a.Small) (hr : ∀ t ∈ ts, t.Reads w)
  (hc : ∀ i, i < len → ActAt w b (off + i * 11) (ts.getD i t0)) :
  Calls Tryz.prog 59 #[.slice (some ⟨b, off, none⟩) len cap] w (OwnedL w (ts.map ActT.a)) := by
 obtain ⟨i2, hi, hz0, hz1, hz2⟩ := info_parts Tryz.infoAct
 have N1 := Lib.hid h1
 have HC := Lib.hid hc
 have HS := Lib.hid hs
 have HRd := Lib.hid hr
 clear h1 hc hs hr
 go_enter Tryz.func59, Tryz.ntmps59
 go_wp2
 go_loopw [3, 4] (fun sv i wr => ∃ (k : Nat) (us : List ActT) (v : Value), v = sv ∧ k ≤ len ∧ i = .int .i64 k ∧ Hid (us.length = k) ∧ Hid (us.map ActT.a = (ts.take k).map ActT.a) ∧ Hid (OwnT wr w.heap.size v us) ∧ Hid (Below w.heap.size w wr)) (fun _ i _ => len - (intOf i).toNat)
 case atStart => exact ⟨0, [], _, rfl, Nat.zero_le _, rfl, rfl, rfl, ⟨⟨rfl, .inl ⟨rfl, rfl⟩⟩, (by intro t ht; cases ht)⟩, Below.refl _ _⟩
 case round =>
  obtain ⟨k, us, v, hv, hk, rfl, hul, hua, ho, hbel⟩ := hrel
  subst hv
  by_cases hlt : k < len
  ·have hm := getD_mem (ts := ts) (i := k) (by rw [N1.out]; exact hlt)
   have at_ := (HC.out k hlt).below hbel.out hb
   have HT := Lib.hid ((HRd.out _ hm).below hbel.out)
   have HSm := Lib.hid (HS.out _ hm)
   have htk := Lib.hid (show ts.take (k + 1) = ts.take k ++ [ts.getD k t0] by rw [List.take_succ_eq_append_getElem (by rw [N1.out]; exact hlt)]; simp [List.getD, N1.out, hlt])
   obtain ⟨t, ht⟩ : ∃ t, t = ts.getD k t0 := ⟨_, rfl⟩
   rw [← ht] at at_ HT HSm htk
   clear ht hm
   have CL := Lib.hid (l2own_any t wr HT.out HSm.out)
   have c0 := at_.c0
   have c1 := at_.c1
   have c2 := at_.c2
   have c3 := at_.c3
   have c4 := at_.c4
   have c5 := at_.c5
   have c6 := at_.c6
   have c7 := at_.c7
   have c8 := at_.c8
   have c9 := at_.c9
   have c10 := at_.c10
   clear at_
   go_wp2_with fail
   refine CL.out.mono ?_
   rintro e w1 ⟨t', hta, rfl, hown, b1⟩
   simp only [ActT.val]
   have O1 := Lib.hid (ho.out.below b1)
   have B1 := Lib.hid (hbel.out.trans (b1.mono hbel.out.size))
   have T1 := Lib.hid (hown.less hbel.out.size)
   have TA := Lib.hid hta
   clear b1 hown hta c0 c1 c2 c3 c4 c5 c6 c7 c8 c9 c10
   have O2 := Lib.hid (O1.out.alloc (.cells #[.int .i64 t'.a.r, .int .i64 t'.a.n, t'.vd, .int .i64 t'.a.actor, .int .i64 t'.a.kind, .int .i64 t'.a.to, .int .i64 t'.a.bucket, .int .i64 t'.a.mask, .int .i64 t'.a.gr, .int .i64 t'.a.gn, t'.vs] 32))
   have T2 := Lib.hid (T1.out.alloc (.cells #[.int .i64 t'.a.r, .int .i64 t'.a.n, t'.vd, .int .i64 t'.a.actor, .int .i64 t'.a.kind, .int .i64 t'.a.to, .int .i64 t'.a.bucket, .int .i64 t'.a.mask, .int .i64 t'.a.gr, .int .i64 t'.a.gn, t'.vs] 32))
   have B2 := Lib.hid (B1.out.alloc B1.out.size (.cells #[.int .i64 t'.a.r, .int .i64 t'.a.n, t'.vd, .int .i64 t'.a.actor, .int .i64 t'.a.kind, .int .i64 t'.a.to, .int .i64 t'.a.bucket, .int .i64 t'.a.mask, .int .i64 t'.a.gr, .int .i64 t'.a.gn, t'.vs] 32))
   have SR := Lib.hid (src_new (w := w1) t' 32)
   have CO := Lib.hid (cells_one T1.out.reads)
   have HM1 : Hid (us.length + 1 ≤ maxLen) := by have := hul.out; show _ ≤ _; unfold maxLen; omega
   have HM2 : Hid ((us.length + 1) * 120 ≤ 140737488355328) := by have := hul.out; show _ ≤ _; omega
   go_wp2_with (at_builtin; refine wpList_app rfl (.tmp 11) (.tmp 17) 23 rfl w.heap.size 32 i2 _ 11 120 Tryz.underlying23 hi hz0 hz1 hz2 rfl (by decide) v (.slice (some ⟨w1.heap.size, 0, none⟩) 1 1) us.length 1 (va us) t'.cells rfl rfl O2.out.1 SR.out CO.out HM1.out HM2.out B2.out.size ?_)
   intro v2 w2 hown2 hgrow2 _
   have O3 := Lib.hid (O2.out.snoc T2.out hown2 hgrow2)
   have B3 := Lib.hid (owned_block B2.out O2.out.1 hgrow2 B2.out.size (Nat.le_refl _))
   clear hown2 hgrow2
   go_wp2
   go_roundw
   case rel => exact ⟨k + 1, us ++ [t'], _, rfl, by omega, by go_num, (by show _ = _; simp [hul.out]), (by show _ = _; rw [htk.out]; simp only [List.map_append, List.map_cons, List.map_nil, hua.out, TA.out]), O3.out, B3.out⟩
   case measure => simp [intOf]; omega
  ·have HL : Hid (us.map ActT.a = ts.map ActT.a) := by
    show _ = _
    rw [hua.out, List.take_of_length_le (by rw [N1.out]; omega)]
   go_wp2
   go_ret
   exact ⟨v, rfl, ⟨us, HL.out.symm, ho.out⟩, hbel.out⟩
theorem l3own_nil (a : Option Addr) (cap : Nat) (w : World) : Calls Tryz.prog 59 #[.slice a 0 cap] w (OwnedL w []) := by
 go_enter Tryz.func59, Tryz.ntmps59
 go_wp2
 go_loop [3, 4] (fun v i => v = .slice none 0 0 ∧ i = .int .i64 0) (fun _ _ => 0)
 case atStart => exact ⟨rfl, rfl⟩
 case round =>
  obtain ⟨rfl, rfl⟩ := hrel
  go_wp2
  go_ret
  exact ⟨_, rfl, ownActs_nil w _, Below.refl _ _⟩
def SmallL (l : List ActM) : Prop := l.length ≤ 1048576 ∧ ∀ a ∈ l, a.Small
theorem l3own_any (v : Value) (l : List ActM) (w : World) (h : Acts w v l) (hs : SmallL l) : Calls Tryz.prog 59 #[v] w (OwnedL w l) := by
 obtain ⟨ts, rfl, ht⟩ := h
 obtain ⟨s1, s2⟩ := hs
 rcases ht.2 with ⟨a, cap, rfl, rfl⟩ | ⟨b, off, cap, rfl, h1, h2, h3, h4⟩
 ·exact l3own_nil _ _ w
 ·exact l3own_some b off cap _ ts w rfl (by simpa using s1) h1 (fun t hh => s2 _ (List.mem_map_of_mem hh)) ht.1 h4
end Go.Proofs.YtghgiefciijoeaaGreatDoor
namespace Go.Proofs.YtghgiefciijoeaaGreatDoor
open Go.RowKit
set_option linter.unusedVariables false
def putJ (l : List ActM) (a : ActM) : Nat → Nat
 | 0 => 0
 | j + 1 => if aheadM a (l.getD j act0) = true then putJ l a j else j + 1
def putM (l : List ActM) (a : ActM) : List ActM := l.take (putJ l a l.length) ++ a :: l.drop (putJ l a l.length)
theorem va_set (l : List ActT) (k : Nat) (t : ActT) (h : k < l.length) :
  (((((((((((va l).set (k * 11) (.int .i64 t.a.r)).set (k * 11 + 1) (.int .i64 t.a.n)).set (k * 11 + 2) t.vd).set (k * 11 + 3) (.int .i64 t.a.actor)).set (k * 11 + 4) (.int .i64 t.a.kind)).set (k * 11 + 5) (.int .i64 t.a.to)).set (k * 11 + 6) (.int .i64 t.a.bucket)).set (k * 11 + 7) (.int .i64 t.a.mask)).set (k * 11 + 8) (.int .i64 t.a.gr)).set (k * 11 + 9) (.int .i64 t.a.gn)).set (k * 11 + 10) t.vs = va (l.set k t) := by
 induction l generalizing k with
 | nil => simp at h
 | cons x l ih =>
  cases k with
  | zero => rfl
  | succ k =>
   have hv : ∀ x l, va (x :: l) = .int .i64 x.a.r :: .int .i64 x.a.n :: x.vd :: .int .i64 x.a.actor :: .int .i64 x.a.kind :: .int .i64 x.a.to :: .int .i64 x.a.bucket :: .int .i64 x.a.mask :: .int .i64 x.a.gr :: .int .i64 x.a.gn :: x.vs :: va l := fun _ _ => rfl
   rw [List.set_cons_succ, hv, hv, ← ih k (by simpa using h), show (k + 1) * 11 = k * 11 + 11 from by omega]
   rfl
theorem row_set11 {w : World} {g e n cap : Nat} {l : List ActT} (h : w.ownsRow g e 11 (.slice (some ⟨g, 0, none⟩) n cap) n (va l)) (k : Nat) (hl : l.length = n) (hk : k < n) (t : ActT) :
  (((((((((((w.setCell ⟨g, k * 11, none⟩ (.int .i64 t.a.r)).setCell ⟨g, k * 11 + 1, none⟩ (.int .i64 t.a.n)).setCell ⟨g, k * 11 + 2, none⟩ t.vd).setCell ⟨g, k * 11 + 3, none⟩ (.int .i64 t.a.actor)).setCell ⟨g, k * 11 + 4, none⟩ (.int .i64 t.a.kind)).setCell ⟨g, k * 11 + 5, none⟩ (.int .i64 t.a.to)).setCell ⟨g, k * 11 + 6, none⟩ (.int .i64 t.a.bucket)).setCell ⟨g, k * 11 + 7, none⟩ (.int .i64 t.a.mask)).setCell ⟨g, k * 11 + 8, none⟩ (.int .i64 t.a.gr)).setCell ⟨g, k * 11 + 9, none⟩ (.int .i64 t.a.gn)).setCell ⟨g, k * 11 + 10, none⟩ t.vs).ownsRow g e 11 (.slice (some ⟨g, 0, none⟩) n cap) n (va (l.set k t)) := by
 rw [← va_set l k t (by omega)]
 exact (((((((((((h.stored _ _).1.stored _ _).1.stored _ _).1.stored _ _).1.stored _ _).1.stored _ _).1.stored _ _).1.stored _ _).1.stored _ _).1.stored _ _).1.stored _ _).1
theorem grown_set11 (w : World) (g : Nat) (o0 o1 o2 o3 o4 o5 o6 o7 o8 o9 o10 : Nat) (v0 v1 v2 v3 v4 v5 v6 v7 v8 v9 v10 : Value) :
  w.grownBy (((((((((((w.setCell ⟨g, o0, none⟩ v0).setCell ⟨g, o1, none⟩ v1).setCell ⟨g, o2, none⟩ v2).setCell ⟨g, o3, none⟩ v3).setCell ⟨g, o4, none⟩ v4).setCell ⟨g, o5, none⟩ v5).setCell ⟨g, o6, none⟩ v6).setCell ⟨g, o7, none⟩ v7).setCell ⟨g, o8, none⟩ v8).setCell ⟨g, o9, none⟩ v9).setCell ⟨g, o10, none⟩ v10) (some g) :=
 (grown_set g o0 v0).trans ((grown_set g o1 v1).trans ((grown_set g o2 v2).trans ((grown_set g o3 v3).trans ((grown_set g o4 v4).trans ((grown_set g o5 v5).trans ((grown_set g o6 v6).trans ((grown_set g o7 v7).trans ((grown_set g o8 v8).trans ((grown_set g o9 v9).trans (grown_set g o10 v10))))))))))
theorem cur_at (ts : List ActT) (t : ActT) (p : Nat) (h : p < ts.length) : (ts.take (p + 1) ++ t :: ts.drop (p + 1)).getD (p + 1) t0 = t ∧ (ts.take (p + 1) ++ t :: ts.drop (p + 1)).getD p t0 = ts.getD p t0 := by
 simp only [List.getD]
 constructor
 ·rw [List.getElem?_append_right (by simp; omega)]; simp [Nat.min_eq_left (Nat.succ_le_of_lt h)]
 ·rw [List.getElem?_append_left (by simp; omega), List.getElem?_take_of_lt (by omega)]
theorem cur_swap (ts : List ActT) (t : ActT) (p : Nat) (h : p < ts.length) : ((ts.take (p + 1) ++ t :: ts.drop (p + 1)).set (p + 1) (ts.getD p t0)).set p t = ts.take p ++ t :: ts.drop p := by
 apply List.ext_getElem?
 intro i
 simp only [List.getElem?_set, List.getElem?_append, List.length_set, List.length_append, List.length_take, List.length_cons, List.length_drop, List.getElem?_take, List.getElem?_cons, List.getElem?_drop, List.getD]
 grind
theorem cur_length (ts : List ActT) (t : ActT) (j : Nat) (h : j ≤ ts.length) : (ts.take j ++ t :: ts.drop j).length = ts.length + 1 := by simp; omega
end Go.Proofs.YtghgiefciijoeaaGreatDoor
