/- ML, HB, JA. -/
import Derived.Test.YtcjoecjijmkbaaaGreatMC
import Derived.Test.YtcjoecjijmkbaaaGreatMB
import Derived.Test.YtcjoecjijmkbaaaGreatMA
import Derived.Deep.RegionHeld3

namespace Go.Proofs.YtcjoecjijmkbaaaGreat
open Go.RowKit
set_option linter.unusedVariables false
def Chain (w : World) : Nat → List ActT → Nat → Prop
 | lo, [], hi => lo ≤ hi
 | lo, t :: ts, hi => ∃ d u, lo ≤ d ∧ d < u ∧ Own w d t.vd t.a.dep ∧ OwnU w u t.vs t.a.ups ∧ Chain w (u + 1) ts hi
theorem Chain.keep {w w' : World} : ∀ {ts : List ActT} {lo hi : Nat}, Chain w lo ts hi → (∀ b, lo ≤ b → b < w.heap.size → w'.heap[b]? = w.heap[b]?) → Chain w' lo ts hi
 | [], _, _, h, _ => h
 | t :: ts, lo, hi, ⟨d, u, h1, h2, h3, h4, h5⟩, hk =>
  ⟨d, u, h1, h2, h3.block fun hp => hk d h1 (own_lt h3 hp), h4.block fun hp => hk u (by omega) (ownU_lt h4 hp), h5.keep fun b hb hs => hk b (by omega) hs⟩
theorem Chain.snoc {w : World} : ∀ {ts : List ActT} {lo hi d u hi' : Nat} {t : ActT}, Chain w lo ts hi → hi ≤ d → d < u → Own w d t.vd t.a.dep → OwnU w u t.vs t.a.ups → u < hi' → Chain w lo (ts ++ [t]) hi'
 | [], lo, hi, d, u, hi', t, h, h1, h2, h3, h4, h5 => ⟨d, u, Nat.le_trans h h1, h2, h3, h4, h5⟩
 | s :: ts, lo, hi, d, u, hi', t, ⟨d0, u0, q1, q2, q3, q4, q5⟩, h1, h2, h3, h4, h5 => ⟨d0, u0, q1, q2, q3, q4, q5.snoc h1 h2 h3 h4 h5⟩
theorem Chain.le {w : World} : ∀ {ts : List ActT} {lo hi : Nat}, Chain w lo ts hi → lo ≤ hi
 | [], _, _, h => h
 | t :: ts, lo, hi, ⟨d, u, h1, h2, _, _, h5⟩ => by have := h5.le; omega
theorem Chain.reads {w : World} : ∀ {ts : List ActT} {lo hi : Nat}, Chain w lo ts hi → ∀ t ∈ ts, t.Reads w
 | [], _, _, _, t, ht => by cases ht
 | s :: ts, lo, hi, ⟨d, u, _, _, h3, h4, h5⟩, t, ht => by
  rcases List.mem_cons.1 ht with rfl | ht
  ·exact ⟨own_ints h3, ownU_ups h4⟩
  ·exact h5.reads t ht
end Go.Proofs.YtcjoecjijmkbaaaGreat
namespace Go.Proofs.YtcjoecjijmkbaaaGreat
open Go.RowKit
set_option linter.unusedVariables false
end Go.Proofs.YtcjoecjijmkbaaaGreat
namespace Go.Proofs.YtcjoecjijmkbaaaGreat
open Go.RowKit
set_option linter.unusedVariables false
end Go.Proofs.YtcjoecjijmkbaaaGreat
namespace Go.Proofs.YtcjoecjijmkbaaaGreat
open Go.Joins Go.ChangeShapes Go.WideShapes Go.ChangeAt Go.RowKit Go.Deep
set_option linter.unusedVariables false
end Go.Proofs.YtcjoecjijmkbaaaGreat
namespace Go.Proofs.YtcjoecjijmkbaaaGreat
open Go.RowKit
set_option linter.unusedVariables false
structure GrOn (bs : List Nat) (w w' : World) : Prop where
 os : w'.os = w.os
 tape : w'.tape = w.tape
 output : w'.output = w.output
 size : w.heap.size ≤ w'.heap.size
 same : ∀ k, k < w.heap.size → k ∉ bs → w'.heap[k]? = w.heap[k]?
theorem GrOn.refl (bs : List Nat) (w : World) : GrOn bs w w := ⟨rfl, rfl, rfl, Nat.le_refl _, fun _ _ _ => rfl⟩
theorem GrOn.trans {bs : List Nat} {a b c : World} (h : GrOn bs a b) (k : GrOn bs b c) : GrOn bs a c :=
 ⟨k.os.trans h.os, k.tape.trans h.tape, k.output.trans h.output, Nat.le_trans h.size k.size, fun i hi hn => (k.same i (Nat.lt_of_lt_of_le hi h.size) hn).trans (h.same i hi hn)⟩
theorem GrOn.sub {bs cs : List Nat} {a b : World} (h : GrOn bs a b) (hs : ∀ x ∈ bs, x ∈ cs) : GrOn cs a b := ⟨h.os, h.tape, h.output, h.size, fun k hk hn => h.same k hk (fun hm => hn (hs k hm))⟩
theorem GrOn.of_grown {g : Nat} {w w' : World} (h : w.grownBy w' (some g)) : GrOn [g] w w' := ⟨h.os, h.tape, h.output, h.size, fun k hk hn => h.block k hk (fun e => hn (by cases e; simp))⟩
theorem GrOn.of_below {w w' : World} (h : Below w.heap.size w w') (bs : List Nat) : GrOn bs w w' := ⟨h.os, h.tape, h.output, h.size, fun k hk _ => h.block k hk⟩
theorem GrOn.below {bs : List Nat} {w w' : World} {B : Nat} (h : GrOn bs w w') (hb : ∀ b ∈ bs, B ≤ b) (hB : B ≤ w.heap.size) : Below B w w' :=
 ⟨h.os, h.tape, h.output, h.size, fun k hk => h.same k (by omega) (fun hm => by have := hb k hm; omega)⟩
def OwnI (w : World) (ds : List Nat) (v : Value) (xs : List Int) : Prop := (xs = [] ∧ ds = [] ∧ ∃ a cap, v = .slice a 0 cap) ∨ ∃ d, ds = [d] ∧ 0 < xs.length ∧ Own w d v xs
def OwnP (w : World) (ds : List Nat) (v : Value) (us : List UpM) : Prop := (us = [] ∧ ds = [] ∧ ∃ a cap, v = .slice a 0 cap) ∨ ∃ d, ds = [d] ∧ 0 < us.length ∧ OwnU w d v us
theorem OwnI.ints {w : World} {ds : List Nat} {v : Value} {xs : List Int} (h : OwnI w ds v xs) : Ints w v xs := by
 rcases h with ⟨rfl, _, a, cap, rfl⟩ | ⟨d, _, _, h⟩
 ·exact .inl ⟨a, cap, rfl, rfl⟩
 ·exact own_ints h
theorem OwnP.ups {w : World} {ds : List Nat} {v : Value} {us : List UpM} (h : OwnP w ds v us) : Ups w v us := by
 rcases h with ⟨rfl, _, a, cap, rfl⟩ | ⟨d, _, _, h⟩
 ·exact .inl ⟨a, cap, rfl, rfl⟩
 ·exact ownU_ups h
theorem OwnI.keep {w w' : World} {ds : List Nat} {v : Value} {xs : List Int} (h : OwnI w ds v xs) (hk : ∀ b ∈ ds, w'.heap[b]? = w.heap[b]?) : OwnI w' ds v xs := by
 rcases h with h | ⟨d, rfl, hp, h⟩
 ·exact .inl h
 ·exact .inr ⟨d, rfl, hp, h.block fun _ => hk d (by simp)⟩
theorem OwnP.keep {w w' : World} {ds : List Nat} {v : Value} {us : List UpM} (h : OwnP w ds v us) (hk : ∀ b ∈ ds, w'.heap[b]? = w.heap[b]?) : OwnP w' ds v us := by
 rcases h with h | ⟨d, rfl, hp, h⟩
 ·exact .inl h
 ·exact .inr ⟨d, rfl, hp, h.block fun _ => hk d (by simp)⟩
theorem OwnI.lt {w : World} {ds : List Nat} {v : Value} {xs : List Int} (h : OwnI w ds v xs) : ∀ b ∈ ds, b < w.heap.size := by
 rcases h with ⟨_, rfl, _⟩ | ⟨d, rfl, hp, h⟩
 ·intro b hb; cases hb
 ·intro b hb; rw [List.mem_singleton.1 hb]; exact own_lt h hp
theorem OwnP.lt {w : World} {ds : List Nat} {v : Value} {us : List UpM} (h : OwnP w ds v us) : ∀ b ∈ ds, b < w.heap.size := by
 rcases h with ⟨_, rfl, _⟩ | ⟨d, rfl, hp, h⟩
 ·intro b hb; cases hb
 ·intro b hb; rw [List.mem_singleton.1 hb]; exact ownU_lt h hp
def Lists (w : World) : List ActT → List Nat → Prop
 | [], bs => bs = []
 | t :: ts, bs => ∃ ds us rest, bs = ds ++ us ++ rest ∧ OwnI w ds t.vd t.a.dep ∧ OwnP w us t.vs t.a.ups ∧ Lists w ts rest
theorem Lists.keep {w w' : World} : ∀ {ts : List ActT} {bs : List Nat}, Lists w ts bs → (∀ b ∈ bs, w'.heap[b]? = w.heap[b]?) → Lists w' ts bs
 | [], _, h, _ => h
 | t :: ts, bs, ⟨ds, us, rest, e, h1, h2, h3⟩, hk => by
  subst e
  exact ⟨ds, us, rest, rfl, h1.keep fun b hb => hk b (by simp [hb]), h2.keep fun b hb => hk b (by simp [hb]), h3.keep fun b hb => hk b (by simp [hb])⟩
theorem Lists.lt {w : World} : ∀ {ts : List ActT} {bs : List Nat}, Lists w ts bs → ∀ b ∈ bs, b < w.heap.size
 | [], bs, h, b, hb => by rw [h] at hb; cases hb
 | t :: ts, bs, ⟨ds, us, rest, e, h1, h2, h3⟩, b, hb => by
  subst e
  simp only [List.mem_append] at hb
  rcases hb with (hb | hb) | hb
  ·exact h1.lt b hb
  ·exact h2.lt b hb
  ·exact h3.lt b hb
theorem Lists.reads {w : World} : ∀ {ts : List ActT} {bs : List Nat}, Lists w ts bs → ∀ t ∈ ts, t.Reads w
 | [], _, _, t, ht => by cases ht
 | s :: ts, bs, ⟨ds, us, rest, e, h1, h2, h3⟩, t, ht => by
  rcases List.mem_cons.1 ht with rfl | ht
  ·exact ⟨h1.ints, h2.ups⟩
  ·exact h3.reads t ht
theorem Lists.snoc {w : World} : ∀ {ts : List ActT} {bs ds us : List Nat} {t : ActT}, Lists w ts bs → OwnI w ds t.vd t.a.dep → OwnP w us t.vs t.a.ups → Lists w (ts ++ [t]) (bs ++ (ds ++ us))
 | [], bs, ds, us, t, h, h1, h2 => by
  have hb : bs = [] := h
  subst hb
  exact ⟨ds, us, [], by simp, h1, h2, rfl⟩
 | s :: ts, bs, ds, us, t, ⟨ds', us', rest, e, q1, q2, q3⟩, h1, h2 => by
  subst e
  exact ⟨ds', us', rest ++ (ds ++ us), by simp, q1, q2, q3.snoc h1 h2⟩
theorem Chain.lists {w : World} : ∀ {ts : List ActT} {lo hi : Nat}, Chain w lo ts hi → ∃ bs, Lists w ts bs ∧ bs.Nodup ∧ ∀ b ∈ bs, lo ≤ b ∧ b < hi
 | [], lo, hi, _ => ⟨[], rfl, List.nodup_nil, fun b hb => by cases hb⟩
 | t :: ts, lo, hi, ⟨d, u, h1, h2, h3, h4, h5⟩ => by
  obtain ⟨rest, l1, l2, l3⟩ := h5.lists
  have hle := h5.le
  obtain ⟨ds, i1, i2, i3⟩ : ∃ ds, OwnI w ds t.vd t.a.dep ∧ ds.Nodup ∧ ∀ b ∈ ds, b = d := by
   by_cases hp : 0 < t.a.dep.length
   ·exact ⟨[d], .inr ⟨d, rfl, hp, h3⟩, by simp, fun b hb => List.mem_singleton.1 hb⟩
   ·refine ⟨[], .inl ⟨List.eq_nil_of_length_eq_zero (by omega), rfl, ?_⟩, List.nodup_nil, fun b hb => by cases hb⟩
    rcases h3 with ⟨a, cap, h, _⟩ | ⟨h, _⟩
    ·exact ⟨a, cap, h⟩
    ·omega
  obtain ⟨us, j1, j2, j3⟩ : ∃ us, OwnP w us t.vs t.a.ups ∧ us.Nodup ∧ ∀ b ∈ us, b = u := by
   by_cases hp : 0 < t.a.ups.length
   ·exact ⟨[u], .inr ⟨u, rfl, hp, h4⟩, by simp, fun b hb => List.mem_singleton.1 hb⟩
   ·refine ⟨[], .inl ⟨List.eq_nil_of_length_eq_zero (by omega), rfl, ?_⟩, List.nodup_nil, fun b hb => by cases hb⟩
    rcases h4 with ⟨a, cap, h, _⟩ | ⟨h, _⟩
    ·exact ⟨a, cap, h⟩
    ·omega
  refine ⟨ds ++ us ++ rest, ⟨ds, us, rest, rfl, i1, j1, l1⟩, ?_, ?_⟩
  ·rw [List.nodup_append, List.nodup_append]
   refine ⟨⟨i2, j2, fun a ha b hb => ?_⟩, l2, fun a ha b hb => ?_⟩
   ·have := i3 a ha; have := j3 b hb; omega
   ·have h9 := l3 b hb
    rcases List.mem_append.1 ha with ha | ha
    ·have := i3 a ha; omega
    ·have := j3 a ha; omega
  ·intro b hb
   simp only [List.mem_append] at hb
   rcases hb with (hb | hb) | hb
   ·have := i3 b hb; omega
   ·have := j3 b hb; omega
   ·have := l3 b hb; omega
def OwnL (w : World) (v : Value) (l : List ActM) (bs : List Nat) : Prop :=
 (l = [] ∧ bs = [] ∧ ∃ a cap, v = .slice a 0 cap) ∨
 ∃ (ts : List ActT) (g n cap : Nat) (cs : List Nat), ts.map ActT.a = l ∧ ts.length = n ∧ bs = g :: cs ∧ bs.Nodup ∧ v = .slice (some ⟨g, 0, none⟩) n cap ∧ w.ownsRow g 33 11 (.slice (some ⟨g, 0, none⟩) n cap) n (va ts) ∧ Lists w ts cs
theorem row_lt {w : World} {g e size n cap : Nat} {xs : List Value} (h : w.ownsRow g e size (.slice (some ⟨g, 0, none⟩) n cap) n xs) : g < w.heap.size := by
 obtain ⟨cs, cur, h⟩ := row_type h
 exact (Array.getElem?_eq_some_iff.1 h).1
theorem OwnL.lt {w : World} {v : Value} {l : List ActM} {bs : List Nat} (h : OwnL w v l bs) : ∀ b ∈ bs, b < w.heap.size := by
 rcases h with ⟨_, rfl, _⟩ | ⟨ts, g, n, cap, cs, _, _, rfl, _, rfl, ho, hl⟩
 ·intro b hb; cases hb
 ·intro b hb
  rcases List.mem_cons.1 hb with rfl | hb
  ·exact row_lt ho
  ·exact hl.lt b hb
theorem OwnL.keep {w w' : World} {v : Value} {l : List ActM} {bs : List Nat} (h : OwnL w v l bs) (hk : ∀ b ∈ bs, w'.heap[b]? = w.heap[b]?) : OwnL w' v l bs := by
 rcases h with h | ⟨ts, g, n, cap, cs, h1, h2, rfl, h4, rfl, ho, hl⟩
 ·exact .inl h
 ·exact .inr ⟨ts, g, n, cap, cs, h1, h2, rfl, h4, rfl, row_block ho (hk g (by simp)), hl.keep fun b hb => hk b (List.mem_cons_of_mem _ hb)⟩
theorem OwnL.below {w w' : World} {v : Value} {l : List ActM} {bs : List Nat} (h : OwnL w v l bs) (hb : Below w.heap.size w w') : OwnL w' v l bs := h.keep fun b hm => hb.block b (h.lt b hm)
theorem OwnL.other {w w' : World} {v : Value} {l : List ActM} {bs cs : List Nat} (h : OwnL w v l bs) (hg : GrOn cs w w') (hd : ∀ b ∈ bs, b ∉ cs) : OwnL w' v l bs := h.keep fun b hm => hg.same b (h.lt b hm) (hd b hm)
theorem OwnL.acts {w : World} {v : Value} {l : List ActM} {bs : List Nat} (h : OwnL w v l bs) : Acts w v l := by
 rcases h with ⟨rfl, _, a, cap, rfl⟩ | ⟨ts, g, n, cap, cs, h1, rfl, rfl, h4, rfl, ho, hl⟩
 ·exact acts_empty _ _ _
 ·refine ⟨ts, h1.symm, hl.reads, ?_⟩
  rcases ho.2 with ⟨h', hx⟩ | ⟨g', cap', cur, h', hbg, hg, hx, hy, _⟩
  ·simp at h'
  ·simp only [Value.slice.injEq, Option.some.injEq, Addr.mk.injEq, and_true, true_and] at h'
   obtain ⟨rfl, rfl⟩ := h'
   exact .inr ⟨_, 0, _, rfl, (Array.getElem?_eq_some_iff.1 hg).1, hx, hy, fun i hi => by rw [Nat.zero_add]; exact row_actAt ho i rfl hi⟩
end Go.Proofs.YtcjoecjijmkbaaaGreat
namespace Go.Proofs.YtcjoecjijmkbaaaGreat
open Go.RowKit
set_option linter.unusedVariables false
theorem own_I {w : World} {g : Nat} {v : Value} {xs : List Int} (h : Own w g v xs) (B : Nat) (hg : B ≤ g) : ∃ bs, OwnI w bs v xs ∧ bs.Nodup ∧ ∀ b ∈ bs, B ≤ b := by
 by_cases hp : 0 < xs.length
 ·exact ⟨[g], .inr ⟨g, rfl, hp, h⟩, by simp, fun b hb => by rw [List.mem_singleton.1 hb]; exact hg⟩
 ·rcases h with ⟨a, cap, h1, h2⟩ | ⟨h1, _⟩
  ·exact ⟨[], .inl ⟨h2, rfl, a, cap, h1⟩, List.nodup_nil, fun b hb => by cases hb⟩
  ·omega
theorem own_P {w : World} {g : Nat} {v : Value} {us : List UpM} (h : OwnU w g v us) (B : Nat) (hg : B ≤ g) : ∃ bs, OwnP w bs v us ∧ bs.Nodup ∧ ∀ b ∈ bs, B ≤ b := by
 by_cases hp : 0 < us.length
 ·exact ⟨[g], .inr ⟨g, rfl, hp, h⟩, by simp, fun b hb => by rw [List.mem_singleton.1 hb]; exact hg⟩
 ·rcases h with ⟨a, cap, h1, h2⟩ | ⟨h1, _⟩
  ·exact ⟨[], .inl ⟨h2, rfl, a, cap, h1⟩, List.nodup_nil, fun b hb => by cases hb⟩
  ·omega
theorem nodup_app {ds us : List Nat} {B : Nat} (h1 : ds.Nodup) (h2 : us.Nodup) (h3 : ∀ b ∈ ds, b < B) (h4 : ∀ b ∈ us, B ≤ b) : (ds ++ us).Nodup := by
 rw [List.nodup_append]
 refine ⟨h1, h2, fun a ha b hb => ?_⟩
 have := h3 a ha; have := h4 b hb; omega
def Copied (w : World) (a : ActM) (e : Ending) (w' : World) : Prop := ∃ (t : ActT) (ds us : List Nat), t.a = a ∧ e = .returned t.val ∧ OwnI w' ds t.vd t.a.dep ∧ OwnP w' us t.vs t.a.ups ∧ (ds ++ us).Nodup ∧ (∀ b ∈ ds ++ us, w.heap.size ≤ b) ∧ Below w.heap.size w w'
set_option maxRecDepth 100000 in
set_option maxHeartbeats 3200000 in
theorem copyAct_any (t : ActT) (w : World) (h : t.Reads w) (hs : t.a.Small) : Calls Tryz.prog 46 #[t.val] w (Copied w t.a) := by
 obtain ⟨i0, hi, hz0, hz1, hz2⟩ := info_parts Tryz.info3
 obtain ⟨i1, hj, hy0, hy1, hy2⟩ := info_parts Tryz.infoUp
 obtain ⟨⟨r, n, dep, actor, kind, dst, bucket, mask, gr, gn, ups⟩, vd, vs⟩ := t
 obtain ⟨hd, hu⟩ := h
 obtain ⟨s1, s2⟩ := hs
 simp only at hd hu s1 s2
 show Calls _ _ #[Value.agg #[.int .i64 r, .int .i64 n, vd, .int .i64 actor, .int .i64 kind, .int .i64 dst, .int .i64 bucket, .int .i64 mask, .int .i64 gr, .int .i64 gn, vs]] w (Copied w ⟨r, n, dep, actor, kind, dst, bucket, mask, gr, gn, ups⟩)
 have od := ints_one hd
 have ou := ups_one hu
 have b2 := (((Below.refl w.heap.size w).alloc (Nat.le_refl _) (.cells #[.int .i64 r, .int .i64 n, vd, .int .i64 actor, .int .i64 kind, .int .i64 dst, .int .i64 bucket, .int .i64 mask, .int .i64 gr, .int .i64 gn, vs] 33)).alloc (by simp) (.cells #[.int .i64 0, .int .i64 0, .slice none 0 0, .int .i64 0, .int .i64 0, .int .i64 0, .int .i64 0, .int .i64 0, .int .i64 0, .int .i64 0, .slice none 0 0] 33))
 have k0 := (Blk.new w #[.int .i64 r, .int .i64 n, vd, .int .i64 actor, .int .i64 kind, .int .i64 dst, .int .i64 bucket, .int .i64 mask, .int .i64 gr, .int .i64 gn, vs] 33).alloc (.cells #[.int .i64 0, .int .i64 0, .slice none 0 0, .int .i64 0, .int .i64 0, .int .i64 0, .int .i64 0, .int .i64 0, .int .i64 0, .int .i64 0, .slice none 0 0] 33)
 have k1 := Blk.new (w.alloc (.cells #[.int .i64 r, .int .i64 n, vd, .int .i64 actor, .int .i64 kind, .int .i64 dst, .int .i64 bucket, .int .i64 mask, .int .i64 gr, .int .i64 gn, vs] 33)) #[.int .i64 0, .int .i64 0, .slice none 0 0, .int .i64 0, .int .i64 0, .int .i64 0, .int .i64 0, .int .i64 0, .int .i64 0, .int .i64 0, .slice none 0 0] 33
 simp only [World.size_alloc] at k1
 have B2 := Lib.hid b2
 have K0 := Lib.hid k0
 have K1 := Lib.hid k1
 have HD := Lib.hid hd
 have HU := Lib.hid hu
 have OD := Lib.hid od
 have OU := Lib.hid ou
 clear b2 k0 k1 hd hu od ou
 go_enter Tryz.func46, Tryz.ntmps46
 go_upto_region 1 with (fail)
 obtain ⟨W2, hW2⟩ : ∃ W2, W2 = ((w.alloc (.cells #[.int .i64 r, .int .i64 n, vd, .int .i64 actor, .int .i64 kind, .int .i64 dst, .int .i64 bucket, .int .i64 mask, .int .i64 gr, .int .i64 gn, vs] 33)).alloc (.cells #[.int .i64 0, .int .i64 0, .slice none 0 0, .int .i64 0, .int .i64 0, .int .i64 0, .int .i64 0, .int .i64 0, .int .i64 0, .int .i64 0, .slice none 0 0] 33)) := ⟨_, rfl⟩
 rw [← hW2] at B2 K0 K1 ⊢
 have hsz : W2.heap.size = w.heap.size + 2 := by rw [hW2]; simp
 have HSZ := Lib.hid hsz
 clear hW2 hsz
 have c0 := K0.out.cell
 have l0 := K0.out.lt
 go_wp2_with (at_builtin; refine wpList_app rfl _ (.tmp 4) 24 rfl W2.heap.size 3 i0 (.int .i64 0) 1 8 Tryz.underlying24 hi hz0 hz1 hz2 rfl (by decide) (.slice none 0 0) vd 0 dep.length [] (vi dep) rfl rfl (World.ownsRow_nil _ _ _ _) (src_ints (HD.out.below (B := 0) B2.out)) (vi_one dep) (by unfold maxLen; omega) (by omega) (by simp) ?_)
 intro v1 w1 hown1 hgrow1 _
 try simp only [Nat.zero_add, List.nil_append] at hown1
 obtain ⟨a1, c1, rfl⟩ := row_shape hown1
 have G1 : W2.grownBy w1 none := hgrow1
 have hbw : Below W2.heap.size W2 w1 := (Below.refl _ _).grown G1 (Nat.le_refl _) (fun k hk => by cases hk)
 have K0b := Lib.hid (K0.out.below hbw K0.out.lt)
 have K1b := Lib.hid (K1.out.below hbw K1.out.lt)
 have B4 := Lib.hid (B2.out.trans (hbw.mono B2.out.size))
 obtain ⟨g, hg, hO⟩ := own_of_row rfl hown1
 obtain ⟨ds, hds, hdn, hdl⟩ := own_I hO _ hg
 have HO := Lib.hid hds
 have HDL : Hid (∀ b ∈ ds, w.heap.size + 2 ≤ b) := fun b hb => by have := HSZ.out; have := hdl b hb; omega
 have HDN := Lib.hid hdn
 clear hgrow1 G1 hown1 hO hg c0 l0 hbw hds hdn hdl
 have c2 := K0b.out.cell
 have f2 := K0b.out.free
 go_upto_region 2 with (fail)
 obtain ⟨W4, hW4⟩ : ∃ W4, W4 = w1.setCell ⟨w.heap.size, 2, none⟩ (.slice a1 dep.length c1) := ⟨_, rfl⟩
 have K0c : Hid (Blk W4 w.heap.size [.int .i64 r, .int .i64 n, .slice a1 dep.length c1, .int .i64 actor, .int .i64 kind, .int .i64 dst, .int .i64 bucket, .int .i64 mask, .int .i64 gr, .int .i64 gn, vs]) := by rw [hW4]; exact K0b.out.set (j := 2) (by simp) _
 have K1c : Hid (Blk W4 (w.heap.size + 1) [.int .i64 0, .int .i64 0, .slice none 0 0, .int .i64 0, .int .i64 0, .int .i64 0, .int .i64 0, .int .i64 0, .int .i64 0, .int .i64 0, .slice none 0 0]) := by rw [hW4]; exact K1b.out.other (by simp) _
 have B5 : Hid (Below w.heap.size w W4) := by rw [hW4]; exact B4.out.setCell (by simp) _
 have O1 : Hid (OwnI W4 ds (.slice a1 dep.length c1) dep) := by
  rw [hW4]
  exact HO.out.keep fun b hb => Below.heap_setCell _ _ _ _ (by have := HDL.out b hb; simp; omega)
 have L4 : w.heap.size + 2 ≤ W4.heap.size := by
  have := K1c.out.lt
  omega
 rw [← hW4]
 clear hW4 c2 f2 K0b K1b B4 HO K0 K1
 have c0 := K0c.out.cell
 have l0 := K0c.out.lt
 go_wp2_with (at_builtin; refine wpList_app rfl _ (.tmp 8) 31 rfl W4.heap.size 111 i1 _ 4 32 Tryz.underlying31 hj hy0 hy1 hy2 rfl (by decide) (.slice none 0 0) vs 0 ups.length [] (vu ups) rfl rfl (World.ownsRow_nil _ _ _ _) (src_ups (HU.out.below B5.out)) (vu_one ups) (by unfold maxLen; omega) (by omega) (by simp) ?_)
 intro v2 w2 hown2 hgrow2 _
 try simp only [Nat.zero_add, List.nil_append] at hown2
 obtain ⟨a2, c2, rfl⟩ := row_shape hown2
 have G2 : W4.grownBy w2 none := hgrow2
 have hbw : Below W4.heap.size W4 w2 := (Below.refl _ _).grown G2 (Nat.le_refl _) (fun k hk => by cases hk)
 have K0b := Lib.hid (K0c.out.below hbw K0c.out.lt)
 have K1b := Lib.hid (K1c.out.below hbw K1c.out.lt)
 have B7 := Lib.hid (B5.out.trans (hbw.mono B5.out.size))
 obtain ⟨g, hg, hO⟩ := ownU_of_row rfl hown2
 obtain ⟨us, hus, hun, hul⟩ := own_P hO _ hg
 have HP := Lib.hid hus
 have HUN := Lib.hid hun
 have HUL := Lib.hid hul
 have O4 := Lib.hid (O1.out.keep fun b hb => hbw.block b (O1.out.lt b hb))
 have HND := Lib.hid (nodup_app HDN.out HUN.out O1.out.lt HUL.out)
 have HGE : Hid (∀ b ∈ ds ++ us, w.heap.size + 2 ≤ b) := fun b hb => by
  rcases List.mem_append.1 hb with hb | hb
  ·exact HDL.out b hb
  ·have := HUL.out b hb; omega
 clear hgrow2 G2 hown2 hO hg c0 l0 hbw hus hun hul
 have d2 := K0b.out.cell
 have f2 := K0b.out.free
 go_upto_region 3 with (fail)
 obtain ⟨W6, hW6⟩ : ∃ W6, W6 = w2.setCell ⟨w.heap.size, 10, none⟩ (.slice a2 ups.length c2) := ⟨_, rfl⟩
 have K0d : Hid (Blk W6 w.heap.size [.int .i64 r, .int .i64 n, .slice a1 dep.length c1, .int .i64 actor, .int .i64 kind, .int .i64 dst, .int .i64 bucket, .int .i64 mask, .int .i64 gr, .int .i64 gn, .slice a2 ups.length c2]) := by rw [hW6]; exact K0b.out.set (j := 10) (by simp) _
 have K1d : Hid (Blk W6 (w.heap.size + 1) [.int .i64 0, .int .i64 0, .slice none 0 0, .int .i64 0, .int .i64 0, .int .i64 0, .int .i64 0, .int .i64 0, .int .i64 0, .int .i64 0, .slice none 0 0]) := by rw [hW6]; exact K1b.out.other (by simp) _
 have B8 : Hid (Below w.heap.size w W6) := by rw [hW6]; exact B7.out.setCell (by simp) _
 have O5 : Hid (OwnI W6 ds (.slice a1 dep.length c1) dep) := by
  rw [hW6]
  exact O4.out.keep fun b hb => Below.heap_setCell _ _ _ _ (by have := HDL.out b hb; simp; omega)
 have P5 : Hid (OwnP W6 us (.slice a2 ups.length c2) ups) := by
  rw [hW6]
  exact HP.out.keep fun b hb => Below.heap_setCell _ _ _ _ (by have := HGE.out b (by simp [hb]); simp; omega)
 rw [← hW6]
 clear hW6 d2 f2 K0b K1b B7 HP O4 O1 K0c K1c B5
 have c0 := K0d.out.cell
 have c9 := K1d.out.cell
 have f9 := K1d.out.free
 go_wp2
 refine bodyPost_ret (v := .agg #[.int .i64 r, .int .i64 n, .slice a1 dep.length c1, .int .i64 actor, .int .i64 kind, .int .i64 dst, .int .i64 bucket, .int .i64 mask, .int .i64 gr, .int .i64 gn, .slice a2 ups.length c2]) (by simp [results, Tryz.results46, go_sem, c9]) rfl ⟨⟨⟨r, n, dep, actor, kind, dst, bucket, mask, gr, gn, ups⟩, .slice a1 dep.length c1, .slice a2 ups.length c2⟩, ds, us, rfl, rfl, O5.out.keep fun b hb => ?_, P5.out.keep fun b hb => ?_, HND.out, fun b hb => by have := HGE.out b hb; omega, ?_⟩
 ·have := HGE.out b (by simp [hb])
  repeat rw [Below.heap_setCell _ _ _ _ (by simp; omega)]
 ·have := HGE.out b (by simp [hb])
  repeat rw [Below.heap_setCell _ _ _ _ (by simp; omega)]
 ·repeat (with_reducible refine Below.setCell ?_ ?_ _)
  all_goals (first | exact B8.out | (simp; done) | (simp; omega))
end Go.Proofs.YtcjoecjijmkbaaaGreat
