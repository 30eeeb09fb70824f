/- Lists of acts whose blocks are apart; markActS, heldActS. -/
import Derived.Test.YtjjgigoehgabkaaDoorHA
import Derived.Test.YtjjgigoehgabkaaDoorML


namespace Go.Proofs.YtjjgigoehgabkaaDoor
open Go.RowKit
set_option linter.unusedVariables false

/-- w' is w but for the blocks bs and what is new -/
structure GrOn (bs : List Nat) (w w' : World) : Prop where
  os : w'.os = w.os
  tape : w'.tape = w.tape
  output : w'.output = w.output
  size : w.heap.size ≤ w'.heap.size
  same : ∀ k, k < w.heap.size → k ∉ bs → w'.heap[k]? = w.heap[k]?
theorem GrOn.refl (bs : List Nat) (w : World) : GrOn bs w w := ⟨rfl, rfl, rfl, Nat.le_refl _, fun _ _ _ => rfl⟩
theorem GrOn.trans {bs : List Nat} {a b c : World} (h : GrOn bs a b) (k : GrOn bs b c) : GrOn bs a c :=
  ⟨k.os.trans h.os, k.tape.trans h.tape, k.output.trans h.output, Nat.le_trans h.size k.size, fun i hi hn => (k.same i (Nat.lt_of_lt_of_le hi h.size) hn).trans (h.same i hi hn)⟩
theorem GrOn.sub {bs cs : List Nat} {a b : World} (h : GrOn bs a b) (hs : ∀ x ∈ bs, x ∈ cs) : GrOn cs a b := ⟨h.os, h.tape, h.output, h.size, fun k hk hn => h.same k hk (fun hm => hn (hs k hm))⟩
theorem GrOn.of_grown {g : Nat} {w w' : World} (h : w.grownBy w' (some g)) : GrOn [g] w w' := ⟨h.os, h.tape, h.output, h.size, fun k hk hn => h.block k hk (fun e => hn (by cases e; simp))⟩
theorem GrOn.of_below {w w' : World} (h : Below w.heap.size w w') (bs : List Nat) : GrOn bs w w' := ⟨h.os, h.tape, h.output, h.size, fun k hk _ => h.block k hk⟩
theorem GrOn.below {bs : List Nat} {w w' : World} {B : Nat} (h : GrOn bs w w') (hb : ∀ b ∈ bs, B ≤ b) (hB : B ≤ w.heap.size) : Below B w w' :=
  ⟨h.os, h.tape, h.output, h.size, fun k hk => h.same k (by omega) (fun hm => by have := hb k hm; omega)⟩

def OwnI (w : World) (ds : List Nat) (v : Value) (xs : List Int) : Prop := (xs = [] ∧ ds = [] ∧ ∃ a cap, v = .slice a 0 cap) ∨ ∃ d, ds = [d] ∧ 0 < xs.length ∧ Own w d v xs
def OwnP (w : World) (ds : List Nat) (v : Value) (us : List UpM) : Prop := (us = [] ∧ ds = [] ∧ ∃ a cap, v = .slice a 0 cap) ∨ ∃ d, ds = [d] ∧ 0 < us.length ∧ OwnU w d v us
theorem OwnI.ints {w : World} {ds : List Nat} {v : Value} {xs : List Int} (h : OwnI w ds v xs) : Ints w v xs := by
  rcases h with ⟨rfl, _, a, cap, rfl⟩ | ⟨d, _, _, h⟩
  · exact .inl ⟨a, cap, rfl, rfl⟩
  · exact own_ints h
theorem OwnP.ups {w : World} {ds : List Nat} {v : Value} {us : List UpM} (h : OwnP w ds v us) : Ups w v us := by
  rcases h with ⟨rfl, _, a, cap, rfl⟩ | ⟨d, _, _, h⟩
  · exact .inl ⟨a, cap, rfl, rfl⟩
  · exact ownU_ups h
theorem OwnI.keep {w w' : World} {ds : List Nat} {v : Value} {xs : List Int} (h : OwnI w ds v xs) (hk : ∀ b ∈ ds, w'.heap[b]? = w.heap[b]?) : OwnI w' ds v xs := by
  rcases h with h | ⟨d, rfl, hp, h⟩
  · exact .inl h
  · exact .inr ⟨d, rfl, hp, h.block fun _ => hk d (by simp)⟩
theorem OwnP.keep {w w' : World} {ds : List Nat} {v : Value} {us : List UpM} (h : OwnP w ds v us) (hk : ∀ b ∈ ds, w'.heap[b]? = w.heap[b]?) : OwnP w' ds v us := by
  rcases h with h | ⟨d, rfl, hp, h⟩
  · exact .inl h
  · exact .inr ⟨d, rfl, hp, h.block fun _ => hk d (by simp)⟩
theorem OwnI.lt {w : World} {ds : List Nat} {v : Value} {xs : List Int} (h : OwnI w ds v xs) : ∀ b ∈ ds, b < w.heap.size := by
  rcases h with ⟨_, rfl, _⟩ | ⟨d, rfl, hp, h⟩
  · intro b hb; cases hb
  · intro b hb; rw [List.mem_singleton.1 hb]; exact own_lt h hp
theorem OwnP.lt {w : World} {ds : List Nat} {v : Value} {us : List UpM} (h : OwnP w ds v us) : ∀ b ∈ ds, b < w.heap.size := by
  rcases h with ⟨_, rfl, _⟩ | ⟨d, rfl, hp, h⟩
  · intro b hb; cases hb
  · intro b hb; rw [List.mem_singleton.1 hb]; exact ownU_lt h hp

/-- the lists of the acts lie in the blocks bs, each in its own -/
def Lists (w : World) : List ActT → List Nat → Prop
  | [], bs => bs = []
  | t :: ts, bs => ∃ ds us rest, bs = ds ++ us ++ rest ∧ OwnI w ds t.vd t.a.dep ∧ OwnP w us t.vs t.a.ups ∧ Lists w ts rest
theorem Lists.keep {w w' : World} : ∀ {ts : List ActT} {bs : List Nat}, Lists w ts bs → (∀ b ∈ bs, w'.heap[b]? = w.heap[b]?) → Lists w' ts bs
  | [], _, h, _ => h
  | t :: ts, bs, ⟨ds, us, rest, e, h1, h2, h3⟩, hk => by
    subst e
    exact ⟨ds, us, rest, rfl, h1.keep fun b hb => hk b (by simp [hb]), h2.keep fun b hb => hk b (by simp [hb]), h3.keep fun b hb => hk b (by simp [hb])⟩
theorem Lists.lt {w : World} : ∀ {ts : List ActT} {bs : List Nat}, Lists w ts bs → ∀ b ∈ bs, b < w.heap.size
  | [], bs, h, b, hb => by rw [h] at hb; cases hb
  | t :: ts, bs, ⟨ds, us, rest, e, h1, h2, h3⟩, b, hb => by
    subst e
    simp only [List.mem_append] at hb
    rcases hb with (hb | hb) | hb
    · exact h1.lt b hb
    · exact h2.lt b hb
    · exact h3.lt b hb
theorem Lists.reads {w : World} : ∀ {ts : List ActT} {bs : List Nat}, Lists w ts bs → ∀ t ∈ ts, t.Reads w
  | [], _, _, t, ht => by cases ht
  | s :: ts, bs, ⟨ds, us, rest, e, h1, h2, h3⟩, t, ht => by
    rcases List.mem_cons.1 ht with rfl | ht
    · exact ⟨h1.ints, h2.ups⟩
    · exact h3.reads t ht
theorem Lists.snoc {w : World} : ∀ {ts : List ActT} {bs ds us : List Nat} {t : ActT}, Lists w ts bs → OwnI w ds t.vd t.a.dep → OwnP w us t.vs t.a.ups → Lists w (ts ++ [t]) (bs ++ (ds ++ us))
  | [], bs, ds, us, t, h, h1, h2 => by
    have hb : bs = [] := h
    subst hb
    exact ⟨ds, us, [], by simp, h1, h2, rfl⟩
  | s :: ts, bs, ds, us, t, ⟨ds', us', rest, e, q1, q2, q3⟩, h1, h2 => by
    subst e
    exact ⟨ds', us', rest ++ (ds ++ us), by simp, q1, q2, q3.snoc h1 h2⟩
theorem Chain.lists {w : World} : ∀ {ts : List ActT} {lo hi : Nat}, Chain w lo ts hi → ∃ bs, Lists w ts bs ∧ bs.Nodup ∧ ∀ b ∈ bs, lo ≤ b ∧ b < hi
  | [], lo, hi, _ => ⟨[], rfl, List.nodup_nil, fun b hb => by cases hb⟩
  | t :: ts, lo, hi, ⟨d, u, h1, h2, h3, h4, h5⟩ => by
    obtain ⟨rest, l1, l2, l3⟩ := h5.lists
    have hle := h5.le
    obtain ⟨ds, i1, i2, i3⟩ : ∃ ds, OwnI w ds t.vd t.a.dep ∧ ds.Nodup ∧ ∀ b ∈ ds, b = d := by
      by_cases hp : 0 < t.a.dep.length
      · exact ⟨[d], .inr ⟨d, rfl, hp, h3⟩, by simp, fun b hb => List.mem_singleton.1 hb⟩
      · refine ⟨[], .inl ⟨List.eq_nil_of_length_eq_zero (by omega), rfl, ?_⟩, List.nodup_nil, fun b hb => by cases hb⟩
        rcases h3 with ⟨a, cap, h, _⟩ | ⟨h, _⟩
        · exact ⟨a, cap, h⟩
        · omega
    obtain ⟨us, j1, j2, j3⟩ : ∃ us, OwnP w us t.vs t.a.ups ∧ us.Nodup ∧ ∀ b ∈ us, b = u := by
      by_cases hp : 0 < t.a.ups.length
      · exact ⟨[u], .inr ⟨u, rfl, hp, h4⟩, by simp, fun b hb => List.mem_singleton.1 hb⟩
      · refine ⟨[], .inl ⟨List.eq_nil_of_length_eq_zero (by omega), rfl, ?_⟩, List.nodup_nil, fun b hb => by cases hb⟩
        rcases h4 with ⟨a, cap, h, _⟩ | ⟨h, _⟩
        · exact ⟨a, cap, h⟩
        · omega
    refine ⟨ds ++ us ++ rest, ⟨ds, us, rest, rfl, i1, j1, l1⟩, ?_, ?_⟩
    · rw [List.nodup_append, List.nodup_append]
      refine ⟨⟨i2, j2, fun a ha b hb => ?_⟩, l2, fun a ha b hb => ?_⟩
      · have := i3 a ha; have := j3 b hb; omega
      · have h9 := l3 b hb
        rcases List.mem_append.1 ha with ha | ha
        · have := i3 a ha; omega
        · have := j3 a ha; omega
    · intro b hb
      simp only [List.mem_append] at hb
      rcases hb with (hb | hb) | hb
      · have := i3 b hb; omega
      · have := j3 b hb; omega
      · have := l3 b hb; omega

/-- v is a slice of the acts l, all of it in the blocks bs, each list in a block of its own -/
def OwnL (w : World) (v : Value) (l : List ActM) (bs : List Nat) : Prop :=
  (l = [] ∧ bs = [] ∧ ∃ a cap, v = .slice a 0 cap) ∨
  ∃ (ts : List ActT) (g n cap : Nat) (cs : List Nat), ts.map ActT.a = l ∧ ts.length = n ∧ bs = g :: cs ∧ bs.Nodup ∧ v = .slice (some ⟨g, 0, none⟩) n cap ∧ w.ownsRow g 30 11 (.slice (some ⟨g, 0, none⟩) n cap) n (va ts) ∧ Lists w ts cs
theorem row_lt {w : World} {g e size n cap : Nat} {xs : List Value} (h : w.ownsRow g e size (.slice (some ⟨g, 0, none⟩) n cap) n xs) : g < w.heap.size := by
  obtain ⟨cs, cur, h⟩ := row_type h
  exact (Array.getElem?_eq_some_iff.1 h).1
theorem OwnL.lt {w : World} {v : Value} {l : List ActM} {bs : List Nat} (h : OwnL w v l bs) : ∀ b ∈ bs, b < w.heap.size := by
  rcases h with ⟨_, rfl, _⟩ | ⟨ts, g, n, cap, cs, _, _, rfl, _, rfl, ho, hl⟩
  · intro b hb; cases hb
  · intro b hb
    rcases List.mem_cons.1 hb with rfl | hb
    · exact row_lt ho
    · exact hl.lt b hb
theorem OwnL.keep {w w' : World} {v : Value} {l : List ActM} {bs : List Nat} (h : OwnL w v l bs) (hk : ∀ b ∈ bs, w'.heap[b]? = w.heap[b]?) : OwnL w' v l bs := by
  rcases h with h | ⟨ts, g, n, cap, cs, h1, h2, rfl, h4, rfl, ho, hl⟩
  · exact .inl h
  · exact .inr ⟨ts, g, n, cap, cs, h1, h2, rfl, h4, rfl, row_block ho (hk g (by simp)), hl.keep fun b hb => hk b (List.mem_cons_of_mem _ hb)⟩
theorem OwnL.below {w w' : World} {v : Value} {l : List ActM} {bs : List Nat} (h : OwnL w v l bs) (hb : Below w.heap.size w w') : OwnL w' v l bs := h.keep fun b hm => hb.block b (h.lt b hm)
theorem OwnL.other {w w' : World} {v : Value} {l : List ActM} {bs cs : List Nat} (h : OwnL w v l bs) (hg : GrOn cs w w') (hd : ∀ b ∈ bs, b ∉ cs) : OwnL w' v l bs := h.keep fun b hm => hg.same b (h.lt b hm) (hd b hm)
theorem OwnL.acts {w : World} {v : Value} {l : List ActM} {bs : List Nat} (h : OwnL w v l bs) : Acts w v l := by
  rcases h with ⟨rfl, _, a, cap, rfl⟩ | ⟨ts, g, n, cap, cs, h1, rfl, rfl, h4, rfl, ho, hl⟩
  · exact acts_empty _ _ _
  · refine ⟨ts, h1.symm, hl.reads, ?_⟩
    rcases ho.2 with ⟨h', hx⟩ | ⟨g', cap', cur, h', hbg, hg, hx, hy, _⟩
    · simp at h'
    · simp only [Value.slice.injEq, Option.some.injEq, Addr.mk.injEq, and_true, true_and] at h'
      obtain ⟨rfl, rfl⟩ := h'
      exact .inr ⟨_, 0, _, rfl, (Array.getElem?_eq_some_iff.1 hg).1, hx, hy, fun i hi => by rw [Nat.zero_add]; exact row_actAt ho i rfl hi⟩
theorem toMade_own {w w' : World} {l : List ActM} {e : Ending} (h : ToMade w l e w') : ∃ v bs, e = .returned v ∧ OwnL w' v l bs ∧ (∀ b ∈ bs, w.heap.size ≤ b) ∧ Below w.heap.size w w' := by
  obtain ⟨ts, hl, rfl, ho, hc, hb⟩ := h
  obtain ⟨cs, l1, l2, l3⟩ := hc.lists
  refine ⟨_, w.heap.size :: cs, rfl, .inr ⟨ts, _, _, _, cs, hl, rfl, rfl, List.nodup_cons.2 ⟨fun hm => by have := l3 _ hm; omega, l2⟩, rfl, ho, l1⟩, ?_, hb⟩
  intro b hm
  rcases List.mem_cons.1 hm with rfl | hm
  · exact Nat.le_refl _
  · have := l3 b hm; omega
end Go.Proofs.YtjjgigoehgabkaaDoor
