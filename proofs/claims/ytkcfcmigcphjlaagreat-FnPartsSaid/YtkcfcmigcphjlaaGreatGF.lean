/- HA, HB, HC, HD, HF, HG, JA, JB, JC, KA, TE, TA, TG. -/
import Derived.Test.YtkcfcmigcphjlaaGreatGA
import Derived.Test.YtkcfcmigcphjlaaGreatGAA
import Derived.Test.YtkcfcmigcphjlaaGreatHE
import Derived.Test.YtkcfcmigcphjlaaGreatGC
import Derived.Test.YtkcfcmigcphjlaaGreatGE
import Derived.Test.YtkcfcmigcphjlaaGreatGD
import Derived.RangeFuncBox
import Derived.RangeFuncNested
import Derived.Shelf.RegionOpen
import Derived.Deep.AppendLies
import Derived.BigQuiet
import Derived.Deep.QuietTactic
import Derived.Deep.DeepCutAuto
import Derived.StillTailTactics
import Derived.RangeFuncKeeps
import Derived.RangeFuncLeaves
import Derived.RangeFuncBound
import Derived.Shelf.Abstract
import Derived.WalkKit
import Derived.OwnWalkIn
import Derived.TacticsInMore
import Derived.LoopNIn
import Derived.LoopIn
import Derived.BigFrameIn


namespace Go.Proofs.YtkcfcmigcphjlaaGreat
open Go.RowKit
set_option linter.unusedVariables false

/-- ups as they are marked from k on: four numbers each -/
def mkU (k : Int) : List UpM → List UpM
  | [] => []
  | _ :: us => ⟨k, k + 1, k + 1 + 1, k + 1 + 1 + 1⟩ :: mkU (k + 4) us
theorem mkU_length : ∀ (k : Int) (us : List UpM), (mkU k us).length = us.length
  | _, [] => rfl
  | k, u :: us => by simp [mkU, mkU_length (k + 4) us]
theorem mkU_getD : ∀ (k : Int) (us : List UpM) (i : Nat), i < us.length → (mkU k us).getD i up0 = ⟨k + 4 * i, k + 4 * i + 1, k + 4 * i + 1 + 1, k + 4 * i + 1 + 1 + 1⟩
  | k, [], i, h => by simp at h
  | k, u :: us, 0, _ => by simp [mkU]
  | k, u :: us, i + 1, h => by
    rw [mkU, List.getD_cons_succ, mkU_getD (k + 4) us i (by simpa using h)]
    have e : k + 4 + 4 * (i : Int) = k + 4 * ((i + 1 : Nat) : Int) := by omega
    rw [e]
theorem mkU_step (k : Int) (us : List UpM) (j : Nat) (h : j < us.length) : ((mkU k us).take j ++ us.drop j).set j ⟨k + 4 * j, k + 4 * j + 1, k + 4 * j + 1 + 1, k + 4 * j + 1 + 1 + 1⟩ = (mkU k us).take (j + 1) ++ us.drop (j + 1) := by
  have hl := mkU_length k us
  have hg := mkU_getD k us j h
  rw [List.set_append_right _ _ (by simp; omega), List.length_take, Nat.min_eq_left (by omega), Nat.sub_self, List.drop_eq_getElem_cons h, List.set_cons_zero, List.take_succ_eq_append_getElem (by omega), List.append_assoc]
  congr 1
  simp only [List.getD, List.getElem?_eq_getElem (show j < (mkU k us).length by omega), Option.getD_some] at hg
  rw [hg]
  rfl

end Go.Proofs.YtkcfcmigcphjlaaGreat


namespace Go.Proofs.YtkcfcmigcphjlaaGreat
open Go.RowKit
set_option linter.unusedVariables false

/-- w' is w but for the blocks bs and what is new -/
structure GrOn (bs : List Nat) (w w' : World) : Prop where
  os : w'.os = w.os
  tape : w'.tape = w.tape
  output : w'.output = w.output
  size : w.heap.size ≤ w'.heap.size
  same : ∀ k, k < w.heap.size → k ∉ bs → w'.heap[k]? = w.heap[k]?
theorem GrOn.refl (bs : List Nat) (w : World) : GrOn bs w w := ⟨rfl, rfl, rfl, Nat.le_refl _, fun _ _ _ => rfl⟩
theorem GrOn.trans {bs : List Nat} {a b c : World} (h : GrOn bs a b) (k : GrOn bs b c) : GrOn bs a c :=
  ⟨k.os.trans h.os, k.tape.trans h.tape, k.output.trans h.output, Nat.le_trans h.size k.size, fun i hi hn => (k.same i (Nat.lt_of_lt_of_le hi h.size) hn).trans (h.same i hi hn)⟩
theorem GrOn.sub {bs cs : List Nat} {a b : World} (h : GrOn bs a b) (hs : ∀ x ∈ bs, x ∈ cs) : GrOn cs a b := ⟨h.os, h.tape, h.output, h.size, fun k hk hn => h.same k hk (fun hm => hn (hs k hm))⟩
theorem GrOn.of_grown {g : Nat} {w w' : World} (h : w.grownBy w' (some g)) : GrOn [g] w w' := ⟨h.os, h.tape, h.output, h.size, fun k hk hn => h.block k hk (fun e => hn (by cases e; simp))⟩
theorem GrOn.of_below {w w' : World} (h : Below w.heap.size w w') (bs : List Nat) : GrOn bs w w' := ⟨h.os, h.tape, h.output, h.size, fun k hk _ => h.block k hk⟩
theorem GrOn.below {bs : List Nat} {w w' : World} {B : Nat} (h : GrOn bs w w') (hb : ∀ b ∈ bs, B ≤ b) (hB : B ≤ w.heap.size) : Below B w w' :=
  ⟨h.os, h.tape, h.output, h.size, fun k hk => h.same k (by omega) (fun hm => by have := hb k hm; omega)⟩

def OwnI (w : World) (ds : List Nat) (v : Value) (xs : List Int) : Prop := (xs = [] ∧ ds = [] ∧ ∃ a cap, v = .slice a 0 cap) ∨ ∃ d, ds = [d] ∧ 0 < xs.length ∧ Own w d v xs
def OwnP (w : World) (ds : List Nat) (v : Value) (us : List UpM) : Prop := (us = [] ∧ ds = [] ∧ ∃ a cap, v = .slice a 0 cap) ∨ ∃ d, ds = [d] ∧ 0 < us.length ∧ OwnU w d v us
theorem OwnI.ints {w : World} {ds : List Nat} {v : Value} {xs : List Int} (h : OwnI w ds v xs) : Ints w v xs := by
  rcases h with ⟨rfl, _, a, cap, rfl⟩ | ⟨d, _, _, h⟩
  · exact .inl ⟨a, cap, rfl, rfl⟩
  · exact own_ints h
theorem OwnP.ups {w : World} {ds : List Nat} {v : Value} {us : List UpM} (h : OwnP w ds v us) : Ups w v us := by
  rcases h with ⟨rfl, _, a, cap, rfl⟩ | ⟨d, _, _, h⟩
  · exact .inl ⟨a, cap, rfl, rfl⟩
  · exact ownU_ups h
theorem OwnI.keep {w w' : World} {ds : List Nat} {v : Value} {xs : List Int} (h : OwnI w ds v xs) (hk : ∀ b ∈ ds, w'.heap[b]? = w.heap[b]?) : OwnI w' ds v xs := by
  rcases h with h | ⟨d, rfl, hp, h⟩
  · exact .inl h
  · exact .inr ⟨d, rfl, hp, h.block fun _ => hk d (by simp)⟩
theorem OwnP.keep {w w' : World} {ds : List Nat} {v : Value} {us : List UpM} (h : OwnP w ds v us) (hk : ∀ b ∈ ds, w'.heap[b]? = w.heap[b]?) : OwnP w' ds v us := by
  rcases h with h | ⟨d, rfl, hp, h⟩
  · exact .inl h
  · exact .inr ⟨d, rfl, hp, h.block fun _ => hk d (by simp)⟩
theorem OwnI.lt {w : World} {ds : List Nat} {v : Value} {xs : List Int} (h : OwnI w ds v xs) : ∀ b ∈ ds, b < w.heap.size := by
  rcases h with ⟨_, rfl, _⟩ | ⟨d, rfl, hp, h⟩
  · intro b hb; cases hb
  · intro b hb; rw [List.mem_singleton.1 hb]; exact own_lt h hp
theorem OwnP.lt {w : World} {ds : List Nat} {v : Value} {us : List UpM} (h : OwnP w ds v us) : ∀ b ∈ ds, b < w.heap.size := by
  rcases h with ⟨_, rfl, _⟩ | ⟨d, rfl, hp, h⟩
  · intro b hb; cases hb
  · intro b hb; rw [List.mem_singleton.1 hb]; exact ownU_lt h hp

/-- the lists of the acts lie in the blocks bs, each in its own -/
def Lists (w : World) : List ActT → List Nat → Prop
  | [], bs => bs = []
  | t :: ts, bs => ∃ ds us rest, bs = ds ++ us ++ rest ∧ OwnI w ds t.vd t.a.dep ∧ OwnP w us t.vs t.a.ups ∧ Lists w ts rest
theorem Lists.keep {w w' : World} : ∀ {ts : List ActT} {bs : List Nat}, Lists w ts bs → (∀ b ∈ bs, w'.heap[b]? = w.heap[b]?) → Lists w' ts bs
  | [], _, h, _ => h
  | t :: ts, bs, ⟨ds, us, rest, e, h1, h2, h3⟩, hk => by
    subst e
    exact ⟨ds, us, rest, rfl, h1.keep fun b hb => hk b (by simp [hb]), h2.keep fun b hb => hk b (by simp [hb]), h3.keep fun b hb => hk b (by simp [hb])⟩
theorem Lists.lt {w : World} : ∀ {ts : List ActT} {bs : List Nat}, Lists w ts bs → ∀ b ∈ bs, b < w.heap.size
  | [], bs, h, b, hb => by rw [h] at hb; cases hb
  | t :: ts, bs, ⟨ds, us, rest, e, h1, h2, h3⟩, b, hb => by
    subst e
    simp only [List.mem_append] at hb
    rcases hb with (hb | hb) | hb
    · exact h1.lt b hb
    · exact h2.lt b hb
    · exact h3.lt b hb
theorem Lists.reads {w : World} : ∀ {ts : List ActT} {bs : List Nat}, Lists w ts bs → ∀ t ∈ ts, t.Reads w
  | [], _, _, t, ht => by cases ht
  | s :: ts, bs, ⟨ds, us, rest, e, h1, h2, h3⟩, t, ht => by
    rcases List.mem_cons.1 ht with rfl | ht
    · exact ⟨h1.ints, h2.ups⟩
    · exact h3.reads t ht
theorem Lists.snoc {w : World} : ∀ {ts : List ActT} {bs ds us : List Nat} {t : ActT}, Lists w ts bs → OwnI w ds t.vd t.a.dep → OwnP w us t.vs t.a.ups → Lists w (ts ++ [t]) (bs ++ (ds ++ us))
  | [], bs, ds, us, t, h, h1, h2 => by
    have hb : bs = [] := h
    subst hb
    exact ⟨ds, us, [], by simp, h1, h2, rfl⟩
  | s :: ts, bs, ds, us, t, ⟨ds', us', rest, e, q1, q2, q3⟩, h1, h2 => by
    subst e
    exact ⟨ds', us', rest ++ (ds ++ us), by simp, q1, q2, q3.snoc h1 h2⟩
theorem Chain.lists {w : World} : ∀ {ts : List ActT} {lo hi : Nat}, Chain w lo ts hi → ∃ bs, Lists w ts bs ∧ bs.Nodup ∧ ∀ b ∈ bs, lo ≤ b ∧ b < hi
  | [], lo, hi, _ => ⟨[], rfl, List.nodup_nil, fun b hb => by cases hb⟩
  | t :: ts, lo, hi, ⟨d, u, h1, h2, h3, h4, h5⟩ => by
    obtain ⟨rest, l1, l2, l3⟩ := h5.lists
    have hle := h5.le
    obtain ⟨ds, i1, i2, i3⟩ : ∃ ds, OwnI w ds t.vd t.a.dep ∧ ds.Nodup ∧ ∀ b ∈ ds, b = d := by
      by_cases hp : 0 < t.a.dep.length
      · exact ⟨[d], .inr ⟨d, rfl, hp, h3⟩, by simp, fun b hb => List.mem_singleton.1 hb⟩
      · refine ⟨[], .inl ⟨List.eq_nil_of_length_eq_zero (by omega), rfl, ?_⟩, List.nodup_nil, fun b hb => by cases hb⟩
        rcases h3 with ⟨a, cap, h, _⟩ | ⟨h, _⟩
        · exact ⟨a, cap, h⟩
        · omega
    obtain ⟨us, j1, j2, j3⟩ : ∃ us, OwnP w us t.vs t.a.ups ∧ us.Nodup ∧ ∀ b ∈ us, b = u := by
      by_cases hp : 0 < t.a.ups.length
      · exact ⟨[u], .inr ⟨u, rfl, hp, h4⟩, by simp, fun b hb => List.mem_singleton.1 hb⟩
      · refine ⟨[], .inl ⟨List.eq_nil_of_length_eq_zero (by omega), rfl, ?_⟩, List.nodup_nil, fun b hb => by cases hb⟩
        rcases h4 with ⟨a, cap, h, _⟩ | ⟨h, _⟩
        · exact ⟨a, cap, h⟩
        · omega
    refine ⟨ds ++ us ++ rest, ⟨ds, us, rest, rfl, i1, j1, l1⟩, ?_, ?_⟩
    · rw [List.nodup_append, List.nodup_append]
      refine ⟨⟨i2, j2, fun a ha b hb => ?_⟩, l2, fun a ha b hb => ?_⟩
      · have := i3 a ha; have := j3 b hb; omega
      · have h9 := l3 b hb
        rcases List.mem_append.1 ha with ha | ha
        · have := i3 a ha; omega
        · have := j3 a ha; omega
    · intro b hb
      simp only [List.mem_append] at hb
      rcases hb with (hb | hb) | hb
      · have := i3 b hb; omega
      · have := j3 b hb; omega
      · have := l3 b hb; omega

/-- v is a slice of the acts l, all of it in the blocks bs, each list in a block of its own -/
def OwnL (w : World) (v : Value) (l : List ActM) (bs : List Nat) : Prop :=
  (l = [] ∧ bs = [] ∧ ∃ a cap, v = .slice a 0 cap) ∨
  ∃ (ts : List ActT) (g n cap : Nat) (cs : List Nat), ts.map ActT.a = l ∧ ts.length = n ∧ bs = g :: cs ∧ bs.Nodup ∧ v = .slice (some ⟨g, 0, none⟩) n cap ∧ w.ownsRow g 33 11 (.slice (some ⟨g, 0, none⟩) n cap) n (va ts) ∧ Lists w ts cs
theorem row_lt {w : World} {g e size n cap : Nat} {xs : List Value} (h : w.ownsRow g e size (.slice (some ⟨g, 0, none⟩) n cap) n xs) : g < w.heap.size := by
  obtain ⟨cs, cur, h⟩ := row_type h
  exact (Array.getElem?_eq_some_iff.1 h).1
theorem OwnL.lt {w : World} {v : Value} {l : List ActM} {bs : List Nat} (h : OwnL w v l bs) : ∀ b ∈ bs, b < w.heap.size := by
  rcases h with ⟨_, rfl, _⟩ | ⟨ts, g, n, cap, cs, _, _, rfl, _, rfl, ho, hl⟩
  · intro b hb; cases hb
  · intro b hb
    rcases List.mem_cons.1 hb with rfl | hb
    · exact row_lt ho
    · exact hl.lt b hb
theorem OwnL.keep {w w' : World} {v : Value} {l : List ActM} {bs : List Nat} (h : OwnL w v l bs) (hk : ∀ b ∈ bs, w'.heap[b]? = w.heap[b]?) : OwnL w' v l bs := by
  rcases h with h | ⟨ts, g, n, cap, cs, h1, h2, rfl, h4, rfl, ho, hl⟩
  · exact .inl h
  · exact .inr ⟨ts, g, n, cap, cs, h1, h2, rfl, h4, rfl, row_block ho (hk g (by simp)), hl.keep fun b hb => hk b (List.mem_cons_of_mem _ hb)⟩
theorem OwnL.below {w w' : World} {v : Value} {l : List ActM} {bs : List Nat} (h : OwnL w v l bs) (hb : Below w.heap.size w w') : OwnL w' v l bs := h.keep fun b hm => hb.block b (h.lt b hm)
theorem OwnL.other {w w' : World} {v : Value} {l : List ActM} {bs cs : List Nat} (h : OwnL w v l bs) (hg : GrOn cs w w') (hd : ∀ b ∈ bs, b ∉ cs) : OwnL w' v l bs := h.keep fun b hm => hg.same b (h.lt b hm) (hd b hm)
theorem OwnL.acts {w : World} {v : Value} {l : List ActM} {bs : List Nat} (h : OwnL w v l bs) : Acts w v l := by
  rcases h with ⟨rfl, _, a, cap, rfl⟩ | ⟨ts, g, n, cap, cs, h1, rfl, rfl, h4, rfl, ho, hl⟩
  · exact acts_empty _ _ _
  · refine ⟨ts, h1.symm, hl.reads, ?_⟩
    rcases ho.2 with ⟨h', hx⟩ | ⟨g', cap', cur, h', hbg, hg, hx, hy, _⟩
    · simp at h'
    · simp only [Value.slice.injEq, Option.some.injEq, Addr.mk.injEq, and_true, true_and] at h'
      obtain ⟨rfl, rfl⟩ := h'
      exact .inr ⟨_, 0, _, rfl, (Array.getElem?_eq_some_iff.1 hg).1, hx, hy, fun i hi => by rw [Nat.zero_add]; exact row_actAt ho i rfl hi⟩
theorem toMade_own {w w' : World} {l : List ActM} {e : Ending} (h : ToMade w l e w') : ∃ v bs, e = .returned v ∧ OwnL w' v l bs ∧ (∀ b ∈ bs, w.heap.size ≤ b) ∧ Below w.heap.size w w' := by
  obtain ⟨ts, hl, rfl, ho, hc, hb⟩ := h
  obtain ⟨cs, l1, l2, l3⟩ := hc.lists
  refine ⟨_, w.heap.size :: cs, rfl, .inr ⟨ts, _, _, _, cs, hl, rfl, rfl, List.nodup_cons.2 ⟨fun hm => by have := l3 _ hm; omega, l2⟩, rfl, ho, l1⟩, ?_, hb⟩
  intro b hm
  rcases List.mem_cons.1 hm with rfl | hm
  · exact Nat.le_refl _
  · have := l3 b hm; omega
end Go.Proofs.YtkcfcmigcphjlaaGreat

namespace Go.Proofs.YtkcfcmigcphjlaaGreat
open Go.RowKit
set_option linter.unusedVariables false

/-- an act as it is marked from k on -/
def mkD (a : ActM) (k : Int) : Int := k + 1 + 1 + a.dep.length
def mkA (k : Int) (a : ActM) : ActM := ⟨k, k + 1, iota (k + 1 + 1) a.dep.length, mkD a k, mkD a k + 1, mkD a k + 1 + 1, mkD a k + 1 + 1 + 1, mkD a k + 1 + 1 + 1 + 1, mkD a k + 1 + 1 + 1 + 1 + 1, mkD a k + 1 + 1 + 1 + 1 + 1 + 1, mkU (mkD a k + 1 + 1 + 1 + 1 + 1 + 1 + 1) a.ups⟩
def szA (a : ActM) : Nat := 9 + a.dep.length + 4 * a.ups.length
def mkL (k : Int) : List ActM → List ActM
  | [] => []
  | a :: l => mkA k a :: mkL (k + szA a) l
def szL : List ActM → Nat
  | [] => 0
  | a :: l => szA a + szL l
theorem szL_tot : ∀ l : List ActM, szL l ≤ 9 * totM l
  | [] => by simp [szL, totM]
  | a :: l => by have := szL_tot l; simp only [szL, totM, szA]; omega
theorem szL_len : ∀ l : List ActM, l.length ≤ szL l
  | [] => by simp
  | a :: l => by have := szL_len l; simp only [szL, szA, List.length_cons]; omega
theorem szL_app (l m : List ActM) : szL (l ++ m) = szL l + szL m := by
  induction l with
  | nil => simp [szL]
  | cons a l ih => simp only [List.cons_append, szL, ih]; omega
theorem mkL_length : ∀ (k : Int) (l : List ActM), (mkL k l).length = l.length
  | _, [] => rfl
  | k, a :: l => by simp [mkL, mkL_length (k + szA a) l]
theorem mkL_snoc : ∀ (k : Int) (l : List ActM) (a : ActM), mkL k (l ++ [a]) = mkL k l ++ [mkA (k + szL l) a]
  | k, [], a => by simp [mkL, szL]
  | k, b :: l, a => by
    rw [List.cons_append, mkL, mkL_snoc (k + szA b) l a, mkL, List.cons_append]
    congr 4
    simp only [szL]
    omega
/-- nine stores into an act of a row, its lists as they are -/
theorem va_set9 (l : List ActT) (k : Nat) (a : ActM) (h : k < l.length) :
    (((((((((va l).set (k * 11) (.int .i64 a.r)).set (k * 11 + 1) (.int .i64 a.n)).set (k * 11 + 3) (.int .i64 a.actor)).set (k * 11 + 4) (.int .i64 a.kind)).set (k * 11 + 5) (.int .i64 a.to)).set (k * 11 + 6) (.int .i64 a.bucket)).set (k * 11 + 7) (.int .i64 a.mask)).set (k * 11 + 8) (.int .i64 a.gr)).set (k * 11 + 9) (.int .i64 a.gn) = va (l.set k ⟨a, (l.getD k t0).vd, (l.getD k t0).vs⟩) := by
  induction l generalizing k with
  | nil => simp at h
  | cons x l ih =>
    have hv : ∀ x l, va (x :: l) = .int .i64 x.a.r :: .int .i64 x.a.n :: x.vd :: .int .i64 x.a.actor :: .int .i64 x.a.kind :: .int .i64 x.a.to :: .int .i64 x.a.bucket :: .int .i64 x.a.mask :: .int .i64 x.a.gr :: .int .i64 x.a.gn :: x.vs :: va l := fun _ _ => rfl
    cases k with
    | zero => rfl
    | succ k =>
      have := ih k (by simpa using h)
      rw [List.set_cons_succ, List.getD_cons_succ, hv, hv, ← this, show (k + 1) * 11 = k * 11 + 11 from by omega]
      rfl

theorem set_mid (s1 : List ActT) (u : ActT) (s3 : List ActT) (x : ActT) (j : Nat) (h : s1.length = j) : (s1 ++ u :: s3).set j x = (s1 ++ [x]) ++ s3 := by
  rw [List.set_append_right _ _ (by omega), h, Nat.sub_self, List.set_cons_zero, List.append_assoc]
  rfl
end Go.Proofs.YtkcfcmigcphjlaaGreat

namespace Go.Proofs.YtkcfcmigcphjlaaGreat
open Go.RowKit
set_option linter.unusedVariables false

theorem mkL_getD : ∀ (k : Int) (l : List ActM) (i : Nat), i < l.length → (mkL k l).getD i act0 = mkA (k + szL (l.take i)) (l.getD i act0)
  | k, [], i, h => by simp at h
  | k, a :: l, 0, _ => by simp [mkL, szL]
  | k, a :: l, i + 1, h => by
    rw [mkL, List.getD_cons_succ, mkL_getD (k + szA a) l i (by simpa using h), List.getD_cons_succ, List.take_succ_cons, szL]
    congr 1
    omega
theorem szL_take (l : List ActM) (i : Nat) (h : i < l.length) : szL (l.take (i + 1)) = szL (l.take i) + szA (l.getD i act0) := by
  rw [List.take_succ_eq_append_getElem h, szL_app]
  simp [szL, List.getD, h]
theorem szL_le (l : List ActM) (i : Nat) : szL (l.take i) ≤ szL l := by
  have : szL l = szL (l.take i) + szL (l.drop i) := by rw [← szL_app, List.take_append_drop]
  omega

end Go.Proofs.YtkcfcmigcphjlaaGreat



namespace Go.Proofs.YtkcfcmigcphjlaaGreat
open Go.RowKit
set_option linter.unusedVariables false

theorem counts_take (l : List ActM) (m : Nat) (h4 : m ≤ 4) (hr : ∀ a ∈ l, 0 ≤ a.r ∧ a.r < m) : ([(cntM l 0 : Int), cntM l 1, cntM l 2, cntM l 3].take m) = clockM l m := by
  have hl := clockM_length l m
  refine List.ext_getElem (by rw [List.length_take, hl]; simp; omega) fun p h1 h2 => ?_
  rw [List.getElem_take]
  have hp : p < m := by omega
  have hc := clockM_cnt l hr p hp
  have hf := four_cnt l p (by omega)
  simp only [List.getD, List.getElem?_eq_getElem h2, Option.getD_some] at hc
  rw [hc, ← hf]
  simp [List.getD, List.getElem?_eq_getElem (show p < [(cntM l 0 : Int), cntM l 1, cntM l 2, cntM l 3].length by simp; omega)]

theorem blk_own {w : World} {g n : Nat} {xs : List Int} (hl : xs.length = n) (h1 : 1 ≤ n) (h4 : n ≤ 4) (h : IsBlk w g xs) : Own w g (.slice (some ⟨g, 0, none⟩) n n) xs := by
  subst hl
  refine .inr ⟨by omega, _, rfl, ?_⟩
  exact ⟨by simp [vi], .inr ⟨_, _, _, rfl, Nat.le_refl _, h, Nat.le_refl _, by unfold maxLen; omega, by simp [vi], by simp only [vi]; exact List.take_of_length_le (by simp)⟩⟩

set_option maxRecDepth 100000 in
set_option maxHeartbeats 1600000 in
theorem implClockOf_any (v : Value) (l : List ActM) (n : Int) (w : World) (h : Acts w v l) (hn : I64 n) :
    Calls Tryz.prog 10 #[v, .int .i64 n] w (MadeI w (clockOfM l n)) := by
  obtain ⟨ts, rfl, ht⟩ := h
  obtain ⟨a, cap, rfl⟩ := actsT_len ht
  have RS := Lib.hid (readSet_any _ ts n w ht hn)
  clear ht
  unfold SetRead at RS
  obtain ⟨l, hl⟩ : ∃ l, l = ts.map ActT.a := ⟨_, rfl⟩
  obtain ⟨K, hK⟩ : ∃ K, K = ts.length := ⟨_, rfl⟩
  rw [← hl] at RS ⊢
  rw [← hK] at RS ⊢
  clear hl hK
  by_cases hs : setOkM l n = true
  · rw [show clockOfM l n = clockM l n.toNat from if_pos hs]
    obtain ⟨m, rfl, h1, h4, h60, hr⟩ := setOk_bounds hs
    rw [Int.toNat_natCast, ← counts_take l m h4 hr]
    have HS := Lib.hid hs
    have LS := Lib.hid (fun W => list_any m (cntM l 0) (cntM l 1) (cntM l 2) (cntM l 3) W h4)
    have HLN := Lib.hid (show ([(cntM l 0 : Int), cntM l 1, cntM l 2, cntM l 3].take m).length = m by simp; omega)
    simp only [setVal] at RS
    generalize (cntM l 0 : Int) = c0 at *
    generalize (cntM l 1 : Int) = c1 at *
    generalize (cntM l 2 : Int) = c2 at *
    generalize (cntM l 3 : Int) = c3 at *
    clear hs hr
    go_enter Tryz.func10, Tryz.ntmps10
    go_wp2_with fail
    refine RS.out.mono ?_
    rintro e w1 ⟨b1, (⟨_, mb, _, rfl, _⟩ | ⟨hx, _⟩)⟩
    · have B1 := Lib.hid b1
      clear b1
      go_wp2_with fail
      refine (LS.out _).mono ?_
      rintro e w2 ⟨rfl, o2, b2⟩
      have o3 := blk_own HLN.out h1 h4 o2
      simp only [World.size_alloc] at o3
      have O2 := Lib.hid o3
      have B2 := Lib.hid ((B1.out.alloc B1.out.size (.cells #[.slice a K cap, .map (some mb), .int .i64 m, .int .i64 c0, .int .i64 c1, .int .i64 c2, .int .i64 c3] 57)).trans (b2.mono (by have := B1.out.size; simp; omega)))
      clear o2 o3 b2
      go_wp2
      go_ret
      exact ⟨_, _, rfl, by have := B1.out.size; omega, O2.out, B2.out⟩
    · rw [HS.out] at hx; cases hx
  · rw [show clockOfM l n = [] from if_neg hs]
    have HS := Lib.hid hs
    clear hs
    go_enter Tryz.func10, Tryz.ntmps10
    go_wp2_with fail
    refine RS.out.mono ?_
    rintro e w1 ⟨b1, (⟨hx, mb, _, rfl, _⟩ | ⟨_, rfl⟩)⟩
    · exact absurd hx HS.out
    · have B1 := Lib.hid b1
      clear b1
      simp only [noSet]
      go_wp2_with fail
      go_ret
      exact ⟨w.heap.size, _, rfl, Nat.le_refl _, .inl ⟨_, _, rfl, rfl⟩, B1.out.alloc B1.out.size _⟩
end Go.Proofs.YtkcfcmigcphjlaaGreat



namespace Go.Proofs.YtkcfcmigcphjlaaGreat
open Go.RowKit
set_option linter.unusedVariables false

theorem OwnI.below {w w' : World} {ds : List Nat} {v : Value} {xs : List Int} (h : OwnI w ds v xs) (hb : Below w.heap.size w w') : OwnI w' ds v xs := h.keep fun b hm => hb.block b (h.lt b hm)
theorem OwnI.other {w w' : World} {ds cs : List Nat} {v : Value} {xs : List Int} (h : OwnI w ds v xs) (hg : GrOn cs w w') (hd : ∀ b ∈ ds, b ∉ cs) : OwnI w' ds v xs := h.keep fun b hm => hg.same b (h.lt b hm) (hd b hm)
theorem own_OwnI {w : World} {g : Nat} {v : Value} {xs : List Int} (h : Own w g v xs) (B : Nat) (hg : B ≤ g) : ∃ bs, OwnI w bs v xs ∧ ∀ b ∈ bs, B ≤ b := by
  by_cases hp : 0 < xs.length
  · exact ⟨[g], .inr ⟨g, rfl, hp, h⟩, fun b hb => by rw [List.mem_singleton.1 hb]; exact hg⟩
  · rcases h with ⟨a, cap, h1, h2⟩ | ⟨h1, _⟩
    · exact ⟨[], .inl ⟨h2, rfl, a, cap, h1⟩, fun b hb => by cases hb⟩
    · omega

def RetI (w : World) (xs : List Int) (e : Ending) (w' : World) : Prop := ∃ v bs, e = .returned v ∧ OwnI w' bs v xs ∧ (∀ b ∈ bs, w.heap.size ≤ b) ∧ Below w.heap.size w w'
def RetL (w : World) (l : List ActM) (e : Ending) (w' : World) : Prop := ∃ v bs, e = .returned v ∧ OwnL w' v l bs ∧ (∀ b ∈ bs, w.heap.size ≤ b) ∧ Below w.heap.size w w'
def RetLB (w : World) (l : List ActM) (B : Bool) (e : Ending) (w' : World) : Prop := ∃ v bs, e = .returned (.tuple #[v, .bool B]) ∧ OwnL w' v l bs ∧ (∀ b ∈ bs, w.heap.size ≤ b) ∧ Below w.heap.size w w'
def SeesI (w : World) (xs : List Int) (e : Ending) (w' : World) : Prop := ∃ v, e = .returned v ∧ Ints w' v xs ∧ Below w.heap.size w w'
def SeesL (w : World) (l : List ActM) (e : Ending) (w' : World) : Prop := ∃ v, e = .returned v ∧ Acts w' v l ∧ Below w.heap.size w w'
def SeesLB (w : World) (l : List ActM) (B : Bool) (e : Ending) (w' : World) : Prop := ∃ v, e = .returned (.tuple #[v, .bool B]) ∧ Acts w' v l ∧ Below w.heap.size w w'
theorem MadeI.ret {w w' : World} {xs : List Int} {e : Ending} (h : MadeI w xs e w') : RetI w xs e w' := by
  obtain ⟨g, v, rfl, hg, ho, hb⟩ := h
  obtain ⟨bs, h1, h2⟩ := own_OwnI ho _ hg
  exact ⟨v, bs, rfl, h1, h2, hb⟩
theorem RetI.sees {w w' : World} {xs : List Int} {e : Ending} (h : RetI w xs e w') : SeesI w xs e w' := by
  obtain ⟨v, bs, rfl, ho, hg, hb⟩ := h
  exact ⟨v, rfl, ho.ints, hb⟩
theorem RetL.sees {w w' : World} {l : List ActM} {e : Ending} (h : RetL w l e w') : SeesL w l e w' := by
  obtain ⟨v, bs, rfl, ho, hg, hb⟩ := h
  exact ⟨v, rfl, ho.acts, hb⟩
theorem RetLB.sees {w w' : World} {l : List ActM} {B : Bool} {e : Ending} (h : RetLB w l B e w') : SeesLB w l B e w' := by
  obtain ⟨v, bs, rfl, ho, hg, hb⟩ := h
  exact ⟨v, rfl, ho.acts, hb⟩
theorem clockOfM_len (l : List ActM) (n : Int) : (clockOfM l n).length ≤ 4 := by
  unfold clockOfM
  split
  · rename_i h
    obtain ⟨m, rfl, h1, h4, _, _⟩ := setOk_bounds h
    rw [clockM_length]; omega
  · simp
end Go.Proofs.YtkcfcmigcphjlaaGreat

namespace Go.Proofs.YtkcfcmigcphjlaaGreat
open Go.RowKit
set_option linter.unusedVariables false

theorem own_I {w : World} {g : Nat} {v : Value} {xs : List Int} (h : Own w g v xs) (B : Nat) (hg : B ≤ g) : ∃ bs, OwnI w bs v xs ∧ bs.Nodup ∧ ∀ b ∈ bs, B ≤ b := by
  by_cases hp : 0 < xs.length
  · exact ⟨[g], .inr ⟨g, rfl, hp, h⟩, by simp, fun b hb => by rw [List.mem_singleton.1 hb]; exact hg⟩
  · rcases h with ⟨a, cap, h1, h2⟩ | ⟨h1, _⟩
    · exact ⟨[], .inl ⟨h2, rfl, a, cap, h1⟩, List.nodup_nil, fun b hb => by cases hb⟩
    · omega
theorem own_P {w : World} {g : Nat} {v : Value} {us : List UpM} (h : OwnU w g v us) (B : Nat) (hg : B ≤ g) : ∃ bs, OwnP w bs v us ∧ bs.Nodup ∧ ∀ b ∈ bs, B ≤ b := by
  by_cases hp : 0 < us.length
  · exact ⟨[g], .inr ⟨g, rfl, hp, h⟩, by simp, fun b hb => by rw [List.mem_singleton.1 hb]; exact hg⟩
  · rcases h with ⟨a, cap, h1, h2⟩ | ⟨h1, _⟩
    · exact ⟨[], .inl ⟨h2, rfl, a, cap, h1⟩, List.nodup_nil, fun b hb => by cases hb⟩
    · omega
theorem nodup_app {ds us : List Nat} {B : Nat} (h1 : ds.Nodup) (h2 : us.Nodup) (h3 : ∀ b ∈ ds, b < B) (h4 : ∀ b ∈ us, B ≤ b) : (ds ++ us).Nodup := by
  rw [List.nodup_append]
  refine ⟨h1, h2, fun a ha b hb => ?_⟩
  have := h3 a ha; have := h4 b hb; omega

/-- a copy of an act: its lists lie in blocks of their own, that are new -/
def Copied (w : World) (a : ActM) (e : Ending) (w' : World) : Prop := ∃ (t : ActT) (ds us : List Nat), t.a = a ∧ e = .returned t.val ∧ OwnI w' ds t.vd t.a.dep ∧ OwnP w' us t.vs t.a.ups ∧ (ds ++ us).Nodup ∧ (∀ b ∈ ds ++ us, w.heap.size ≤ b) ∧ Below w.heap.size w w'

set_option maxRecDepth 100000 in
set_option maxHeartbeats 3200000 in
theorem copyAct_any (t : ActT) (w : World) (h : t.Reads w) (hs : t.a.Small) : Calls Tryz.prog 87 #[t.val] w (Copied w t.a) := by
  obtain ⟨i0, hi, hz0, hz1, hz2⟩ := info_parts Tryz.info3
  obtain ⟨i1, hj, hy0, hy1, hy2⟩ := info_parts Tryz.infoUp
  obtain ⟨⟨r, n, dep, actor, kind, dst, bucket, mask, gr, gn, ups⟩, vd, vs⟩ := t
  obtain ⟨hd, hu⟩ := h
  obtain ⟨s1, s2⟩ := hs
  simp only at hd hu s1 s2
  show Calls _ _ #[Value.agg #[.int .i64 r, .int .i64 n, vd, .int .i64 actor, .int .i64 kind, .int .i64 dst, .int .i64 bucket, .int .i64 mask, .int .i64 gr, .int .i64 gn, vs]] w (Copied w ⟨r, n, dep, actor, kind, dst, bucket, mask, gr, gn, ups⟩)
  have od := ints_one hd
  have ou := ups_one hu
  have b2 := (((Below.refl w.heap.size w).alloc (Nat.le_refl _) (.cells #[.int .i64 r, .int .i64 n, vd, .int .i64 actor, .int .i64 kind, .int .i64 dst, .int .i64 bucket, .int .i64 mask, .int .i64 gr, .int .i64 gn, vs] 33)).alloc (by simp) (.cells #[.int .i64 0, .int .i64 0, .slice none 0 0, .int .i64 0, .int .i64 0, .int .i64 0, .int .i64 0, .int .i64 0, .int .i64 0, .int .i64 0, .slice none 0 0] 33))
  have k0 := (Blk.new w #[.int .i64 r, .int .i64 n, vd, .int .i64 actor, .int .i64 kind, .int .i64 dst, .int .i64 bucket, .int .i64 mask, .int .i64 gr, .int .i64 gn, vs] 33).alloc (.cells #[.int .i64 0, .int .i64 0, .slice none 0 0, .int .i64 0, .int .i64 0, .int .i64 0, .int .i64 0, .int .i64 0, .int .i64 0, .int .i64 0, .slice none 0 0] 33)
  have k1 := Blk.new (w.alloc (.cells #[.int .i64 r, .int .i64 n, vd, .int .i64 actor, .int .i64 kind, .int .i64 dst, .int .i64 bucket, .int .i64 mask, .int .i64 gr, .int .i64 gn, vs] 33)) #[.int .i64 0, .int .i64 0, .slice none 0 0, .int .i64 0, .int .i64 0, .int .i64 0, .int .i64 0, .int .i64 0, .int .i64 0, .int .i64 0, .slice none 0 0] 33
  simp only [World.size_alloc] at k1
  have B2 := Lib.hid b2
  have K0 := Lib.hid k0
  have K1 := Lib.hid k1
  have HD := Lib.hid hd
  have HU := Lib.hid hu
  have OD := Lib.hid od
  have OU := Lib.hid ou
  clear b2 k0 k1 hd hu od ou
  go_enter Tryz.func87, Tryz.ntmps87
  go_upto_region 1 with (fail)
  obtain ⟨W2, hW2⟩ : ∃ W2, W2 = ((w.alloc (.cells #[.int .i64 r, .int .i64 n, vd, .int .i64 actor, .int .i64 kind, .int .i64 dst, .int .i64 bucket, .int .i64 mask, .int .i64 gr, .int .i64 gn, vs] 33)).alloc (.cells #[.int .i64 0, .int .i64 0, .slice none 0 0, .int .i64 0, .int .i64 0, .int .i64 0, .int .i64 0, .int .i64 0, .int .i64 0, .int .i64 0, .slice none 0 0] 33)) := ⟨_, rfl⟩
  rw [← hW2] at B2 K0 K1 ⊢
  have hsz : W2.heap.size = w.heap.size + 2 := by rw [hW2]; simp
  have HSZ := Lib.hid hsz
  clear hW2 hsz
  have c0 := K0.out.cell
  have l0 := K0.out.lt
  go_wp2_with (at_builtin; refine wpList_app rfl _ (.tmp 4) 27 rfl W2.heap.size 3 i0 (.int .i64 0) 1 8 Tryz.underlying27 hi hz0 hz1 hz2 rfl (by decide) (.slice none 0 0) vd 0 dep.length [] (vi dep) rfl rfl (World.ownsRow_nil _ _ _ _) (src_ints (HD.out.below (B := 0) B2.out)) (vi_one dep) (by unfold maxLen; omega) (by omega) (by simp) ?_)
  intro v1 w1 hown1 hgrow1 _
  try simp only [Nat.zero_add, List.nil_append] at hown1
  obtain ⟨a1, c1, rfl⟩ := row_shape hown1
  have G1 : W2.grownBy w1 none := hgrow1
  have hbw : Below W2.heap.size W2 w1 := (Below.refl _ _).grown G1 (Nat.le_refl _) (fun k hk => by cases hk)
  have K0b := Lib.hid (K0.out.below hbw K0.out.lt)
  have K1b := Lib.hid (K1.out.below hbw K1.out.lt)
  have B4 := Lib.hid (B2.out.trans (hbw.mono B2.out.size))
  obtain ⟨g, hg, hO⟩ := own_of_row rfl hown1
  obtain ⟨ds, hds, hdn, hdl⟩ := own_I hO _ hg
  have HO := Lib.hid hds
  have HDL : Hid (∀ b ∈ ds, w.heap.size + 2 ≤ b) := fun b hb => by have := HSZ.out; have := hdl b hb; omega
  have HDN := Lib.hid hdn
  clear hgrow1 G1 hown1 hO hg c0 l0 hbw hds hdn hdl
  have c2 := K0b.out.cell
  have f2 := K0b.out.free
  go_upto_region 2 with (fail)
  obtain ⟨W4, hW4⟩ : ∃ W4, W4 = w1.setCell ⟨w.heap.size, 2, none⟩ (.slice a1 dep.length c1) := ⟨_, rfl⟩
  have K0c : Hid (Blk W4 w.heap.size [.int .i64 r, .int .i64 n, .slice a1 dep.length c1, .int .i64 actor, .int .i64 kind, .int .i64 dst, .int .i64 bucket, .int .i64 mask, .int .i64 gr, .int .i64 gn, vs]) := by rw [hW4]; exact K0b.out.set (j := 2) (by simp) _
  have K1c : Hid (Blk W4 (w.heap.size + 1) [.int .i64 0, .int .i64 0, .slice none 0 0, .int .i64 0, .int .i64 0, .int .i64 0, .int .i64 0, .int .i64 0, .int .i64 0, .int .i64 0, .slice none 0 0]) := by rw [hW4]; exact K1b.out.other (by simp) _
  have B5 : Hid (Below w.heap.size w W4) := by rw [hW4]; exact B4.out.setCell (by simp) _
  have O1 : Hid (OwnI W4 ds (.slice a1 dep.length c1) dep) := by
    rw [hW4]
    exact HO.out.keep fun b hb => Below.heap_setCell _ _ _ _ (by have := HDL.out b hb; simp; omega)
  have L4 : w.heap.size + 2 ≤ W4.heap.size := by
    have := K1c.out.lt
    omega
  rw [← hW4]
  clear hW4 c2 f2 K0b K1b B4 HO K0 K1
  have c0 := K0c.out.cell
  have l0 := K0c.out.lt
  go_wp2_with (at_builtin; refine wpList_app rfl _ (.tmp 8) 31 rfl W4.heap.size 83 i1 _ 4 32 Tryz.underlying31 hj hy0 hy1 hy2 rfl (by decide) (.slice none 0 0) vs 0 ups.length [] (vu ups) rfl rfl (World.ownsRow_nil _ _ _ _) (src_ups (HU.out.below B5.out)) (vu_one ups) (by unfold maxLen; omega) (by omega) (by simp) ?_)
  intro v2 w2 hown2 hgrow2 _
  try simp only [Nat.zero_add, List.nil_append] at hown2
  obtain ⟨a2, c2, rfl⟩ := row_shape hown2
  have G2 : W4.grownBy w2 none := hgrow2
  have hbw : Below W4.heap.size W4 w2 := (Below.refl _ _).grown G2 (Nat.le_refl _) (fun k hk => by cases hk)
  have K0b := Lib.hid (K0c.out.below hbw K0c.out.lt)
  have K1b := Lib.hid (K1c.out.below hbw K1c.out.lt)
  have B7 := Lib.hid (B5.out.trans (hbw.mono B5.out.size))
  obtain ⟨g, hg, hO⟩ := ownU_of_row rfl hown2
  obtain ⟨us, hus, hun, hul⟩ := own_P hO _ hg
  have HP := Lib.hid hus
  have HUN := Lib.hid hun
  have HUL := Lib.hid hul
  have O4 := Lib.hid (O1.out.keep fun b hb => hbw.block b (O1.out.lt b hb))
  have HND := Lib.hid (nodup_app HDN.out HUN.out O1.out.lt HUL.out)
  have HGE : Hid (∀ b ∈ ds ++ us, w.heap.size + 2 ≤ b) := fun b hb => by
    rcases List.mem_append.1 hb with hb | hb
    · exact HDL.out b hb
    · have := HUL.out b hb; omega
  clear hgrow2 G2 hown2 hO hg c0 l0 hbw hus hun hul
  have d2 := K0b.out.cell
  have f2 := K0b.out.free
  go_upto_region 3 with (fail)
  obtain ⟨W6, hW6⟩ : ∃ W6, W6 = w2.setCell ⟨w.heap.size, 10, none⟩ (.slice a2 ups.length c2) := ⟨_, rfl⟩
  have K0d : Hid (Blk W6 w.heap.size [.int .i64 r, .int .i64 n, .slice a1 dep.length c1, .int .i64 actor, .int .i64 kind, .int .i64 dst, .int .i64 bucket, .int .i64 mask, .int .i64 gr, .int .i64 gn, .slice a2 ups.length c2]) := by rw [hW6]; exact K0b.out.set (j := 10) (by simp) _
  have K1d : Hid (Blk W6 (w.heap.size + 1) [.int .i64 0, .int .i64 0, .slice none 0 0, .int .i64 0, .int .i64 0, .int .i64 0, .int .i64 0, .int .i64 0, .int .i64 0, .int .i64 0, .slice none 0 0]) := by rw [hW6]; exact K1b.out.other (by simp) _
  have B8 : Hid (Below w.heap.size w W6) := by rw [hW6]; exact B7.out.setCell (by simp) _
  have O5 : Hid (OwnI W6 ds (.slice a1 dep.length c1) dep) := by
    rw [hW6]
    exact O4.out.keep fun b hb => Below.heap_setCell _ _ _ _ (by have := HDL.out b hb; simp; omega)
  have P5 : Hid (OwnP W6 us (.slice a2 ups.length c2) ups) := by
    rw [hW6]
    exact HP.out.keep fun b hb => Below.heap_setCell _ _ _ _ (by have := HGE.out b (by simp [hb]); simp; omega)
  rw [← hW6]
  clear hW6 d2 f2 K0b K1b B7 HP O4 O1 K0c K1c B5
  have c0 := K0d.out.cell
  have c9 := K1d.out.cell
  have f9 := K1d.out.free
  go_wp2
  refine bodyPost_ret (v := .agg #[.int .i64 r, .int .i64 n, .slice a1 dep.length c1, .int .i64 actor, .int .i64 kind, .int .i64 dst, .int .i64 bucket, .int .i64 mask, .int .i64 gr, .int .i64 gn, .slice a2 ups.length c2]) (by simp [results, Tryz.results87, go_sem, c9]) rfl ⟨⟨⟨r, n, dep, actor, kind, dst, bucket, mask, gr, gn, ups⟩, .slice a1 dep.length c1, .slice a2 ups.length c2⟩, ds, us, rfl, rfl, O5.out.keep fun b hb => ?_, P5.out.keep fun b hb => ?_, HND.out, fun b hb => by have := HGE.out b hb; omega, ?_⟩
  · have := HGE.out b (by simp [hb])
    repeat rw [Below.heap_setCell _ _ _ _ (by simp; omega)]
  · have := HGE.out b (by simp [hb])
    repeat rw [Below.heap_setCell _ _ _ _ (by simp; omega)]
  · repeat (with_reducible refine Below.setCell ?_ ?_ _)
    all_goals (first | exact B8.out | (simp; done) | (simp; omega))
end Go.Proofs.YtkcfcmigcphjlaaGreat






namespace Go.Proofs.YtkcfcmigcphjlaaGreat
open Go.RowKit Go.Shelf
set_option linter.unusedVariables false
attribute [local go_sem] Oper.semAt_some

theorem own_type {w : World} {g : Nat} {v : Value} {xs : List Int} (h : Own w g v xs) (hp : 0 < xs.length) : OfType w g 3 := by
  rcases h with ⟨a, cap, rfl, rfl⟩ | ⟨_, cap, rfl, ho⟩
  · simp at hp
  · exact row_type ho
theorem ownU_type {w : World} {g : Nat} {v : Value} {us : List UpM} (h : OwnU w g v us) (hp : 0 < us.length) : OfType w g 83 := by
  rcases h with ⟨a, cap, rfl, rfl⟩ | ⟨_, cap, rfl, ho⟩
  · simp at hp
  · exact row_type ho
/-- a block of ints or of ups -/
def NoRow (w : World) (b : Nat) : Prop := OfType w b 3 ∨ OfType w b 83
theorem OwnI.type {w : World} {ds : List Nat} {v : Value} {xs : List Int} (h : OwnI w ds v xs) : ∀ b ∈ ds, NoRow w b := by
  rcases h with ⟨_, rfl, _⟩ | ⟨d, rfl, hp, h⟩
  · intro b hb; cases hb
  · intro b hb; rw [List.mem_singleton.1 hb]; exact .inl (own_type h hp)
theorem OwnP.type {w : World} {ds : List Nat} {v : Value} {us : List UpM} (h : OwnP w ds v us) : ∀ b ∈ ds, NoRow w b := by
  rcases h with ⟨_, rfl, _⟩ | ⟨d, rfl, hp, h⟩
  · intro b hb; cases hb
  · intro b hb; rw [List.mem_singleton.1 hb]; exact .inr (ownU_type h hp)
theorem Lists.type {w : World} : ∀ {ts : List ActT} {bs : List Nat}, Lists w ts bs → ∀ b ∈ bs, NoRow w b
  | [], bs, h, b, hb => by rw [h] at hb; cases hb
  | t :: ts, bs, ⟨ds, us, rest, e, h1, h2, h3⟩, b, hb => by
    subst e
    simp only [List.mem_append] at hb
    rcases hb with (hb | hb) | hb
    · exact h1.type b hb
    · exact h2.type b hb
    · exact h3.type b hb
theorem NoRow.ne {w : World} {b g : Nat} {e : TypeId} (h : NoRow w b) (hg : OfType w g e) (h1 : 3 ≠ e) (h2 : 83 ≠ e) : b ≠ g := by
  rcases h with h | h
  · exact type_ne h hg h1
  · exact type_ne h hg h2
theorem NoRow.cells {w : World} {b : Nat} (h : NoRow w b) : ∃ o, w.heap[b]? = some o ∧ o.isCells = true := by
  rcases h with ⟨cs, cur, h⟩ | ⟨cs, cur, h⟩
  · exact ⟨_, h, rfl⟩
  · exact ⟨_, h, rfl⟩

/-- v owns the acts l, all in blocks from lo on -/
def Row (w : World) (lo : Nat) (v : Value) (l : List ActM) : Prop := ∃ (ts : List ActT) (cs : List Nat), ts.map ActT.a = l ∧ w.ownsRow lo 33 11 v ts.length (va ts) ∧ Lists w ts cs ∧ cs.Nodup ∧ ∀ b ∈ cs, lo ≤ b
theorem row_own {w : World} {lo : Nat} {v : Value} {n : Nat} {xs : List Value} (h : w.ownsRow lo 33 11 v n xs) : (v = .slice none 0 0 ∧ n = 0) ∨ ∃ g cap, v = .slice (some ⟨g, 0, none⟩) n cap ∧ lo ≤ g ∧ g < w.heap.size ∧ OfType w g 33 ∧ w.ownsRow g 33 11 v n xs := by
  rcases h.2 with h0 | ⟨g, cap, cur, rfl, hl, hg, r⟩
  · exact .inl h0
  · exact .inr ⟨g, cap, rfl, hl, (Array.getElem?_eq_some_iff.1 hg).1, ⟨cur, _, hg⟩, h.1, .inr ⟨g, cap, cur, rfl, Nat.le_refl _, hg, r⟩⟩
theorem rowA_keep {w w' : World} {lo : Nat} {v : Value} {n : Nat} {xs : List Value} (h : w.ownsRow lo 33 11 v n xs) (hk : ∀ b, OfType w b 33 → w'.heap[b]? = w.heap[b]?) : w'.ownsRow lo 33 11 v n xs := by
  refine ⟨h.1, ?_⟩
  rcases h.2 with h0 | ⟨g, cap, cur, rfl, hl, hg, r⟩
  · exact .inl h0
  · exact .inr ⟨g, cap, cur, rfl, hl, (hk g ⟨cur, _, hg⟩).trans hg, r⟩
theorem row_past {w w' : World} {lo : Nat} {v : Value} {n : Nat} {xs : List Value} (h : w.ownsRow lo 33 11 v n xs) (hb : Below w.heap.size w w') : w'.ownsRow lo 33 11 v n xs :=
  rowA_keep h fun b ⟨cs, cur, hg⟩ => hb.block b (Array.getElem?_eq_some_iff.1 hg).1
theorem Row.keep {w w' : World} {lo : Nat} {v : Value} {l : List ActM} (h : Row w lo v l) (hk : ∀ b, OfType w b 33 ∨ NoRow w b → w'.heap[b]? = w.heap[b]?) : Row w' lo v l := by
  obtain ⟨ts, cs, h1, h2, h3, h4, h5⟩ := h
  exact ⟨ts, cs, h1, rowA_keep h2 fun b hb => hk b (.inl hb), h3.keep fun b hb => hk b (.inr (h3.type b hb)), h4, h5⟩
theorem Row.nil (w : World) (lo : Nat) : Row w lo (.slice none 0 0) [] := ⟨[], [], rfl, World.ownsRow_nil _ _ _ _, rfl, List.nodup_nil, fun b hb => by cases hb⟩
theorem Row.own {w : World} {lo : Nat} {v : Value} {l : List ActM} (h : Row w lo v l) : ∃ bs, OwnL w v l bs ∧ ∀ b ∈ bs, lo ≤ b := by
  obtain ⟨ts, cs, h1, h2, h3, h4, h5⟩ := h
  rcases row_own h2 with ⟨rfl, h0⟩ | ⟨g, cap, rfl, hl, hlt, ht, ho⟩
  · have : ts = [] := List.eq_nil_of_length_eq_zero h0
    subst this
    exact ⟨[], .inl ⟨h1.symm, rfl, _, _, rfl⟩, fun b hb => by cases hb⟩
  · refine ⟨g :: cs, .inr ⟨ts, g, _, cap, cs, h1, rfl, rfl, List.nodup_cons.2 ⟨fun hm => (h3.type g hm).ne ht (by decide) (by decide) rfl, h4⟩, rfl, ho, h3⟩, fun b hb => ?_⟩
    rcases List.mem_cons.1 hb with rfl | hb
    · exact hl
    · exact h5 b hb
theorem va_snoc (ts : List ActT) (t : ActT) : va (ts ++ [t]) = va ts ++ t.cells := by simp [va]
/-- behind the append and the store into the box -/
theorem Row.push {V w1 : World} {lo B F : Nat} {T : TypeId} {v v1 : Value} {ts : List ActT} {cs ds us : List Nat} {t : ActT} {u : Value}
    (hrow : V.ownsRow lo 33 11 v ts.length (va ts)) (hli : Lists V ts cs) (hnd : cs.Nodup) (hlo : ∀ b ∈ cs, lo ≤ b) (hF : ∀ b ∈ cs, b < F) (hlF : lo ≤ F)
    (oI : OwnI V ds t.vd t.a.dep) (oP : OwnP V us t.vs t.a.ups) (nd : (ds ++ us).Nodup) (ge : ∀ b ∈ ds ++ us, F ≤ b) (tmp : Obj)
    (hg : (V.alloc tmp).grownBy w1 v.ownBlock) (hbx : Boxed V B T u) (hT : T ≠ 33) (hT1 : 3 ≠ T) (hT2 : 83 ≠ T)
    (hr2 : (w1.setCell ⟨B, 0, none⟩ v1).ownsRow lo 33 11 v1 (ts.length + 1) (va ts ++ t.cells)) :
    Row (w1.setCell ⟨B, 0, none⟩ v1) lo v1 (ts.map ActT.a ++ [t.a]) := by
  have hkeep : ∀ b, NoRow V b → (w1.setCell ⟨B, 0, none⟩ v1).heap[b]? = V.heap[b]? := fun b hb => by
    have hlt : b < V.heap.size := by obtain ⟨o, ho, _⟩ := hb.cells; exact (Array.getElem?_eq_some_iff.1 ho).1
    have hB : b ≠ B := hb.ne ⟨_, _, hbx⟩ hT1 hT2
    rw [Below.heap_setCell _ _ _ _ (by simpa using hB)]
    have h1 : w1.heap[b]? = (V.alloc tmp).heap[b]? := hg.block b (by simp; omega) (fun e => by
      rcases row_own hrow with ⟨rfl, _⟩ | ⟨g, cap, rfl, _, _, ht, _⟩
      · simp [Value.ownBlock] at e
      · have : b = g := by simpa [Value.ownBlock] using e
        exact hb.ne ht (by decide) (by decide) this)
    exact h1.trans (Below.heap_alloc _ _ _ hlt)
  refine ⟨ts ++ [t], cs ++ (ds ++ us), by simp, by rw [va_snoc]; simpa using hr2, (hli.keep fun b hb => hkeep b (hli.type b hb)).snoc (oI.keep fun b hb => hkeep b (oI.type b hb)) (oP.keep fun b hb => hkeep b (oP.type b hb)), nodup_app hnd nd hF ge, fun b hb => ?_⟩
  rcases List.mem_append.1 hb with hb | hb
  · exact hlo b hb
  · have := ge b hb; omega

theorem stepIn_append {F : Fence} {n : Nat} {P : Program} {ops : Array Oper} {o : Oper} {a : Act} {K : Act → World → Prop} {Q : Exit → Act → World → Prop} {E : Prop} (w : World)
    (hg : o.guard = none) (s x : Operand) (t : TypeId) (hop : o.op = Op.call { callee := Callee.builtin Builtin.append, args := #[s, x], argTypes := #[t, t] })
    (base : Nat) (e : TypeId) (i : TypeInfo) (z : Value) (size bytes : Nat) (h1 : P.underlying t = some (.slice e)) (h2 : P.info? e = some i) (h3 : i.zero = some z) (h4 : i.size = size) (h5 : i.bytes = bytes) (h6 : z.cells.size = size) (h7 : 0 < size)
    (v : Value) (k : Nat) (xs : List Value) (hs : a.eval s = v) (hown : w.ownsRow base e size v k xs) (ad : Addr) (m c : Nat) (news : List Value) (hx : a.eval x = .slice (some ad) m c) (hn : news.length = m * size)
    (hc : ∀ j u, news[j]? = some u → w.cell? (ad.add j) = some u) (h1c : ∀ u ∈ news, u.oneCell' = true) (b1 : k + m ≤ maxLen) (b2 : (k + m) * bytes ≤ 140737488355328) (b3 : base ≤ w.heap.size)
    (hK : ∀ v' w', w'.ownsRow base e size v' (k + m) (xs ++ news) → w.grownBy w' v.ownBlock → K (a.put o.dst v') w') :
    if Region.wanted o (yielded ops a.tmps) = true then Oper.wpIn F n P o a w K Q else E := by
  have hw : Region.wanted o (yielded ops a.tmps) = true := by simp [Region.wanted, hg]
  rw [if_pos hw]
  obtain ⟨v', w', hrun, r1, r2, r3⟩ := run_append_own (P := P) w base t o.type e i z size bytes h1 h2 h3 h4 h5 h6 h7 v k xs hown ad m c news hn hc h1c b1 b2 b3
  unfold Oper.wpIn
  refine ⟨?_, ?_⟩
  · simp [Oper.about, hop, resolve, Target.leads, Sem.run_pure]
  · rw [Oper.semAt_plain F _ _ (by rw [hop]; intro c hc'; cases hc')]
    simp [execOp, hop, resolve, invoke, builtin, hs, hx, hrun, Result.andThen]
    exact hK _ _ r1 r2

set_option maxRecDepth 100000 in
set_option maxHeartbeats 6400000 in
theorem copyActs_row (gf : Nat) (lb : Array Value) (K : ActT → Prop) (zs : List ActT) (N : Nat) (w : World) (eg : ∀ args w, (callFunc gf args).run Tryz.prog w = .ok (.enter gf args) w)
    (hs : SeqStopsK Fence.wide 5 Tryz.prog gf lb (fun t : {t : ActT // K t} => #[t.1.val]) (Below w.heap.size) (fun ys => ys.map Subtype.val = zs) (fun pre => pre.map Subtype.val <+: zs) N w)
    (hK : ∀ t, K t → t.Reads w ∧ t.a.Small) (hN : N ≤ 1048576) :
    Calls Tryz.prog 58 #[.func (.func gf) #[] lb] w fun e w' => ∃ v, e = .returned v ∧ Row w' w.heap.size v (zs.map ActT.a) ∧ Below w.heap.size w w' := by
  obtain ⟨i2, hi, hz0, hz1, hz2⟩ := info_parts Tryz.infoAct
  refine (callsIn_wide (n := 6)).1 ?_
  refine callsIn_of_wp_marks Tryz.func58 rfl trivial ?_ rfl
  simp only [Tryz.ntmps58, List.size_toArray, List.length_cons, List.length_nil, Nat.reduceAdd, Nat.reduceSub, Array.replicate_succ, Array.replicate_zero, List.push_toArray, List.append_toArray, List.nil_append, List.cons_append]
  gi_wp2_with fail
  have hbx := Boxed.new w 23 (.slice none 0 0)
  have hB0 : Below w.heap.size w (w.alloc (.cells #[.slice none 0 0] 23)) := (Below.refl _ w).alloc (Nat.le_refl _) _
  have hz : (w.alloc (.cells #[.slice none 0 0] 23)).heap.size = w.heap.size + 1 := by simp
  generalize w.alloc (.cells #[.slice none 0 0] 23) = w1 at hbx hB0 hz ⊢
  have belK : ∀ {A B C : World}, Below w.heap.size A B → Below w.heap.size B C → Below w.heap.size A C := fun h k => h.trans k
  refine wpIn_rangeFunc_ownH rfl (by omega) (gf := gf) (lb := lb) rfl trivial eg hs belK (belowK_b (by omega)) hB0 (fun _ => rfl)
    (fun pre W => (∃ v, Boxed W w.heap.size 23 v ∧ Row W w.heap.size v (pre.map fun t => t.1.a)) ∧ Below w.heap.size w W)
    (fun _ _ _ => False)
    ?hI (fun _ _ _ _ _ hs _ _ => hs) ⟨⟨_, hbx, Row.nil _ _⟩, hB0⟩
    (fun x a' W => ∃ Bx, w1.heap.size ≤ Bx ∧ Blk W Bx (.int .i64 x.1.a.r :: [.int .i64 x.1.a.n, x.1.vd, .int .i64 x.1.a.actor, .int .i64 x.1.a.kind, .int .i64 x.1.a.to, .int .i64 x.1.a.bucket, .int .i64 x.1.a.mask, .int .i64 x.1.a.gr, .int .i64 x.1.a.gn, x.1.vs]) ∧
      a' = { tmps := #[.func (.func gf) #[] lb, undef, .slice none 0 0, .pointer (some ⟨w.heap.size, 0, none⟩), .pointer (some ⟨Bx, 0, none⟩), .func (.func gf) #[] lb, x.1.val, undef, undef, undef, undef, undef, undef], defers := [] })
    ?hAx ?assign ?body ?done ?stop
  case hI =>
    rintro pre A B row ⟨⟨v, hv, hr⟩, hb⟩ hg hrow
    have hne : ∀ (b : Nat) (o : Obj), A.heap[b]? = some o → o.isCells = true → B.heap[b]? = A.heap[b]? := fun b o ho hc => hg.block b (Array.getElem?_eq_some_iff.1 ho).1 (fun e => by
      obtain ⟨_, o', ho', hc'⟩ := hrow b e.symm
      rw [ho] at ho'; cases ho'
      rw [hc] at hc'; cases hc')
    refine ⟨⟨v, (hne _ _ hv rfl).trans hv, hr.keep fun b hb => ?_⟩, hb.grown hg hb.size (fun k hk => by have := (hrow k hk).1; omega)⟩
    rcases hb with ⟨cs, cur, h⟩ | h
    · exact hne _ _ h rfl
    · obtain ⟨o, ho, hc⟩ := h.cells
      exact hne _ _ ho hc
  case hAx =>
    rintro x a' u A B row ⟨Bx, h1, h2, rfl⟩ hg hrow
    exact ⟨Bx, h1, Blk.cellsOwn () A B row h2 hg hrow, rfl⟩
  case assign =>
    rintro l pre ⟨⟨⟨r, n, dep, actor, kind, dst, bucket, mask, gr, gn, ups⟩, vd, vs⟩, hx⟩ W K2 ⟨⟨v, hv, hr⟩, hb⟩ hK2
    have hlt := hv.lt
    have hsd := ints_len (hK _ hx).1.1
    have hsu := ups_len (hK _ hx).1.2
    simp only at hsd hsu
    obtain ⟨da, dc, rfl⟩ := hsd
    obtain ⟨ua, uc, rfl⟩ := hsu
    have ha := (Below.refl W.heap.size W).alloc (Nat.le_refl _) (.cells #[.int .i64 r, .int .i64 n, .slice da dep.length dc, .int .i64 actor, .int .i64 kind, .int .i64 dst, .int .i64 bucket, .int .i64 mask, .int .i64 gr, .int .i64 gn, .slice ua ups.length uc] 33)
    simp only [ActT.val]
    gi_wp2
    refine hK2 _ _ (below_keeps ha) (ha.mono hb.size) ⟨⟨v, hv.alloc _, hr.keep fun b hb => ?_⟩, hb.alloc hb.size _⟩ ⟨W.heap.size, by omega, Blk.new W _ _, rfl⟩
    refine Below.heap_alloc _ _ _ ?_
    rcases hb with ⟨cs, cur, h⟩ | h
    · exact (Array.getElem?_eq_some_iff.1 h).1
    · obtain ⟨o, ho, hc⟩ := h.cells
      exact (Array.getElem?_eq_some_iff.1 ho).1
  case body =>
    rintro l pre ⟨t, hx⟩ a' W hl0 hloop ⟨⟨v, hv, ts, cs, hl, hrow, hli, hnd, hlo⟩, hB⟩ ⟨Bx, hBx, hblk, rfl⟩ hlen
    have hc := hv.cell
    have fc := hv.frozen
    have e0 := hblk.cell 0
    have e1 := hblk.cell 1
    have e2 := hblk.cell 2
    have e3 := hblk.cell 3
    have e4 := hblk.cell 4
    have e5 := hblk.cell 5
    have e6 := hblk.cell 6
    have e7 := hblk.cell 7
    have e8 := hblk.cell 8
    have e9 := hblk.cell 9
    have e10 := hblk.cell 10
    simp only [List.getElem?_cons_zero, List.getElem?_cons_succ] at e0 e1 e2 e3 e4 e5 e6 e7 e8 e9 e10
    have hmx : Tryz.prog.follows .mixedOrders = true := by kernel_rfl
    have q1 : Below W.heap.size W W.drew := (Below.refl W.heap.size W).drew
    have CC := Lib.hid (fun V (h : Below W.heap.size W V) => copyAct_any t V ((hK t hx).1.below (hB.trans (h.mono hB.size))) (hK t hx).2)
    have hpl : ts.length < N := by
      have := congrArg List.length hl
      simp at this
      omega
    simp only [ActT.val] at CC ⊢
    gi_wp2
    --REGION
    refine wpIn_region_any hmx ?_
    change wpAnyIn _ _ _ _ _ _ _ _ _ (World.drew _)
    refine wpAnyIn_ready (rs := [0, 1]) (by kernel_rfl) (by simp) ?_
    refine (AllReadyIn.cons rfl (fun K hK => ?_) (AllReadyIn.cons rfl (fun K hK => ?_) AllReadyIn.nil))
    · go_simp
      refine hK _ _ ?_
      clear hK K
      refine wpAnyIn_ready (rs := [1]) (by kernel_rfl) (by simp) ?_
      refine (AllReadyIn.cons rfl (fun K hK => ?_) AllReadyIn.nil)
      · go_simp
        refine hK _ _ ?_
        clear hK K
        refine wpAnyIn_ready (rs := [2]) (by kernel_rfl) (by simp) ?_
        refine (AllReadyIn.cons rfl (fun K hK => ?_) AllReadyIn.nil)
        · go_simp
          refine ⟨trivial, ?_⟩
          refine (CallsIn.inRound l (callsIn_wide.2 (CC.out _ q1))).mono ?_
          rintro e V2 ⟨t', ds, us, hta', rfl, oI, oP, ndd, gee, b2⟩
          have HTA := Lib.hid hta'
          clear hta'
          simp only [ActT.val]
          have hv2 : Boxed V2 w.heap.size 23 v := (b2.block w.heap.size hv.lt).trans hv
          have hc2 := hv2.cell
          have fc2 := hv2.frozen
          have hc3 := (hv2.alloc (.cells #[.int .i64 t'.a.r, .int .i64 t'.a.n, t'.vd, .int .i64 t'.a.actor, .int .i64 t'.a.kind, .int .i64 t'.a.to, .int .i64 t'.a.bucket, .int .i64 t'.a.mask, .int .i64 t'.a.gr, .int .i64 t'.a.gn, t'.vs] 33)).cell
          have hrow2 := row_past (w := W.drew) hrow b2
          have hli2 := hli.keep fun b hb => b2.block b (hli.lt b hb)
          have hbV2 := q1.trans (b2.mono q1.size)
          refine hK _ _ ?_
          clear hK K
          refine wpAnyIn_ready (rs := [3]) (by kernel_rfl) (by simp) ?_
          refine (AllReadyIn.cons rfl (fun K hK => ?_) AllReadyIn.nil)
          · go_simp
            refine hK _ _ ?_
            clear hK K
            have CO := cells_one (t := t') (w := V2) ⟨oI.ints, oP.ups⟩
            refine wpAnyIn_ready (rs := [4]) (by kernel_rfl) (by simp) ?_
            refine AllReadyIn.cons rfl (fun K hK => ?_) AllReadyIn.nil
            refine stepIn_append _ rfl (.tmp 7) (.tmp 10) 23 rfl w.heap.size 33 i2 _ 11 120 Tryz.underlying23 hi hz0 hz1 hz2 rfl (by decide) v ts.length (va ts) rfl (hrow2.alloc _) ⟨V2.heap.size, 0, none⟩ 1 1 t'.cells rfl rfl (World.news_of_block (World.alloc_heap_new V2 _)) CO (by unfold maxLen; omega) (by omega) (by have := hB.size; have := hbV2.size; simp; omega) ?_
            intro v' w' hown' hgrow
            obtain ⟨g', cap', rfl⟩ := ownsRow_succ hown'
            obtain ⟨hv1, hv3, hr3, hk3, hb3⟩ := hv2.appended (n₀ := w.heap.size) (by decide) hrow2 (by have := hB.size; have := hbV2.size; omega) (Nat.le_refl _) hown' hgrow
            have hrowN := Row.push (F := W.heap.size) hrow2 hli2 hnd hlo (fun b hb => hli.lt b hb) hB.size oI oP ndd gee _ hgrow hv2 (by decide) (by decide) (by decide) hr3
            have hc4 := hv1.cell
            have fc4 := hv1.frozen
            refine hK _ _ ?_
            clear hK K
            refine wpAnyIn_ready (rs := [5]) (by kernel_rfl) (by simp) ?_
            refine AllReadyIn.cons rfl (fun K hK => ?_) AllReadyIn.nil
            go_simp
            refine hK _ _ ?_
            clear hK K
            refine wpAnyIn_done (by kernel_rfl) ?_ _
            gi_wp2
            refine ⟨(below_keeps hbV2).trans (hk3.from _), (hbV2.mono hB.size).trans hb3, ⟨_, hv3, ?_⟩, hB.trans ((hbV2.mono hB.size).trans hb3)⟩
            rw [List.map_append, ← hl, List.map_cons, List.map_nil, ← HTA.out]
            exact hrowN
    · go_simp
      refine hK _ _ ?_
      clear hK K
      refine wpAnyIn_ready (rs := [0, 2]) (by kernel_rfl) (by simp) ?_
      refine (AllReadyIn.cons rfl (fun K hK => ?_) (AllReadyIn.cons rfl (fun K hK => ?_) AllReadyIn.nil))
      · go_simp
        refine hK _ _ ?_
        clear hK K
        refine wpAnyIn_ready (rs := [2]) (by kernel_rfl) (by simp) ?_
        refine (AllReadyIn.cons rfl (fun K hK => ?_) AllReadyIn.nil)
        · go_simp
          refine ⟨trivial, ?_⟩
          refine (CallsIn.inRound l (callsIn_wide.2 (CC.out _ q1))).mono ?_
          rintro e V2 ⟨t', ds, us, hta', rfl, oI, oP, ndd, gee, b2⟩
          have HTA := Lib.hid hta'
          clear hta'
          simp only [ActT.val]
          have hv2 : Boxed V2 w.heap.size 23 v := (b2.block w.heap.size hv.lt).trans hv
          have hc2 := hv2.cell
          have fc2 := hv2.frozen
          have hc3 := (hv2.alloc (.cells #[.int .i64 t'.a.r, .int .i64 t'.a.n, t'.vd, .int .i64 t'.a.actor, .int .i64 t'.a.kind, .int .i64 t'.a.to, .int .i64 t'.a.bucket, .int .i64 t'.a.mask, .int .i64 t'.a.gr, .int .i64 t'.a.gn, t'.vs] 33)).cell
          have hrow2 := row_past (w := W.drew) hrow b2
          have hli2 := hli.keep fun b hb => b2.block b (hli.lt b hb)
          have hbV2 := q1.trans (b2.mono q1.size)
          refine hK _ _ ?_
          clear hK K
          refine wpAnyIn_ready (rs := [3]) (by kernel_rfl) (by simp) ?_
          refine (AllReadyIn.cons rfl (fun K hK => ?_) AllReadyIn.nil)
          · go_simp
            refine hK _ _ ?_
            clear hK K
            have CO := cells_one (t := t') (w := V2) ⟨oI.ints, oP.ups⟩
            refine wpAnyIn_ready (rs := [4]) (by kernel_rfl) (by simp) ?_
            refine AllReadyIn.cons rfl (fun K hK => ?_) AllReadyIn.nil
            refine stepIn_append _ rfl (.tmp 7) (.tmp 10) 23 rfl w.heap.size 33 i2 _ 11 120 Tryz.underlying23 hi hz0 hz1 hz2 rfl (by decide) v ts.length (va ts) rfl (hrow2.alloc _) ⟨V2.heap.size, 0, none⟩ 1 1 t'.cells rfl rfl (World.news_of_block (World.alloc_heap_new V2 _)) CO (by unfold maxLen; omega) (by omega) (by have := hB.size; have := hbV2.size; simp; omega) ?_
            intro v' w' hown' hgrow
            obtain ⟨g', cap', rfl⟩ := ownsRow_succ hown'
            obtain ⟨hv1, hv3, hr3, hk3, hb3⟩ := hv2.appended (n₀ := w.heap.size) (by decide) hrow2 (by have := hB.size; have := hbV2.size; omega) (Nat.le_refl _) hown' hgrow
            have hrowN := Row.push (F := W.heap.size) hrow2 hli2 hnd hlo (fun b hb => hli.lt b hb) hB.size oI oP ndd gee _ hgrow hv2 (by decide) (by decide) (by decide) hr3
            have hc4 := hv1.cell
            have fc4 := hv1.frozen
            refine hK _ _ ?_
            clear hK K
            refine wpAnyIn_ready (rs := [5]) (by kernel_rfl) (by simp) ?_
            refine AllReadyIn.cons rfl (fun K hK => ?_) AllReadyIn.nil
            go_simp
            refine hK _ _ ?_
            clear hK K
            refine wpAnyIn_done (by kernel_rfl) ?_ _
            gi_wp2
            refine ⟨(below_keeps hbV2).trans (hk3.from _), (hbV2.mono hB.size).trans hb3, ⟨_, hv3, ?_⟩, hB.trans ((hbV2.mono hB.size).trans hb3)⟩
            rw [List.map_append, ← hl, List.map_cons, List.map_nil, ← HTA.out]
            exact hrowN
      · go_simp
        refine ⟨trivial, ?_⟩
        refine (CallsIn.inRound l (callsIn_wide.2 (CC.out _ q1))).mono ?_
        rintro e V2 ⟨t', ds, us, hta', rfl, oI, oP, ndd, gee, b2⟩
        have HTA := Lib.hid hta'
        clear hta'
        simp only [ActT.val]
        have hv2 : Boxed V2 w.heap.size 23 v := (b2.block w.heap.size hv.lt).trans hv
        have hc2 := hv2.cell
        have fc2 := hv2.frozen
        have hc3 := (hv2.alloc (.cells #[.int .i64 t'.a.r, .int .i64 t'.a.n, t'.vd, .int .i64 t'.a.actor, .int .i64 t'.a.kind, .int .i64 t'.a.to, .int .i64 t'.a.bucket, .int .i64 t'.a.mask, .int .i64 t'.a.gr, .int .i64 t'.a.gn, t'.vs] 33)).cell
        have hrow2 := row_past (w := W.drew) hrow b2
        have hli2 := hli.keep fun b hb => b2.block b (hli.lt b hb)
        have hbV2 := q1.trans (b2.mono q1.size)
        refine hK _ _ ?_
        clear hK K
        refine wpAnyIn_ready (rs := [0, 3]) (by kernel_rfl) (by simp) ?_
        refine (AllReadyIn.cons rfl (fun K hK => ?_) (AllReadyIn.cons rfl (fun K hK => ?_) AllReadyIn.nil))
        · go_simp
          refine hK _ _ ?_
          clear hK K
          refine wpAnyIn_ready (rs := [3]) (by kernel_rfl) (by simp) ?_
          refine (AllReadyIn.cons rfl (fun K hK => ?_) AllReadyIn.nil)
          · go_simp
            refine hK _ _ ?_
            clear hK K
            have CO := cells_one (t := t') (w := V2) ⟨oI.ints, oP.ups⟩
            refine wpAnyIn_ready (rs := [4]) (by kernel_rfl) (by simp) ?_
            refine AllReadyIn.cons rfl (fun K hK => ?_) AllReadyIn.nil
            refine stepIn_append _ rfl (.tmp 7) (.tmp 10) 23 rfl w.heap.size 33 i2 _ 11 120 Tryz.underlying23 hi hz0 hz1 hz2 rfl (by decide) v ts.length (va ts) rfl (hrow2.alloc _) ⟨V2.heap.size, 0, none⟩ 1 1 t'.cells rfl rfl (World.news_of_block (World.alloc_heap_new V2 _)) CO (by unfold maxLen; omega) (by omega) (by have := hB.size; have := hbV2.size; simp; omega) ?_
            intro v' w' hown' hgrow
            obtain ⟨g', cap', rfl⟩ := ownsRow_succ hown'
            obtain ⟨hv1, hv3, hr3, hk3, hb3⟩ := hv2.appended (n₀ := w.heap.size) (by decide) hrow2 (by have := hB.size; have := hbV2.size; omega) (Nat.le_refl _) hown' hgrow
            have hrowN := Row.push (F := W.heap.size) hrow2 hli2 hnd hlo (fun b hb => hli.lt b hb) hB.size oI oP ndd gee _ hgrow hv2 (by decide) (by decide) (by decide) hr3
            have hc4 := hv1.cell
            have fc4 := hv1.frozen
            refine hK _ _ ?_
            clear hK K
            refine wpAnyIn_ready (rs := [5]) (by kernel_rfl) (by simp) ?_
            refine AllReadyIn.cons rfl (fun K hK => ?_) AllReadyIn.nil
            go_simp
            refine hK _ _ ?_
            clear hK K
            refine wpAnyIn_done (by kernel_rfl) ?_ _
            gi_wp2
            refine ⟨(below_keeps hbV2).trans (hk3.from _), (hbV2.mono hB.size).trans hb3, ⟨_, hv3, ?_⟩, hB.trans ((hbV2.mono hB.size).trans hb3)⟩
            rw [List.map_append, ← hl, List.map_cons, List.map_nil, ← HTA.out]
            exact hrowN
        · go_simp
          refine hK _ _ ?_
          clear hK K
          refine wpAnyIn_ready (rs := [0]) (by kernel_rfl) (by simp) ?_
          refine (AllReadyIn.cons rfl (fun K hK => ?_) AllReadyIn.nil)
          · go_simp
            refine hK _ _ ?_
            clear hK K
            have CO := cells_one (t := t') (w := V2) ⟨oI.ints, oP.ups⟩
            refine wpAnyIn_ready (rs := [4]) (by kernel_rfl) (by simp) ?_
            refine AllReadyIn.cons rfl (fun K hK => ?_) AllReadyIn.nil
            refine stepIn_append _ rfl (.tmp 7) (.tmp 10) 23 rfl w.heap.size 33 i2 _ 11 120 Tryz.underlying23 hi hz0 hz1 hz2 rfl (by decide) v ts.length (va ts) rfl (hrow2.alloc _) ⟨V2.heap.size, 0, none⟩ 1 1 t'.cells rfl rfl (World.news_of_block (World.alloc_heap_new V2 _)) CO (by unfold maxLen; omega) (by omega) (by have := hB.size; have := hbV2.size; simp; omega) ?_
            intro v' w' hown' hgrow
            obtain ⟨g', cap', rfl⟩ := ownsRow_succ hown'
            obtain ⟨hv1, hv3, hr3, hk3, hb3⟩ := hv2.appended (n₀ := w.heap.size) (by decide) hrow2 (by have := hB.size; have := hbV2.size; omega) (Nat.le_refl _) hown' hgrow
            have hrowN := Row.push (F := W.heap.size) hrow2 hli2 hnd hlo (fun b hb => hli.lt b hb) hB.size oI oP ndd gee _ hgrow hv2 (by decide) (by decide) (by decide) hr3
            have hc4 := hv1.cell
            have fc4 := hv1.frozen
            refine hK _ _ ?_
            clear hK K
            refine wpAnyIn_ready (rs := [5]) (by kernel_rfl) (by simp) ?_
            refine AllReadyIn.cons rfl (fun K hK => ?_) AllReadyIn.nil
            go_simp
            refine hK _ _ ?_
            clear hK K
            refine wpAnyIn_done (by kernel_rfl) ?_ _
            gi_wp2
            refine ⟨(below_keeps hbV2).trans (hk3.from _), (hbV2.mono hB.size).trans hb3, ⟨_, hv3, ?_⟩, hB.trans ((hbV2.mono hB.size).trans hb3)⟩
            rw [List.map_append, ← hl, List.map_cons, List.map_nil, ← HTA.out]
            exact hrowN
  case done =>
    rintro D ys W hD hys ⟨⟨v, hv, hr⟩, hb⟩ hk
    have hc := hv.cell
    gi_wp2
    refine ⟨by simp, .inl ⟨_, _, rfl, run_takeDeferred hk, ?_⟩⟩
    have hne : ∀ (o' : Obj) (b : Nat) (o : Obj), W.heap[b]? = some o → o.isCells = true → (W.putObj D o').heap[b]? = W.heap[b]? := fun o' b o ho hc => (grownBy_putObj' W D o').block b (Array.getElem?_eq_some_iff.1 ho).1 (fun e => by
      cases e
      rw [hk] at ho; cases ho; cases hc)
    have hr2 := fun (o' : Obj) => hr.keep (w' := W.putObj D o') fun b hb => by
      rcases hb with ⟨cs, cur, h⟩ | h
      · exact hne _ _ _ h rfl
      · obtain ⟨o, ho, hc⟩ := h.cells
        exact hne _ _ _ ho hc
    refine ⟨_, results_tmp rfl _ _ _, v, rfl, ?_, hb.trans (belowK_b (w := w) (Nat.le_refl _) W D _ _ (by omega) hk rfl rfl)⟩
    have e : (ys.map fun t => t.1.a) = zs.map ActT.a := by rw [← hys, List.map_map]; rfl
    rw [← e]
    exact hr2 (.deferred none)
  case stop =>
    rintro D c pre W _ _ h _
    exact h.elim
theorem copyActs_any (gf : Nat) (lb : Array Value) (K : ActT → Prop) (zs : List ActT) (N : Nat) (w : World) (eg : ∀ args w, (callFunc gf args).run Tryz.prog w = .ok (.enter gf args) w)
    (hs : SeqStopsK Fence.wide 5 Tryz.prog gf lb (fun t : {t : ActT // K t} => #[t.1.val]) (Below w.heap.size) (fun ys => ys.map Subtype.val = zs) (fun pre => pre.map Subtype.val <+: zs) N w)
    (hK : ∀ t, K t → t.Reads w ∧ t.a.Small) (hN : N ≤ 1048576) :
    Calls Tryz.prog 58 #[.func (.func gf) #[] lb] w fun e w' => ∃ v bs, e = .returned v ∧ OwnL w' v (zs.map ActT.a) bs ∧ (∀ b ∈ bs, w.heap.size ≤ b) ∧ Below w.heap.size w w' := by
  exact (copyActs_row gf lb K zs N w eg hs hK hN).mono fun e w' ⟨v, he, hr, hb⟩ => by
    obtain ⟨bs, ho, hge⟩ := hr.own
    exact ⟨v, bs, he, ho, hge, hb⟩
end Go.Proofs.YtkcfcmigcphjlaaGreat
















namespace Go.Proofs.YtkcfcmigcphjlaaGreat
open Go.RowKit Go.Shelf
set_option linter.unusedVariables false

set_option maxRecDepth 100000 in
set_option maxHeartbeats 1600000 in
theorem beyond1_any (C : Nat) (pl x0 x1 x2 x3 x : Int) (t : ActT) (q : Nat) (w : World) (kC : Blk w C [.int .i64 pl, .int .i64 x0, .int .i64 x1, .int .i64 x2, .int .i64 x3]) (h : t.Reads w) (hr : t.a.r = (q : Int)) (hq : q < 4) (hx : [x0, x1, x2, x3].getD q 0 = x) :
    Calls Tryz.prog 96 #[t.val, .pointer (some ⟨C, 0, none⟩)] w fun e w' => e = .returned (.bool (!decide (t.a.n ≤ x))) ∧ Below w.heap.size w w' := by
  have RC := Lib.hid (fun W (h : t.Reads W) => reaches_any pl x0 x1 x2 x3 x t q W h hr hq hx)
  obtain ⟨⟨r, n, dep, actor, kind, dst, bucket, mask, gr, gn, ups⟩, vd, vs⟩ := t
  have hsd := ints_len h.1
  have hsu := ups_len h.2
  simp only at hsd hsu hr
  obtain ⟨da, dc, rfl⟩ := hsd
  obtain ⟨ua, uc, rfl⟩ := hsu
  subst hr
  simp only [ActT.val] at RC ⊢
  obtain ⟨W0, hW0⟩ : ∃ W0, W0 = w.alloc (.cells #[.int .i64 q, .int .i64 n, .slice da dep.length dc, .int .i64 actor, .int .i64 kind, .int .i64 dst, .int .i64 bucket, .int .i64 mask, .int .i64 gr, .int .i64 gn, .slice ua ups.length uc] 33) := ⟨_, rfl⟩
  have b0 := (Below.refl w.heap.size w).alloc (Nat.le_refl _) (.cells #[.int .i64 q, .int .i64 n, .slice da dep.length dc, .int .i64 actor, .int .i64 kind, .int .i64 dst, .int .i64 bucket, .int .i64 mask, .int .i64 gr, .int .i64 gn, .slice ua ups.length uc] 33)
  have kA : Blk W0 w.heap.size [.int .i64 q, .int .i64 n, .slice da dep.length dc, .int .i64 actor, .int .i64 kind, .int .i64 dst, .int .i64 bucket, .int .i64 mask, .int .i64 gr, .int .i64 gn, .slice ua ups.length uc] := by rw [hW0]; exact Blk.new w _ _
  have kD : Blk W0 C [.int .i64 pl, .int .i64 x0, .int .i64 x1, .int .i64 x2, .int .i64 x3] := by rw [hW0]; exact kC.alloc _
  rw [← hW0] at b0
  have HT := Lib.hid (h.below b0)
  have B0 := Lib.hid b0
  have s0 := kA.cell 0
  have s1 := kA.cell 1
  have s2 := kA.cell 2
  have s3 := kA.cell 3
  have s4 := kA.cell 4
  have s5 := kA.cell 5
  have s6 := kA.cell 6
  have s7 := kA.cell 7
  have s8 := kA.cell 8
  have s9 := kA.cell 9
  have s10 := kA.cell 10
  have c0 := kD.cell 0
  have c1 := kD.cell 1
  have c2 := kD.cell 2
  have c3 := kD.cell 3
  have c4 := kD.cell 4
  simp only [List.getElem?_cons_zero, List.getElem?_cons_succ] at s0 s1 s2 s3 s4 s5 s6 s7 s8 s9 s10 c0 c1 c2 c3 c4
  obtain ⟨X, hX⟩ : ∃ X, X = decide (n ≤ x) := ⟨_, rfl⟩
  rw [← hX] at RC ⊢
  clear kA kD kC b0 h hx hX
  go_enter Tryz.func96, Tryz.ntmps96
  go_upto_region 1 with (fail)
  rw [← hW0]
  clear hW0
  go_wp2_with fail
  refine (RC.out _ HT.out).mono ?_
  rintro e w2 ⟨rfl, b2⟩
  have B2 := Lib.hid (B0.out.trans (b2.mono B0.out.size))
  clear b2 s0 s1 s2 s3 s4 s5 s6 s7 s8 s9 s10 c0 c1 c2 c3 c4
  go_wp2
  go_ret
  exact ⟨rfl, B2.out⟩

/-- an iterator over the acts of a set that a clock does not reach: the set's seven cells in one block, the function in another, the clock in a third -/
def Beyond (w : World) (cs ks : List Value) (e : Ending) (w' : World) : Prop := ∃ S F C, e = .returned (.func (.func 111) #[] #[.pointer (some ⟨S, 0, none⟩), .pointer (some ⟨F, 0, none⟩)]) ∧ w.heap.size ≤ S ∧ w.heap.size ≤ F ∧ Blk w' S cs ∧ Blk w' C ks ∧ Blk w' F [.func (.func 96) #[] #[.pointer (some ⟨C, 0, none⟩)]] ∧ Below w.heap.size w w'
set_option maxRecDepth 100000 in
set_option maxHeartbeats 1600000 in
theorem beyond_any (a : Option Addr) (l c b : Nat) (p x0 x1 x2 x3 q y0 y1 y2 y3 : Int) (w : World) :
    Calls Tryz.prog 68 #[.agg #[.slice a l c, .map (some b), .int .i64 p, .int .i64 x0, .int .i64 x1, .int .i64 x2, .int .i64 x3], .agg #[.int .i64 q, .int .i64 y0, .int .i64 y1, .int .i64 y2, .int .i64 y3]] w (Beyond w [.slice a l c, .map (some b), .int .i64 p, .int .i64 x0, .int .i64 x1, .int .i64 x2, .int .i64 x3] [.int .i64 q, .int .i64 y0, .int .i64 y1, .int .i64 y2, .int .i64 y3]) := by
  go_enter Tryz.func68, Tryz.ntmps68
  obtain ⟨W0, hW0⟩ : ∃ W0, W0 = (w.alloc (.cells #[.slice a l c, .map (some b), .int .i64 p, .int .i64 x0, .int .i64 x1, .int .i64 x2, .int .i64 x3] 57)).alloc (.cells #[.int .i64 q, .int .i64 y0, .int .i64 y1, .int .i64 y2, .int .i64 y3] 55) := ⟨_, rfl⟩
  have kS : Blk W0 w.heap.size [.slice a l c, .map (some b), .int .i64 p, .int .i64 x0, .int .i64 x1, .int .i64 x2, .int .i64 x3] := by
    rw [hW0]
    exact (Blk.new w _ _).alloc _
  have kC : Blk W0 (w.heap.size + 1) [.int .i64 q, .int .i64 y0, .int .i64 y1, .int .i64 y2, .int .i64 y3] := by
    rw [hW0]
    have := Blk.new (w.alloc (.cells #[.slice a l c, .map (some b), .int .i64 p, .int .i64 x0, .int .i64 x1, .int .i64 x2, .int .i64 x3] 57)) #[.int .i64 q, .int .i64 y0, .int .i64 y1, .int .i64 y2, .int .i64 y3] 55
    rw [World.size_alloc] at this
    exact this
  have B0 := Lib.hid (((Below.refl w.heap.size w).alloc (Nat.le_refl _) (.cells #[.slice a l c, .map (some b), .int .i64 p, .int .i64 x0, .int .i64 x1, .int .i64 x2, .int .i64 x3] 57)).alloc (by simp) (.cells #[.int .i64 q, .int .i64 y0, .int .i64 y1, .int .i64 y2, .int .i64 y3] 55))
  rw [← hW0] at B0
  have s0 := kS.cell 0
  have s1 := kS.cell 1
  have s2 := kS.cell 2
  have s3 := kS.cell 3
  have s4 := kS.cell 4
  have s5 := kS.cell 5
  have s6 := kS.cell 6
  simp only [List.getElem?_cons_zero, List.getElem?_cons_succ] at s0 s1 s2 s3 s4 s5 s6
  have KC := Lib.hid kC
  clear kS kC
  go_upto_region 1 with (fail)
  rw [← hW0]
  clear hW0
  go_wp2_with fail
  refine (those_any _ _ _ _ _ _ _ _ _ _ _ _ _).mono ?_
  rintro e w6 ⟨S, F, rfl, hS, hF, kS, kF, b6⟩
  have h0 := B0.out.size
  have kC6 := KC.out.below b6 KC.out.lt
  go_wp2
  go_ret
  exact ⟨S, F, _, rfl, by omega, by omega, kS, kC6, kF, B0.out.trans (b6.mono h0)⟩

attribute [local go_sem] Oper.semAt_some
/-- whether the clock does not know the act -/
def lacksT (ys : List Int) (t : ActT) : Bool := !decide (t.a.n ≤ ys.getD t.a.r.toNat 0)

set_option maxRecDepth 100000 in
set_option maxHeartbeats 3200000 in
theorem those2_in (n : Nat) (hn : 1 ≤ n) (C l Sb G b off cap len : Nat) (mp : Value) (p x0 x1 x2 x3 pl y0 y1 y2 y3 : Int) (ts : List ActT) (K : ActT → Prop) (J Jx : List ActT → World → Prop) (w0 W : World)
    (hK : ∀ t ∈ ts, K t)
    (hJ : ∀ pre A B, J pre A → Below A.heap.size A B → J pre B)
    (hY : ∀ pre x W, K x → J pre W → pre.length < ts.length → YieldAt Fence.wide (n - 1) Tryz.prog l #[x.val] W fun e W' =>
      (e = .returned (.bool true) ∧ J (pre ++ [x]) W' ∧ Below w0.heap.size W W') ∨ (e = .returned (.bool false) ∧ Jx (pre ++ [x]) W'))
    (h1 : ts.length = len) (hl : len ≤ 9223372036854775807) (hb : b < w0.heap.size) (hS : Sb < w0.heap.size) (hG : G < w0.heap.size) (hW : Below w0.heap.size w0 W)
    (hr : ∀ t ∈ ts, t.Reads w0 ∧ 0 ≤ t.a.r ∧ t.a.r < 4) (hc : ∀ i, i < len → ActAt w0 b (off + i * 11) (ts.getD i t0))
    (kS : Blk w0 Sb [.slice (some ⟨b, off, none⟩) len cap, mp, .int .i64 p, .int .i64 x0, .int .i64 x1, .int .i64 x2, .int .i64 x3])
    (hC : C < w0.heap.size) (kC : Blk w0 C [.int .i64 pl, .int .i64 y0, .int .i64 y1, .int .i64 y2, .int .i64 y3])
    (kG : Blk w0 G [.func (.func 96) #[] #[.pointer (some ⟨C, 0, none⟩)]]) (h0 : J [] W) :
    CallsIn Fence.wide n Tryz.prog 111 #[.func (.yield l) #[] #[], .pointer (some ⟨Sb, 0, none⟩), .pointer (some ⟨G, 0, none⟩)] W fun e W' => (∃ v, e = .returned v) ∧
      ((∃ zs, zs = ts.filter (lacksT [y0, y1, y2, y3]) ∧ J zs W') ∨ (∃ pre, pre <+: ts.filter (lacksT [y0, y1, y2, y3]) ∧ Jx pre W')) := by
  have s0 := (kS.below hW hS).cell 0
  simp only [List.getElem?_cons_zero] at s0
  refine callsIn_of_wp Tryz.func111 rfl trivial ?_ rfl
  simp only [Tryz.ntmps111, List.size_toArray, List.length_cons, List.length_nil, Nat.reduceAdd, Nat.reduceSub, Array.replicate_succ, Array.replicate_zero, List.push_toArray, List.append_toArray, List.nil_append, List.cons_append]
  have HC := Lib.hid hc
  have HR := Lib.hid hr
  have N1 := Lib.hid h1
  have HJ := Lib.hid hJ
  have HY := Lib.hid hY
  have HKK := Lib.hid hK
  have KG := Lib.hid kG
  have KC := Lib.hid kC
  clear kS kG kC hc hr h1 hJ hY hK
  gi_wp2
  gi_loopw [9] (fun i wr => ∃ k : Nat, k ≤ len ∧ i = .int .i64 k ∧ Hid (J ((ts.take k).filter (lacksT [y0, y1, y2, y3])) wr) ∧ Hid (Below w0.heap.size w0 wr)) (fun i _ => len - (intOf i).toNat)
  case atStart => exact ⟨0, Nat.zero_le _, rfl, h0, hW⟩
  case round =>
    obtain ⟨k, hk, rfl, hj, hbel⟩ := hrel
    by_cases hlt : k < len
    · have hlt2 : k < ts.length := by rw [N1.out]; exact hlt
      have hm := getD_mem (ts := ts) (i := k) hlt2
      obtain ⟨hq0, hq1, hq2⟩ := HR.out _ hm
      have HKT := Lib.hid (HKK.out _ hm)
      have AT := Lib.hid ((HC.out k hlt).below hbel.out hb)
      have HT := Lib.hid (hq0.below hbel.out)
      have FS := Lib.hid (filt_succ (lacksT [y0, y1, y2, y3]) ts k hlt2)
      have FL := Lib.hid (filt_len (lacksT [y0, y1, y2, y3]) ts k hlt2)
      have FP := Lib.hid (filt_pre (lacksT [y0, y1, y2, y3]) ts (k + 1))
      have g0 := (KG.out.below hbel.out hG).cell 0
      simp only [List.getElem?_cons_zero] at g0
      have hGw : G < wr.heap.size := Nat.lt_of_lt_of_le hG hbel.out.size
      obtain ⟨t, htt⟩ : ∃ t, t = ts.getD k t0 := ⟨_, rfl⟩
      rw [← htt] at AT HT hq1 hq2 FS HKT
      clear hm htt hq0
      obtain ⟨⟨r, nn, dep, actor, kind, dst, bucket, mask, gr, gn, ups⟩, vd, vs⟩ := t
      have hsd := ints_len HT.out.1
      have hsu := ups_len HT.out.2
      simp only at hsd hsu hq1 hq2
      obtain ⟨q, rfl⟩ : ∃ q : Nat, r = (q : Int) := ⟨r.toNat, by omega⟩
      obtain ⟨da, dc, rfl⟩ := hsd
      obtain ⟨ua, uc, rfl⟩ := hsu
      have c0 := AT.out.c0
      have c1 := AT.out.c1
      have c2 := AT.out.c2
      have c3 := AT.out.c3
      have c4 := AT.out.c4
      have c5 := AT.out.c5
      have c6 := AT.out.c6
      have c7 := AT.out.c7
      have c8 := AT.out.c8
      have c9 := AT.out.c9
      have c10 := AT.out.c10
      simp only at c0 c1 c2 c3 c4 c5 c6 c7 c8 c9 c10
      clear AT
      gi_wp2_with fail
      refine ⟨trivial, ?_⟩
      have kq : Blk (wr.alloc (.cells #[.int .i64 (q : Int), .int .i64 nn, .slice da dep.length dc, .int .i64 actor, .int .i64 kind, .int .i64 dst, .int .i64 bucket, .int .i64 mask, .int .i64 gr, .int .i64 gn, .slice ua ups.length uc] 33)) wr.heap.size [.int .i64 (q : Int), .int .i64 nn, .slice da dep.length dc, .int .i64 actor, .int .i64 kind, .int .i64 dst, .int .i64 bucket, .int .i64 mask, .int .i64 gr, .int .i64 gn, .slice ua ups.length uc] := Blk.new wr _ _
      have bq := (Below.refl wr.heap.size wr).alloc (Nat.le_refl _) (.cells #[.int .i64 (q : Int), .int .i64 nn, .slice da dep.length dc, .int .i64 actor, .int .i64 kind, .int .i64 dst, .int .i64 bucket, .int .i64 mask, .int .i64 gr, .int .i64 gn, .slice ua ups.length uc] 33)
      obtain ⟨Q, hQ⟩ : ∃ Q, Q = wr.heap.size := ⟨_, rfl⟩
      generalize wr.alloc (.cells #[.int .i64 (q : Int), .int .i64 nn, .slice da dep.length dc, .int .i64 actor, .int .i64 kind, .int .i64 dst, .int .i64 bucket, .int .i64 mask, .int .i64 gr, .int .i64 gn, .slice ua ups.length uc] 33) = wb at kq bq ⊢
      have HT2 := HT.out.below bq
      have hjb := HJ.out _ _ _ hj.out bq
      have hbb := hbel.out.trans (bq.mono hbel.out.size)
      have kCb := KC.out.below hbb hC
      obtain ⟨X, hX⟩ : ∃ X, X = !decide (nn ≤ [y0, y1, y2, y3].getD q 0) := ⟨_, rfl⟩
      have FX : Hid ((ts.take (k + 1)).filter (lacksT [y0, y1, y2, y3]) = (ts.take k).filter (lacksT [y0, y1, y2, y3]) ++ (if X = true then [(⟨⟨(q : Int), nn, dep, actor, kind, dst, bucket, mask, gr, gn, ups⟩, .slice da dep.length dc, .slice ua ups.length uc⟩ : ActT)] else [])) := by
        rw [hX]; exact FS.out
      have RC : CallsIn Fence.wide (n - 1) Tryz.prog 96 #[.agg #[.int .i64 (q : Int), .int .i64 nn, .slice da dep.length dc, .int .i64 actor, .int .i64 kind, .int .i64 dst, .int .i64 bucket, .int .i64 mask, .int .i64 gr, .int .i64 gn, .slice ua ups.length uc], .pointer (some ⟨C, 0, none⟩)] wb fun e w' => e = .returned (.bool X) ∧ Below wb.heap.size wb w' := by
        rw [hX]; exact callsIn_wide.2 (beyond1_any C pl y0 y1 y2 y3 _ (⟨⟨(q : Int), nn, dep, actor, kind, dst, bucket, mask, gr, gn, ups⟩, .slice da dep.length dc, .slice ua ups.length uc⟩ : ActT) q wb kCb HT2 rfl (by omega) rfl)
      refine RC.mono ?_
      clear RC hX FS kCb
      rintro e w2 ⟨rfl, b2⟩
      have kq2 := kq.below b2 kq.lt
      have hj2 := Lib.hid (HJ.out _ _ _ hjb b2)
      have hb2 := Lib.hid (hbb.trans (b2.mono hbb.size))
      clear hjb hbb HT2 bq kq b2
      have e0 := kq2.cell 0
      have e1 := kq2.cell 1
      have e2 := kq2.cell 2
      have e3 := kq2.cell 3
      have e4 := kq2.cell 4
      have e5 := kq2.cell 5
      have e6 := kq2.cell 6
      have e7 := kq2.cell 7
      have e8 := kq2.cell 8
      have e9 := kq2.cell 9
      have e10 := kq2.cell 10
      simp only [List.getElem?_cons_zero, List.getElem?_cons_succ] at e0 e1 e2 e3 e4 e5 e6 e7 e8 e9 e10
      clear kq2 c0 c1 c2 c3 c4 c5 c6 c7 c8 c9 c10 g0
      cases X
      · gi_wp2
        refine ⟨fun f hf => (nomatch hf), ?_⟩
        gi_wp2
        go_roundw
        case rel =>
          refine ⟨k + 1, by omega, by first | rfl | simp, ?_, hb2⟩
          have := FX.out
          simp only [Bool.false_eq_true, if_false, List.append_nil] at this
          exact Lib.hid (by rw [this]; exact hj2.out)
        case measure => simp [intOf]; omega
      · have hy2 := HY.out _ (⟨⟨(q : Int), nn, dep, actor, kind, dst, bucket, mask, gr, gn, ups⟩, .slice da dep.length dc, .slice ua ups.length uc⟩ : ActT) w2 HKT.out hj2.out FL.out
        simp only [ActT.val] at hy2
        obtain ⟨fn, tmps, assign, body, hy, hR⟩ := hy2
        gi_wp2
        refine hR.mono ?_
        clear e0 e1 e2 e3 e4 e5 e6 e7 e8 e9 e10
        rintro e W3 (⟨rfl, hJ3, hk3⟩ | ⟨rfl, hJx3⟩)
        · gi_wp2
          go_roundw
          case rel =>
            refine ⟨k + 1, by omega, by first | rfl | simp, ?_, Lib.hid (hb2.out.trans hk3)⟩
            have := FX.out
            simp only [if_true] at this
            exact Lib.hid (by rw [this]; exact hJ3)
          case measure => simp [intOf]; omega
        · gi_wp2
          refine bodyPost_ret (results_none rfl _ _ _) rfl ?_
          refine ⟨⟨_, rfl⟩, .inr ⟨_, ?_, hJx3⟩⟩
          have h8 := FX.out
          simp only [if_true] at h8
          have h9 := FP.out
          rw [h8] at h9
          exact h9
    · obtain rfl : k = len := by omega
      gi_wp2
      go_end0
      refine ⟨⟨_, rfl⟩, .inl ⟨_, rfl, ?_⟩⟩
      have := hj.out
      rw [← N1.out, List.take_length] at this
      exact this


theorem those2_stops (n : Nat) (hn : 1 ≤ n) (C Sb G b off cap len : Nat) (mp : Value) (p x0 x1 x2 x3 pl y0 y1 y2 y3 : Int) (ts : List ActT) (K : ActT → Prop) (hK : ∀ t ∈ ts, K t) (w0 : World)
    (h1 : ts.length = len) (hl : len ≤ 9223372036854775807) (hb : b < w0.heap.size) (hS : Sb < w0.heap.size) (hG : G < w0.heap.size)
    (hr : ∀ t ∈ ts, t.Reads w0 ∧ 0 ≤ t.a.r ∧ t.a.r < 4) (hc : ∀ i, i < len → ActAt w0 b (off + i * 11) (ts.getD i t0))
    (kS : Blk w0 Sb [.slice (some ⟨b, off, none⟩) len cap, mp, .int .i64 p, .int .i64 x0, .int .i64 x1, .int .i64 x2, .int .i64 x3])
    (hC : C < w0.heap.size) (kC : Blk w0 C [.int .i64 pl, .int .i64 y0, .int .i64 y1, .int .i64 y2, .int .i64 y3])
    (kG : Blk w0 G [.func (.func 96) #[] #[.pointer (some ⟨C, 0, none⟩)]]) :
    SeqStopsK Fence.wide n Tryz.prog 111 #[.pointer (some ⟨Sb, 0, none⟩), .pointer (some ⟨G, 0, none⟩)] (fun t : {t : ActT // K t} => #[t.1.val]) (Below w0.heap.size)
      (fun zs => zs.map Subtype.val = ts.filter (lacksT [y0, y1, y2, y3])) (fun pre => pre.map Subtype.val <+: ts.filter (lacksT [y0, y1, y2, y3])) ts.length w0 := fun l J Jx W hW hA _ hY h0 => by
  refine (those2_in n hn C l Sb G b off cap len mp p x0 x1 x2 x3 pl y0 y1 y2 y3 ts K (fun zs A => ∃ ys : List {t : ActT // K t}, ys.map Subtype.val = zs ∧ J ys A) (fun zs A => ∃ ys : List {t : ActT // K t}, ys.map Subtype.val = zs ∧ Jx ys A) w0 W hK
    (fun pre A B hj hab => ?_) (fun pre x V hx hj hlt => ?_) h1 hl hb hS hG hW hr hc kS hC kC kG ⟨[], rfl, h0⟩).mono ?_
  · obtain ⟨ys, hy, hj⟩ := hj
    exact ⟨ys, hy, hA ys A B none hj ⟨hab.os, hab.tape, hab.output, hab.size, fun k hk _ => hab.block k hk⟩ (fun _ h => nomatch h)⟩
  · obtain ⟨ys, hy, hj⟩ := hj
    have hlen : ys.length < ts.length := by rw [← hy] at hlt; simpa using hlt
    refine YieldAt.mono (hY ys ⟨x, hx⟩ V hj hlen) ?_
    rintro e V' (⟨rfl, hj', hk⟩ | ⟨rfl, hj'⟩)
    · exact .inl ⟨rfl, ⟨_, by simp [hy], hj'⟩, hk⟩
    · exact .inr ⟨rfl, ⟨_, by simp [hy], hj'⟩⟩
  · rintro e V ⟨hv, h⟩
    refine ⟨hv, ?_⟩
    rcases h with ⟨zs, rfl, ys, hy, hj⟩ | ⟨pre, hp, ys, hy, hj⟩
    · exact .inl ⟨ys, hy, hj⟩
    · exact .inr ⟨ys, by rw [← hy] at hp; exact hp, hj⟩

set_option maxRecDepth 100000 in
set_option maxHeartbeats 800000 in
theorem those0_stops (n N : Nat) (hn : 1 ≤ n) (Sb G cap : Nat) (a : Option Addr) (mp : Value) (p x0 x1 x2 x3 : Int) (K : ActT → Prop) (w0 : World) (hS : Sb < w0.heap.size)
    (kS : Blk w0 Sb [.slice a 0 cap, mp, .int .i64 p, .int .i64 x0, .int .i64 x1, .int .i64 x2, .int .i64 x3]) :
    SeqStopsK Fence.wide n Tryz.prog 111 #[.pointer (some ⟨Sb, 0, none⟩), .pointer (some ⟨G, 0, none⟩)] (fun t : {t : ActT // K t} => #[t.1.val]) (Below w0.heap.size)
      (fun zs => zs.map Subtype.val = []) (fun pre => pre.map Subtype.val <+: []) N w0 := fun l J Jx W hW hA _ hY h0 => by
  have s0 := (kS.below hW hS).cell 0
  simp only [List.getElem?_cons_zero] at s0
  refine callsIn_of_wp Tryz.func111 rfl trivial ?_ rfl
  simp only [Tryz.ntmps111, List.size_toArray, List.length_cons, List.length_nil, Nat.reduceAdd, Nat.reduceSub, Array.replicate_succ, Array.replicate_zero, List.push_toArray, List.append_toArray, List.nil_append, List.cons_append]
  have H0 := Lib.hid h0
  clear h0 hY hA kS
  gi_wp2
  gi_loopw [9] (fun i wr => i = .int .i64 0 ∧ Hid (J [] wr)) (fun i _ => 0)
  case atStart => exact ⟨rfl, H0⟩
  case round =>
    obtain ⟨rfl, hj⟩ := hrel
    gi_wp2
    go_end0
    exact ⟨⟨_, rfl⟩, .inl ⟨[], rfl, hj.out⟩⟩
end Go.Proofs.YtkcfcmigcphjlaaGreat



namespace Go.Proofs.YtkcfcmigcphjlaaGreat
open Go.RowKit
set_option linter.unusedVariables false

theorem own_apart {w : World} {ds us : List Nat} {v u : Value} {xs : List Int} {ups : List UpM} (h : OwnI w ds v xs) (k : OwnP w us u ups) : ∀ b ∈ ds, b ∉ us := by
  rcases h with ⟨_, rfl, _⟩ | ⟨d, rfl, hp, h⟩
  · intro b hb; cases hb
  · rcases k with ⟨_, rfl, _⟩ | ⟨d', rfl, hp', k⟩
    · intro b _ hb; cases hb
    · intro b hb hc
      rw [List.mem_singleton] at hb hc
      exact type_ne (own_type h hp) (ownU_type k hp') (by decide) (hb.symm.trans hc)
theorem OwnI.nodup {w : World} {ds : List Nat} {v : Value} {xs : List Int} (h : OwnI w ds v xs) : ds.Nodup := by
  rcases h with ⟨_, rfl, _⟩ | ⟨d, rfl, _⟩ <;> simp
theorem OwnP.nodup {w : World} {ds : List Nat} {v : Value} {us : List UpM} (h : OwnP w ds v us) : ds.Nodup := by
  rcases h with ⟨_, rfl, _⟩ | ⟨d, rfl, _⟩ <;> simp
theorem own_nodup {w : World} {ds us : List Nat} {v u : Value} {xs : List Int} {ups : List UpM} (h : OwnI w ds v xs) (k : OwnP w us u ups) : (ds ++ us).Nodup := by
  rw [List.nodup_append]
  exact ⟨h.nodup, k.nodup, fun a ha b hb e => own_apart h k a ha (e ▸ hb)⟩

/-- v is the act a, its lists in the blocks bs -/
def OwnAct (w : World) (v : Value) (a : ActM) (bs : List Nat) : Prop := ∃ (t : ActT) (ds us : List Nat), v = t.val ∧ t.a = a ∧ bs = ds ++ us ∧ OwnI w ds t.vd t.a.dep ∧ OwnP w us t.vs t.a.ups
theorem OwnAct.lt {w : World} {v : Value} {a : ActM} {bs : List Nat} (h : OwnAct w v a bs) : ∀ b ∈ bs, b < w.heap.size := by
  obtain ⟨t, ds, us, _, _, rfl, h1, h2⟩ := h
  intro b hb
  rcases List.mem_append.1 hb with hb | hb
  · exact h1.lt b hb
  · exact h2.lt b hb
theorem OwnAct.keep {w w' : World} {v : Value} {a : ActM} {bs : List Nat} (h : OwnAct w v a bs) (hk : ∀ b ∈ bs, w'.heap[b]? = w.heap[b]?) : OwnAct w' v a bs := by
  obtain ⟨t, ds, us, h1, h2, rfl, h3, h4⟩ := h
  exact ⟨t, ds, us, h1, h2, rfl, h3.keep fun b hb => hk b (List.mem_append.2 (.inl hb)), h4.keep fun b hb => hk b (List.mem_append.2 (.inr hb))⟩
theorem OwnAct.below {w w' : World} {v : Value} {a : ActM} {bs : List Nat} (h : OwnAct w v a bs) (hb : Below w.heap.size w w') : OwnAct w' v a bs := h.keep fun b hm => hb.block b (h.lt b hm)
theorem OwnAct.other {w w' : World} {v : Value} {a : ActM} {bs cs : List Nat} (h : OwnAct w v a bs) (hg : GrOn cs w w') (hd : ∀ b ∈ bs, b ∉ cs) : OwnAct w' v a bs := h.keep fun b hm => hg.same b (h.lt b hm) (hd b hm)
theorem OwnAct.act {w : World} {v : Value} {a : ActM} {bs : List Nat} (h : OwnAct w v a bs) : ActIs w v a := by
  obtain ⟨t, ds, us, rfl, rfl, _, h1, h2⟩ := h
  exact ⟨t.vd, t.vs, rfl, h1.ints, h2.ups⟩
def RetA (w : World) (a : ActM) (e : Ending) (w' : World) : Prop := ∃ v bs, e = .returned v ∧ OwnAct w' v a bs ∧ (∀ b ∈ bs, w.heap.size ≤ b) ∧ Below w.heap.size w w'
theorem Copied.ret {w w' : World} {a : ActM} {e : Ending} (h : Copied w a e w') : RetA w a e w' := by
  obtain ⟨t, ds, us, h1, h2, h3, h4, h5, h6, h7⟩ := h
  subst h1
  exact ⟨_, ds ++ us, h2, ⟨t, ds, us, rfl, rfl, rfl, h3, h4⟩, h6, h7⟩
theorem Blk.on {w w' : World} {B : Nat} {bs : List Nat} {l : List Value} (h : Blk w B l) (hg : GrOn bs w w') (hn : B ∉ bs) : Blk w' B l :=
  ⟨Nat.lt_of_lt_of_le h.lt hg.size, fun j => (World.cell?_of_block (w := w) (hg.same B h.lt hn)).trans (h.cell j), fun j => (World.frozen?_of_block (w := w) (hg.same B h.lt hn)).trans (h.free j)⟩

def szD (a : ActM) : Nat := a.dep.length + 4 * a.ups.length
/-- eyes -/
def RetE (r n : Int) (w : World) (xs : List Int) (e : Ending) (w' : World) : Prop := ∃ v bs, e = .returned (.agg #[.int .i64 r, .int .i64 n, v]) ∧ OwnI w' bs v xs ∧ (∀ b ∈ bs, w.heap.size ≤ b) ∧ Below w.heap.size w w'
def SeesE (r n : Int) (w : World) (xs : List Int) (e : Ending) (w' : World) : Prop := ∃ v, e = .returned (.agg #[.int .i64 r, .int .i64 n, v]) ∧ Ints w' v xs ∧ Below w.heap.size w w'
theorem RetE.sees {r n : Int} {w w' : World} {xs : List Int} {e : Ending} (h : RetE r n w xs e w') : SeesE r n w xs e w' := by
  obtain ⟨v, bs, rfl, ho, hg, hb⟩ := h
  exact ⟨v, rfl, ho.ints, hb⟩
end Go.Proofs.YtkcfcmigcphjlaaGreat



namespace Go.Proofs.YtkcfcmigcphjlaaGreat
open Go.RowKit
set_option linter.unusedVariables false

theorem OwnI.setCell {w : World} {ds : List Nat} {v : Value} {xs : List Int} (h : OwnI w ds v xs) {R : Nat} (hn : ∀ b ∈ ds, R < b) (o : Nat) (u : Value) : OwnI (w.setCell ⟨R, o, none⟩ u) ds v xs :=
  h.keep fun b hm => (grown_set (w := w) R o u).block b (h.lt b hm) (fun e => by cases e; exact Nat.lt_irrefl _ (hn _ hm))
end Go.Proofs.YtkcfcmigcphjlaaGreat







namespace Go.Proofs.YtkcfcmigcphjlaaGreat
open Go.RowKit
set_option linter.unusedVariables false

/-- the numbers of the acts beside a, from number i on -/
def touchM (a : ActM) : List ActM → Nat → List Int
  | [], _ => []
  | b :: l, i => (if (!knowsM a b && !knowsM b a) = true then [(i : Int)] else []) ++ touchM a l (i + 1)
theorem touchM_snoc (a b : ActM) : ∀ (l : List ActM) (i : Nat), touchM a (l ++ [b]) i = touchM a l i ++ (if (!knowsM a b && !knowsM b a) = true then [((i + l.length : Nat) : Int)] else [])
  | [], i => by simp [touchM]
  | c :: l, i => by
    rw [List.cons_append, touchM, touchM_snoc a b l (i + 1), touchM, List.append_assoc, List.length_cons]
    congr 3
    rw [show i + 1 + l.length = i + (l.length + 1) by omega]
theorem touchM_len (a : ActM) : ∀ (l : List ActM) (i : Nat), (touchM a l i).length ≤ l.length
  | [], _ => Nat.le_refl _
  | b :: l, i => by
    have := touchM_len a l (i + 1)
    rw [touchM, List.length_append, List.length_cons]
    split
    · simp; omega
    · simp; omega
/-- Touched -/
def touchedM (l : List ActM) (n : Int) (a : ActM) : List Int := if setOkM l n = true then touchM a l 0 else []
theorem touchedM_len (l : List ActM) (n : Int) (a : ActM) : (touchedM l n a).length ≤ 60 := by
  unfold touchedM
  split
  · rename_i h
    have := (setOk_all h).2.2.1
    have := touchM_len a l 0
    omega
  · simp
theorem src_int {w : World} (k : Int) (e : TypeId) : Src (w.alloc (.cells #[.int .i64 k] e)) 1 (.slice (some ⟨w.heap.size, 0, none⟩) 1 1) 1 [.int .i64 k] :=
  .inr ⟨_, _, rfl, rfl, fun j u hu => by
    rw [add_flat, Nat.zero_add, (Blk.new w _ e).cell j]
    exact hu⟩
theorem act_shape {w : World} {v : Value} {a : ActM} (h : ActIs w v a) : ∃ da dc ua uc, v = .agg #[.int .i64 a.r, .int .i64 a.n, .slice da a.dep.length dc, .int .i64 a.actor, .int .i64 a.kind, .int .i64 a.to, .int .i64 a.bucket, .int .i64 a.mask, .int .i64 a.gr, .int .i64 a.gn, .slice ua a.ups.length uc] := by
  obtain ⟨vd, vs, rfl, hd, hu⟩ := h
  obtain ⟨da, dc, rfl⟩ := ints_len hd
  obtain ⟨ua, uc, rfl⟩ := ups_len hu
  exact ⟨_, _, _, _, rfl⟩
theorem OwnAct.shape {w : World} {v : Value} {a : ActM} {bs : List Nat} (h : OwnAct w v a bs) : ∃ da dc ua uc, v = .agg #[.int .i64 a.r, .int .i64 a.n, .slice da a.dep.length dc, .int .i64 a.actor, .int .i64 a.kind, .int .i64 a.to, .int .i64 a.bucket, .int .i64 a.mask, .int .i64 a.gr, .int .i64 a.gn, .slice ua a.ups.length uc] := act_shape h.act

end Go.Proofs.YtkcfcmigcphjlaaGreat



namespace Go.Proofs.YtkcfcmigcphjlaaGreat
open Go.RowKit
set_option linter.unusedVariables false
set_option linter.unusedSimpArgs false

/-- append of a source, whatever its shape, to a row of one's own, as one step of a region that draws -/
theorem step_app {P : Program} {w : World} {ops : Array Oper} {o : Oper} {a : Act} {K : Act → World → Prop} {Q : Exit → Act → World → Prop} {E : Prop} (hgd : o.guard = none) (s x : Operand) (t : TypeId)
    (ho : o.op = .call { callee := .builtin .append, args := #[s, x], argTypes := #[t, t] })
    (base : Nat) (e : TypeId) (i : TypeInfo) (z : Value) (size bytes : Nat) (ht : P.underlying t = some (.slice e)) (hi : P.info? e = some i) (hz : i.zero = some z)
    (hsize : i.size = size) (hby : i.bytes = bytes) (hzs : z.cells.size = size) (hsz : 0 < size)
    (v sv : Value) (n m : Nat) (xs news : List Value) (hs : a.eval s = v) (hx : a.eval x = sv) (hown : w.ownsRow base e size v n xs) (hsrc : Src w size sv m news) (h1 : ∀ u ∈ news, u.oneCell' = true)
    (h63 : n + m ≤ maxLen) (hbytes : (n + m) * bytes ≤ 140737488355328) (hbase : base ≤ w.heap.size)
    (h : ∀ v' w', w'.ownsRow base e size v' (n + m) (xs ++ news) → w.grownBy w' v.ownBlock → (v'.ownBlock = v.ownBlock ∨ v'.ownBlock = some w.heap.size) → K (a.put o.dst v') w') :
    if Region.wanted o (yielded ops a.tmps) = true then Oper.wp P o a w K Q else E := by
  have hw : Region.wanted o (yielded ops a.tmps) = true := by simp [Region.wanted, hgd]
  rw [if_pos hw]
  rcases hsrc with ⟨ad, c, rfl, rfl, rfl⟩ | ⟨ad, c, rfl, hl, hc⟩
  · rcases ad with _ | ad
    · have hrun := append_none (P := P) base t o.type e i size ht hi v n xs hown c
      have h' := h v w (by simpa using hown) (World.grownBy.refl w _) (.inl rfl)
      unfold Oper.wp execOp
      simp only [ho, resolve, invoke, builtin, Sem.run_bind, Sem.run_pure, Result.andThen_ok, List.map_toArray, List.map_cons, List.map_nil, hs, hx, hrun]
      exact h'
    · obtain ⟨v', w', hr, h2, h3, h4, h5⟩ := run_append_own_at (P := P) w base t o.type e i z size bytes ht hi hz hsize hby hzs hsz v n xs hown ad 0 c [] (by simp) (by intro j u hu; simp at hu) (by simp) h63 hbytes hbase
      unfold Oper.wp execOp
      simp only [ho, resolve, invoke, builtin, Sem.run_bind, Sem.run_pure, Result.andThen_ok, List.map_toArray, List.map_cons, List.map_nil, hs, hx, hr]
      exact h v' w' h2 h3 h5
  · obtain ⟨v', w', hr, h2, h3, h4, h5⟩ := run_append_own_at (P := P) w base t o.type e i z size bytes ht hi hz hsize hby hzs hsz v n xs hown ad m c news hl hc h1 h63 hbytes hbase
    unfold Oper.wp execOp
    simp only [ho, resolve, invoke, builtin, Sem.run_bind, Sem.run_pure, Result.andThen_ok, List.map_toArray, List.map_cons, List.map_nil, hs, hx, hr]
    exact h v' w' h2 h3 h5

theorem run_fieldDep (r n x3 x4 x5 x6 x7 x8 x9 : Int) (a : Option Addr) (m c : Nat) (u : Value) (w : World) : (Instr.field 33 (.agg #[.int .i64 r, .int .i64 n, .slice a m c, .int .i64 x3, .int .i64 x4, .int .i64 x5, .int .i64 x6, .int .i64 x7, .int .i64 x8, .int .i64 x9, u]) 2).run Tryz.prog w = .ok (.slice a m c) w := by kernel_rfl
theorem copyA_any (v : Value) (a : ActM) (w : World) (h : ActIs w v a) (hs : a.Small) : Calls Tryz.prog 87 #[v] w (RetA w a) := by
  obtain ⟨vd, vs, rfl, hd, hu⟩ := h
  exact (copyAct_any ⟨a, vd, vs⟩ w ⟨hd, hu⟩ hs).mono fun e w' h => Copied.ret h

end Go.Proofs.YtkcfcmigcphjlaaGreat
