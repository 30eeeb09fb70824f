/- The program's iterators: reaches, those, upTo. The program's upTo: the acts of a set that a clock knows. The program's iterator over the acts that a clock knows. A function whose loop ranges over iterators round by round: the marks among its deferred calls. -/
import Derived.Test.YtjjgigoehgabkaaDoorMB
import Derived.Test.YtjjgigoehgabkaaDoorMF
import Derived.BigQuiet
import Derived.Deep.QuietTactic
import Derived.Deep.DeepCutAuto
import Derived.StillTailTactics
import Derived.RangeFuncKeeps
import Derived.RangeFuncLeaves
import Derived.RangeFuncBound
import Derived.Shelf.Abstract
import Derived.WalkKit
import Derived.OwnWalkIn
import Derived.TacticsInMore
import Derived.LoopNIn
import Derived.LoopIn
import Derived.BigFrameIn
import Derived.RangeFuncNested

















namespace Go.Proofs.YtjjgigoehgabkaaDoor
open Go.RowKit
set_option linter.unusedVariables false

end Go.Proofs.YtjjgigoehgabkaaDoor
namespace Go.Proofs.YtjjgigoehgabkaaDoor
open Go.RowKit
set_option linter.unusedVariables false

end Go.Proofs.YtjjgigoehgabkaaDoor
namespace Go.Proofs.YtjjgigoehgabkaaDoor
open Go.RowKit Go.Shelf
set_option linter.unusedVariables false
attribute [local go_sem] Oper.semAt_some

/-- whether the clock knows the act -/
def knowsT (ys : List Int) (t : ActT) : Bool := decide (t.a.n ≤ ys.getD t.a.r.toNat 0)

theorem filt_succ (P : ActT → Bool) (ts : List ActT) (k : Nat) (h : k < ts.length) : (ts.take (k + 1)).filter P = (ts.take k).filter P ++ (if P (ts.getD k t0) then [ts.getD k t0] else []) := by
  rw [List.take_add_one, List.filter_append]
  simp only [List.getD_eq_getElem?_getD, List.getElem?_eq_getElem h, Option.toList_some, Option.getD_some]
  by_cases hp : P ts[k] = true <;> simp [hp]
theorem filt_len (P : ActT → Bool) (ts : List ActT) (k : Nat) (h : k < ts.length) : ((ts.take k).filter P).length < ts.length := by
  have h1 := List.length_filter_le P (ts.take k)
  have h2 := List.length_take_le k ts
  omega
theorem filt_pre (P : ActT → Bool) (ts : List ActT) (k : Nat) : (ts.take k).filter P <+: ts.filter P := by
  have := List.take_append_drop k ts
  exact ⟨(ts.drop k).filter P, by rw [← List.filter_append, this]⟩

theorem map_sub {K : ActT → Prop} : ∀ (zs : List ActT), (∀ z ∈ zs, K z) → ∃ ys : List {t : ActT // K t}, ys.map Subtype.val = zs
  | [], _ => ⟨[], rfl⟩
  | z :: zs, h => by
    obtain ⟨ys, hy⟩ := map_sub zs (fun x hx => h x (List.mem_cons_of_mem _ hx))
    exact ⟨⟨z, h z (by simp)⟩ :: ys, by simp [hy]⟩
theorem map_sub_inj {K : ActT → Prop} : ∀ (xs ys : List {t : ActT // K t}), xs.map Subtype.val = ys.map Subtype.val → xs = ys
  | [], [], _ => rfl
  | [], y :: ys, h => by simp at h
  | x :: xs, [], h => by simp at h
  | x :: xs, y :: ys, h => by
    simp only [List.map_cons, List.cons.injEq] at h
    rw [Subtype.ext h.1, map_sub_inj xs ys h.2]
end Go.Proofs.YtjjgigoehgabkaaDoor
namespace Go.Proofs.YtjjgigoehgabkaaDoor
open Go.RowKit Go.Shelf
set_option linter.unusedVariables false

/-- the mark that one range over a function leaves -/
def markOf (D : Nat) : Deferred := { target := .collected D, args := #[] }
/-- W' is W with the blocks Ds shut -/
structure Shut (Ds : List Nat) (W W' : World) : Prop where
  os : W'.os = W.os
  tape : W'.tape = W.tape
  output : W'.output = W.output
  size : W'.heap.size = W.heap.size
  same : ∀ k, k ∉ Ds → W'.heap[k]? = W.heap[k]?
theorem Shut.below {Ds : List Nat} {W W' : World} {B : Nat} (h : Shut Ds W W') (hB : ∀ D ∈ Ds, B ≤ D) : Below B W W' :=
  ⟨h.os, h.tape, h.output, Nat.le_of_eq h.size.symm, fun k hk => h.same k (fun hm => by have := hB k hm; omega)⟩
theorem Shut.cell {Ds : List Nat} {W W' : World} {a : Addr} {v : Value} (h : Shut Ds W W') (hD : ∀ D ∈ Ds, W.heap[D]? = some (.deferred (some []))) (hc : W.cell? a = some v) : W'.cell? a = some v := by
  obtain ⟨o, ho, hcl⟩ := cells_of_cell hc
  refine (World.cell?_of_block (h.same _ (fun hm => ?_))).trans hc
  have := hD _ hm
  rw [ho] at this
  cases this
  cases hcl
theorem leaves_marks {F : Fence} {n : Nat} {P : Program} {fn : Func} {tmps : Array Value} {R : Ending → World → Prop} : ∀ (Ds : List Nat) (W : World), Ds.Nodup → (∀ D ∈ Ds, W.heap[D]? = some (.deferred (some []))) →
    (∀ W', Shut Ds W W' → ∃ v, (results fn tmps).run P W' = .ok v W' ∧ R (.returned v) W') → LeavesInM F n P fn tmps R (Ds.map markOf) .returning W
  | [], W, _, _, h => h W ⟨rfl, rfl, rfl, rfl, fun _ _ => rfl⟩
  | D :: Ds, W, hn, hD, h => by
    have hk := hD D (by simp)
    obtain ⟨hnd, hn2⟩ := List.nodup_cons.1 hn
    refine ⟨by simp, .inl ⟨D, _, rfl, run_takeDeferred hk, ?_⟩⟩
    refine leaves_marks Ds _ hn2 (fun E hE => ?_) (fun W' hW' => h W' ?_)
    · have hne : E ≠ D := fun e => hnd (e ▸ hE)
      exact (World.putObj_heap_other hne).trans (hD E (List.mem_cons_of_mem _ hE))
    · have hg := grownBy_putObj' W D (.deferred none)
      refine ⟨hW'.os, hW'.tape, hW'.output, by rw [hW'.size]; simp, fun k hk2 => ?_⟩
      simp only [List.mem_cons, not_or] at hk2
      rw [hW'.same k hk2.2]
      exact World.putObj_heap_other hk2.1
/-- the marks of the rounds so far: blocks of their own, beyond B, each still open -/
structure Marks (B : Nat) (Ds : List Nat) (W : World) : Prop where
  nodup : Ds.Nodup
  beyond : ∀ D ∈ Ds, B ≤ D
  blk : ∀ D ∈ Ds, W.heap[D]? = some (.deferred (some []))
theorem Marks.none (B : Nat) (W : World) : Marks B [] W := ⟨List.nodup_nil, fun _ h => (nomatch h), fun _ h => (nomatch h)⟩
theorem Marks.lt {B : Nat} {Ds : List Nat} {W : World} (h : Marks B Ds W) : ∀ D ∈ Ds, D < W.heap.size := fun D hD => (Array.getElem?_eq_some_iff.1 (h.blk D hD)).1
theorem Marks.below {B : Nat} {Ds : List Nat} {W W' : World} (h : Marks B Ds W) (hb : Below W.heap.size W W') : Marks B Ds W' :=
  ⟨h.nodup, h.beyond, fun D hD => (hb.block D (h.lt D hD)).trans (h.blk D hD)⟩
theorem Marks.push {B : Nat} {Ds : List Nat} {W W' : World} (h : Marks B Ds W) (hb : Below W.heap.size W W') {D : Nat} (hD : W.heap.size ≤ D) (hB : B ≤ D) (hk : W'.heap[D]? = some (.deferred (some []))) : Marks B (D :: Ds) W' :=
  ⟨List.nodup_cons.2 ⟨fun hm => by have := h.lt D hm; omega, h.nodup⟩, fun E hE => (List.mem_cons.1 hE).elim (fun e => e ▸ hB) (h.beyond E), fun E hE => (List.mem_cons.1 hE).elim (fun e => e ▸ hk) ((h.below hb).blk E)⟩
theorem below_keeps {K : Nat} {W W' : World} (h : Below W.heap.size W W') : KeepsFrom K W W' :=
  ⟨h.size, fun k o _ hk _ => (h.block k (Array.getElem?_eq_some_iff.1 hk).1).trans hk⟩
theorem Blk.ownFrom {β : Type} {K B : Nat} {l : List Value} (hB : B < K) : OwnFrom K (fun (_ : β) W => Blk W B l) := fun _ W W' row hs hg hr =>
  hs.same hg.size (hg.block B hs.lt (fun e => by have := (hr _ e.symm).1; omega))
theorem Blk.cellsOwn {β : Type} {K B : Nat} {v : Value} {l : List Value} : OwnFrom K (fun (_ : β) W => Blk W B (v :: l)) := fun _ W W' row hs hg hr =>
  hs.same hg.size (hg.block B hs.lt (fun e => by
    obtain ⟨_, o, ho, hc⟩ := hr _ e.symm
    obtain ⟨o', ho', hc'⟩ := cells_of_cell (hs.cell 0)
    simp only at ho'
    rw [ho] at ho'
    cases ho'
    rw [hc] at hc'
    cases hc'))
theorem Marks.ownFrom {β : Type} {K B : Nat} {Ds : List Nat} (h : ∀ D ∈ Ds, D < K) : OwnFrom K (fun (_ : β) W => Marks B Ds W) := fun _ W W' row hs hg hr =>
  ⟨hs.nodup, hs.beyond, fun D hD => (hg.block D (hs.lt D hD) (fun e => by have := (hr _ e.symm).1; have := h D hD; omega)).trans (hs.blk D hD)⟩
end Go.Proofs.YtjjgigoehgabkaaDoor
