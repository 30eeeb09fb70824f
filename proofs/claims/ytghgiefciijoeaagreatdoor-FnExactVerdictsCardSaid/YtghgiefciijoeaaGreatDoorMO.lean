/- The reference's SetOk: the model. Drawn regions by hand: one operation after the other, with what is held of the world. -/
import Derived.Test.YtghgiefciijoeaaGreatDoorMC
import Derived.Test.YtghgiefciijoeaaGreatDoorMA
import Derived.Test.YtghgiefciijoeaaGreatDoorAM
import Derived.Deep.RegionHeld3

namespace Go.Proofs.YtghgiefciijoeaaGreatDoor
open Go.RowKit
set_option linter.unusedVariables false
def prevOk (p : Option ActM) (a : ActM) : Bool := match p with | none => true | some b => aheadM b a
def scanM (n : Int) (p : Option ActM) (next : List Int) : List ActM → Option (List Int)
 | [] => some next
 | a :: l =>
  if actOkM a n = true ∧ prevOk p a = true ∧ a.n = next.getD a.r.toNat 0 + 1 then scanM n (some a) (next.set a.r.toNat (next.getD a.r.toNat 0 + 1)) l else none
def pairB (a b : ActM) : Bool := !knowsM a b || leqB b.dep a.dep
def secondM (next : List Int) (l : List ActM) : List ActM → Bool
 | [] => true
 | a :: rest => leqB a.dep next && l.all (pairB a) && secondM next l rest
def setOkM (l : List ActM) (n : Int) : Bool :=
 decide (1 ≤ n) && decide (n ≤ 4) && decide (l.length ≤ 60) && (match scanM n none (List.replicate n.toNat 0) l with | none => false | some next => secondM next l l)
def prevM (l : List ActM) (k : Nat) : Option ActM := if k = 0 then none else some (l.getD (k - 1) act0)
def afterM (l : List ActM) (o : Option (List Int)) : Bool := match o with | none => false | some next => secondM next l l
theorem setOk_range (l : List ActM) (n : Int) (h : n < 1 ∨ 4 < n ∨ 60 < l.length) : setOkM l n = false := by
 unfold setOkM
 rcases h with h | h | h
 ·have : ¬ 1 ≤ n := by omega
  simp [this]
 ·have : ¬ n ≤ 4 := by omega
  simp [this]
 ·have : ¬ l.length ≤ 60 := by omega
  simp [this]
theorem setOk_in (l : List ActM) (n : Nat) (h1 : 1 ≤ n) (h4 : n ≤ 4) (hl : l.length ≤ 60) : setOkM l n = afterM l (scanM n none (List.replicate n 0) l) := by
 unfold setOkM afterM
 have e1 : (1 : Int) ≤ n := by omega
 have e2 : (n : Int) ≤ 4 := by omega
 simp [e1, e2, hl]
theorem ok_parts {a : ActM} {n : Nat} (h : actOkM a n = true) : 0 ≤ a.r ∧ a.r < n ∧ a.dep.length = n := by
 simp only [actOkM, Bool.and_eq_true, decide_eq_true_eq] at h
 omega
theorem scan_yes {n : Int} {p : Option ActM} {next : List Int} {a : ActM} {l : List ActM} (h1 : actOkM a n = true) (h2 : prevOk p a = true) (h3 : a.n = next.getD a.r.toNat 0 + 1) :
  scanM n p next (a :: l) = scanM n (some a) (next.set a.r.toNat (next.getD a.r.toNat 0 + 1)) l := by rw [scanM, if_pos ⟨h1, h2, h3⟩]
theorem scan_no {n : Int} {p : Option ActM} {next : List Int} {a : ActM} {l : List ActM} (h : ¬ (actOkM a n = true ∧ prevOk p a = true ∧ a.n = next.getD a.r.toNat 0 + 1)) :
  scanM n p next (a :: l) = none := by rw [scanM, if_neg h]
theorem leq_len (v v' : Value) (xs ys : List Int) (w : World) (h : Ints w v xs) (h' : Ints w v' ys) (hl : xs.length = ys.length) (h1 : 1 ≤ xs.length) :
  Calls Tryz.prog 47 #[v, v'] w fun e w' => e = .returned (.bool (leqB xs ys)) ∧ ∃ q, w' = w.drewN q := by
 rcases h with ⟨a, cap, rfl, rfl⟩ | ⟨b, off, cap, rfl, q1, q2, q3, q4⟩
 ·simp at h1
 ·rcases h' with ⟨a', cap', rfl, rfl⟩ | ⟨b', off', cap', rfl, r1, r2, r3, r4⟩
  ·simp at hl; simp [hl] at h1
  ·rw [← hl]
   exact leqS_some b off cap b' off' cap' _ 0 xs ys w rfl hl.symm (by unfold maxLen at q3; omega) q4 (by rw [hl]; exact r4)
end Go.Proofs.YtghgiefciijoeaaGreatDoor
namespace Go.Proofs.YtghgiefciijoeaaGreatDoor
open Go.RowKit
set_option linter.unusedVariables false
section
variable {P : Program} {ops : Array Oper} {Q : Exit → Act → World → Prop} {md : Region.Mode} {S : World → Prop}
theorem held_take {i : Nat} {d : Option Nat} {oi : Oper} {v : Value} {fuel : Nat} {listed : Array Bool} {a : Act} {w : World} (hi : ops[i]? = some oi) (hd : oi.dst = d)
  (hs : Region.noSelect ops = true) (hf : Region.free md ops listed i = true) (hr : (Region.ready md ops listed).contains i = true)
  (hQ : ∀ c a w, Q (.panic c) (a.put d v) w → Q (.panic c) a w) (hw : Region.wanted oi (yielded ops a.tmps) = true) (hy : ∀ w, S w → (execOp a.eval oi).run P w = .ok (.value v) w) (hS : S w)
  (h : wpAnyH P md ops Q S fuel (listed.setIfInBounds i true) (a.put d v) w) : wpAnyH P md ops Q S (fuel + 1) listed a w := by
 subst hd
 exact wpAnyH_take hi hs hf hr hQ (.inl ⟨hw, hy⟩) hS h
theorem held_skip {i : Nat} {d : Option Nat} {oi : Oper} {fuel : Nat} {listed : Array Bool} {a : Act} {w : World} (hi : ops[i]? = some oi) (hd : oi.dst = d)
  (hs : Region.noSelect ops = true) (hf : Region.free md ops listed i = true) (hr : (Region.ready md ops listed).contains i = true)
  (hQ : ∀ c a w, Q (.panic c) (a.put d undef) w → Q (.panic c) a w) (hw : Region.wanted oi (yielded ops a.tmps) = false) (hS : S w)
  (h : wpAnyH P md ops Q S fuel (listed.setIfInBounds i true) (a.put d undef) w) : wpAnyH P md ops Q S (fuel + 1) listed a w := by
 subst hd
 exact wpAnyH_take hi hs hf hr hQ (.inr ⟨hw, rfl⟩) hS h
end
end Go.Proofs.YtghgiefciijoeaaGreatDoor
