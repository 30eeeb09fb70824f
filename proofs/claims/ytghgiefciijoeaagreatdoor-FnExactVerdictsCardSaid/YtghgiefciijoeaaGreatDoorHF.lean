/- HF, HG. -/
import Derived.Test.YtghgiefciijoeaaGreatDoorHE
import Derived.Test.YtghgiefciijoeaaGreatDoorI
import Derived.Test.YtghgiefciijoeaaGreatDoorND
import Derived.Test.YtghgiefciijoeaaGreatDoorHD
import Derived.Test.YtghgiefciijoeaaGreatDoorNE
import Derived.Test.YtghgiefciijoeaaGreatDoorCI

namespace Go.Proofs.YtghgiefciijoeaaGreatDoor
open Go.RowKit
set_option linter.unusedVariables false
theorem counts_take (l : List ActM) (m : Nat) (h4 : m ≤ 4) (hr : ∀ a ∈ l, 0 ≤ a.r ∧ a.r < m) : ([(cntM l 0 : Int), cntM l 1, cntM l 2, cntM l 3].take m) = clockM l m := by
 have hl := clockM_length l m
 refine List.ext_getElem (by rw [List.length_take, hl]; simp; omega) fun p h1 h2 => ?_
 rw [List.getElem_take]
 have hp : p < m := by omega
 have hc := clockM_cnt l hr p hp
 have hf := four_cnt l p (by omega)
 simp only [List.getD, List.getElem?_eq_getElem h2, Option.getD_some] at hc
 rw [hc, ← hf]
 simp [List.getD, List.getElem?_eq_getElem (show p < [(cntM l 0 : Int), cntM l 1, cntM l 2, cntM l 3].length by simp; omega)]
theorem blk_own {w : World} {g n : Nat} {xs : List Int} (hl : xs.length = n) (h1 : 1 ≤ n) (h4 : n ≤ 4) (h : IsBlk w g xs) : Own w g (.slice (some ⟨g, 0, none⟩) n n) xs := by
 subst hl
 refine .inr ⟨by omega, _, rfl, ?_⟩
 exact ⟨by simp [vi], .inr ⟨_, _, _, rfl, Nat.le_refl _, h, Nat.le_refl _, by unfold maxLen; omega, by simp [vi], by simp only [vi]; exact List.take_of_length_le (by simp)⟩⟩
end Go.Proofs.YtghgiefciijoeaaGreatDoor
namespace Go.Proofs.YtghgiefciijoeaaGreatDoor
open Go.RowKit
set_option linter.unusedVariables false
theorem OwnI.below {w w' : World} {ds : List Nat} {v : Value} {xs : List Int} (h : OwnI w ds v xs) (hb : Below w.heap.size w w') : OwnI w' ds v xs := h.keep fun b hm => hb.block b (h.lt b hm)
theorem OwnI.other {w w' : World} {ds cs : List Nat} {v : Value} {xs : List Int} (h : OwnI w ds v xs) (hg : GrOn cs w w') (hd : ∀ b ∈ ds, b ∉ cs) : OwnI w' ds v xs := h.keep fun b hm => hg.same b (h.lt b hm) (hd b hm)
theorem own_OwnI {w : World} {g : Nat} {v : Value} {xs : List Int} (h : Own w g v xs) (B : Nat) (hg : B ≤ g) : ∃ bs, OwnI w bs v xs ∧ ∀ b ∈ bs, B ≤ b := by
 by_cases hp : 0 < xs.length
 ·exact ⟨[g], .inr ⟨g, rfl, hp, h⟩, fun b hb => by rw [List.mem_singleton.1 hb]; exact hg⟩
 ·rcases h with ⟨a, cap, h1, h2⟩ | ⟨h1, _⟩
  ·exact ⟨[], .inl ⟨h2, rfl, a, cap, h1⟩, fun b hb => by cases hb⟩
  ·omega
def RetI (w : World) (xs : List Int) (e : Ending) (w' : World) : Prop := ∃ v bs, e = .returned v ∧ OwnI w' bs v xs ∧ (∀ b ∈ bs, w.heap.size ≤ b) ∧ Below w.heap.size w w'
def RetL (w : World) (l : List ActM) (e : Ending) (w' : World) : Prop := ∃ v bs, e = .returned v ∧ OwnL w' v l bs ∧ (∀ b ∈ bs, w.heap.size ≤ b) ∧ Below w.heap.size w w'
def RetLB (w : World) (l : List ActM) (B : Bool) (e : Ending) (w' : World) : Prop := ∃ v bs, e = .returned (.tuple #[v, .bool B]) ∧ OwnL w' v l bs ∧ (∀ b ∈ bs, w.heap.size ≤ b) ∧ Below w.heap.size w w'
def SeesI (w : World) (xs : List Int) (e : Ending) (w' : World) : Prop := ∃ v, e = .returned v ∧ Ints w' v xs ∧ Below w.heap.size w w'
def SeesL (w : World) (l : List ActM) (e : Ending) (w' : World) : Prop := ∃ v, e = .returned v ∧ Acts w' v l ∧ Below w.heap.size w w'
def SeesLB (w : World) (l : List ActM) (B : Bool) (e : Ending) (w' : World) : Prop := ∃ v, e = .returned (.tuple #[v, .bool B]) ∧ Acts w' v l ∧ Below w.heap.size w w'
theorem MadeI.ret {w w' : World} {xs : List Int} {e : Ending} (h : MadeI w xs e w') : RetI w xs e w' := by
 obtain ⟨g, v, rfl, hg, ho, hb⟩ := h
 obtain ⟨bs, h1, h2⟩ := own_OwnI ho _ hg
 exact ⟨v, bs, rfl, h1, h2, hb⟩
theorem RetI.sees {w w' : World} {xs : List Int} {e : Ending} (h : RetI w xs e w') : SeesI w xs e w' := by
 obtain ⟨v, bs, rfl, ho, hg, hb⟩ := h
 exact ⟨v, rfl, ho.ints, hb⟩
theorem RetL.sees {w w' : World} {l : List ActM} {e : Ending} (h : RetL w l e w') : SeesL w l e w' := by
 obtain ⟨v, bs, rfl, ho, hg, hb⟩ := h
 exact ⟨v, rfl, ho.acts, hb⟩
theorem RetLB.sees {w w' : World} {l : List ActM} {B : Bool} {e : Ending} (h : RetLB w l B e w') : SeesLB w l B e w' := by
 obtain ⟨v, bs, rfl, ho, hg, hb⟩ := h
 exact ⟨v, rfl, ho.acts, hb⟩
theorem toL_any (v : Value) (l : List ActM) (w : World) (h : Acts w v l) (hs : SmallL l) : Calls Tryz.prog 25 #[v] w (RetL w l) := (toActS_any v l w h hs).mono fun e w' h => toMade_own h
theorem toI_any (v : Value) (xs : List Int) (w : World) (h : Ints w v xs) (hl : xs.length ≤ 1048576) : Calls Tryz.prog 66 #[v] w (RetI w xs) :=
 (toIntS_any v xs w h hl).mono fun e w' ⟨h1, h2, h3⟩ => by
  subst h1
  by_cases hp : 0 < xs.length
  ·exact ⟨_, [w.heap.size], rfl, .inr ⟨_, rfl, hp, .inr ⟨hp, _, rfl, (own_at h2).1⟩⟩, fun b hb => by rw [List.mem_singleton.1 hb]; exact Nat.le_refl _, h3⟩
  ·have : xs = [] := List.eq_nil_of_length_eq_zero (by omega)
   subst this
   exact ⟨_, [], rfl, .inl ⟨rfl, rfl, _, _, rfl⟩, (fun b hb => (nomatch hb)), h3⟩
theorem eqI_any (v v' : Value) (xs : List Int) (w : World) (h : Ints w v xs) (h' : Ints w v' xs) : Calls Tryz.prog 68 #[v, v'] w fun e w' => e = .returned (.bool true) ∧ Below w.heap.size w w' :=
 (eqIntS_any v v' xs xs w h h').mono fun e w' ⟨h1, q, h2⟩ => by subst h1 h2; exact ⟨by simp [eqB], below_drewN (Below.refl _ _) q⟩
theorem markLZ {w : World} {v : Value} {l : List ActM} {bs : List Nat} {Z : Nat} (h : OwnL w v l bs) (hz : szL l = Z) (k : Int) (hk : 0 ≤ k) (hs : k + Z ≤ 4000000000) :
  Calls Tryz.prog 28 #[v, .int .i64 k] w fun e w' => e = .returned (.int .i64 (k + Z)) ∧ OwnL w' v (mkL k l) bs ∧ GrOn bs w w' := by subst hz; exact markL_any h k hk hs
theorem heldLZ {w : World} {v : Value} {l : List ActM} {bs : List Nat} {Z : Nat} {k : Int} (h : OwnL w v (mkL k l) bs) (hz : szL l = Z) (hk : 0 ≤ k) (hs : k + Z ≤ 4000000000) :
  Calls Tryz.prog 37 #[v, .int .i64 k] w fun e w' => e = .returned (.int .i64 (k + Z)) ∧ w' = w := by subst hz; exact heldL_any h.acts hk hs
theorem markIZ {w : World} {v : Value} {xs : List Int} {bs : List Nat} {Z : Nat} (h : OwnI w bs v xs) (hz : xs.length = Z) (k : Int) (hk : 0 ≤ k) (hs : k + Z ≤ 4000000000) :
  Calls Tryz.prog 61 #[v, .int .i64 k] w fun e w' => e = .returned (.int .i64 (k + Z)) ∧ OwnI w' bs v (iota k Z) ∧ GrOn bs w w' := by subst hz; exact markI h k hk hs
theorem heldIZ {w : World} {v : Value} {bs : List Nat} {Z : Nat} {k : Int} (h : OwnI w bs v (iota k Z)) (hk : 0 ≤ k) (hs : k + Z ≤ 4000000000) :
  Calls Tryz.prog 70 #[v, .int .i64 k] w fun e w' => e = .returned (.int .i64 (k + Z)) ∧ w' = w := held_any v k Z w h.ints hk hs
theorem clockOfM_len (l : List ActM) (n : Int) : (clockOfM l n).length ≤ 4 := by
 unfold clockOfM
 split
 ·rename_i h
  obtain ⟨m, rfl, h1, h4, _, _⟩ := setOk_bounds h
  rw [clockM_length]; omega
 ·simp
end Go.Proofs.YtghgiefciijoeaaGreatDoor
