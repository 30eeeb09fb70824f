/- HF, HG. -/
import Derived.Test.YtcjoecjijmkbaaaGreatHE
import Derived.Test.YtcjoecjijmkbaaaGreatI
import Derived.Test.YtcjoecjijmkbaaaGreatND
import Derived.Test.YtcjoecjijmkbaaaGreatML
import Derived.Test.YtcjoecjijmkbaaaGreatCI

namespace Go.Proofs.YtcjoecjijmkbaaaGreat
open Go.RowKit
set_option linter.unusedVariables false
theorem counts_take (l : List ActM) (m : Nat) (h4 : m ≤ 4) (hr : ∀ a ∈ l, 0 ≤ a.r ∧ a.r < m) : ([(cntM l 0 : Int), cntM l 1, cntM l 2, cntM l 3].take m) = clockM l m := by
 have hl := clockM_length l m
 refine List.ext_getElem (by rw [List.length_take, hl]; simp; omega) fun p h1 h2 => ?_
 rw [List.getElem_take]
 have hp : p < m := by omega
 have hc := clockM_cnt l hr p hp
 have hf := four_cnt l p (by omega)
 simp only [List.getD, List.getElem?_eq_getElem h2, Option.getD_some] at hc
 rw [hc, ← hf]
 simp [List.getD, List.getElem?_eq_getElem (show p < [(cntM l 0 : Int), cntM l 1, cntM l 2, cntM l 3].length by simp; omega)]
theorem blk_own {w : World} {g n : Nat} {xs : List Int} (hl : xs.length = n) (h1 : 1 ≤ n) (h4 : n ≤ 4) (h : IsBlk w g xs) : Own w g (.slice (some ⟨g, 0, none⟩) n n) xs := by
 subst hl
 refine .inr ⟨by omega, _, rfl, ?_⟩
 exact ⟨by simp [vi], .inr ⟨_, _, _, rfl, Nat.le_refl _, h, Nat.le_refl _, by unfold maxLen; omega, by simp [vi], by simp only [vi]; exact List.take_of_length_le (by simp)⟩⟩
set_option maxRecDepth 100000 in
set_option maxHeartbeats 1600000 in
theorem implClockOf_any (v : Value) (l : List ActM) (n : Int) (w : World) (h : Acts w v l) (hn : I64 n) :
  Calls Tryz.prog 45 #[v, .int .i64 n] w (MadeI w (clockOfM l n)) := by
 obtain ⟨ts, rfl, ht⟩ := h
 obtain ⟨a, cap, rfl⟩ := actsT_len ht
 have RS := Lib.hid (readSet_any _ ts n w ht hn)
 clear ht
 unfold SetRead at RS
 obtain ⟨l, hl⟩ : ∃ l, l = ts.map ActT.a := ⟨_, rfl⟩
 obtain ⟨K, hK⟩ : ∃ K, K = ts.length := ⟨_, rfl⟩
 rw [← hl] at RS ⊢
 rw [← hK] at RS ⊢
 clear hl hK
 by_cases hs : setOkM l n = true
 ·rw [show clockOfM l n = clockM l n.toNat from if_pos hs]
  obtain ⟨m, rfl, h1, h4, h60, hr⟩ := setOk_bounds hs
  rw [Int.toNat_natCast, ← counts_take l m h4 hr]
  have HS := Lib.hid hs
  have LS := Lib.hid (fun W => list_any m (cntM l 0) (cntM l 1) (cntM l 2) (cntM l 3) W h4)
  have HLN := Lib.hid (show ([(cntM l 0 : Int), cntM l 1, cntM l 2, cntM l 3].take m).length = m by simp; omega)
  simp only [setVal] at RS
  generalize (cntM l 0 : Int) = c0 at *
  generalize (cntM l 1 : Int) = c1 at *
  generalize (cntM l 2 : Int) = c2 at *
  generalize (cntM l 3 : Int) = c3 at *
  clear hs hr
  go_enter Tryz.func45, Tryz.ntmps45
  go_wp2_with fail
  refine RS.out.mono ?_
  rintro e w1 ⟨b1, (⟨_, mb, _, rfl, _⟩ | ⟨hx, _⟩)⟩
  ·have B1 := Lib.hid b1
   clear b1
   go_wp2_with fail
   refine (LS.out _).mono ?_
   rintro e w2 ⟨rfl, o2, b2⟩
   have o3 := blk_own HLN.out h1 h4 o2
   simp only [World.size_alloc] at o3
   have O2 := Lib.hid o3
   have B2 := Lib.hid ((B1.out.alloc B1.out.size (.cells #[.slice a K cap, .map (some mb), .int .i64 m, .int .i64 c0, .int .i64 c1, .int .i64 c2, .int .i64 c3] 58)).trans (b2.mono (by have := B1.out.size; simp; omega)))
   clear o2 o3 b2
   go_wp2
   go_ret
   exact ⟨_, _, rfl, by have := B1.out.size; omega, O2.out, B2.out⟩
  ·rw [HS.out] at hx; cases hx
 ·rw [show clockOfM l n = [] from if_neg hs]
  have HS := Lib.hid hs
  clear hs
  go_enter Tryz.func45, Tryz.ntmps45
  go_wp2_with fail
  refine RS.out.mono ?_
  rintro e w1 ⟨b1, (⟨hx, mb, _, rfl, _⟩ | ⟨_, rfl⟩)⟩
  ·exact absurd hx HS.out
  ·have B1 := Lib.hid b1
   clear b1
   simp only [noSet]
   go_wp2_with fail
   go_ret
   exact ⟨w.heap.size, _, rfl, Nat.le_refl _, .inl ⟨_, _, rfl, rfl⟩, B1.out.alloc B1.out.size _⟩
end Go.Proofs.YtcjoecjijmkbaaaGreat
namespace Go.Proofs.YtcjoecjijmkbaaaGreat
open Go.RowKit
set_option linter.unusedVariables false
theorem OwnI.below {w w' : World} {ds : List Nat} {v : Value} {xs : List Int} (h : OwnI w ds v xs) (hb : Below w.heap.size w w') : OwnI w' ds v xs := h.keep fun b hm => hb.block b (h.lt b hm)
theorem OwnI.other {w w' : World} {ds cs : List Nat} {v : Value} {xs : List Int} (h : OwnI w ds v xs) (hg : GrOn cs w w') (hd : ∀ b ∈ ds, b ∉ cs) : OwnI w' ds v xs := h.keep fun b hm => hg.same b (h.lt b hm) (hd b hm)
theorem own_OwnI {w : World} {g : Nat} {v : Value} {xs : List Int} (h : Own w g v xs) (B : Nat) (hg : B ≤ g) : ∃ bs, OwnI w bs v xs ∧ ∀ b ∈ bs, B ≤ b := by
 by_cases hp : 0 < xs.length
 ·exact ⟨[g], .inr ⟨g, rfl, hp, h⟩, fun b hb => by rw [List.mem_singleton.1 hb]; exact hg⟩
 ·rcases h with ⟨a, cap, h1, h2⟩ | ⟨h1, _⟩
  ·exact ⟨[], .inl ⟨h2, rfl, a, cap, h1⟩, fun b hb => by cases hb⟩
  ·omega
def RetI (w : World) (xs : List Int) (e : Ending) (w' : World) : Prop := ∃ v bs, e = .returned v ∧ OwnI w' bs v xs ∧ (∀ b ∈ bs, w.heap.size ≤ b) ∧ Below w.heap.size w w'
def RetL (w : World) (l : List ActM) (e : Ending) (w' : World) : Prop := ∃ v bs, e = .returned v ∧ OwnL w' v l bs ∧ (∀ b ∈ bs, w.heap.size ≤ b) ∧ Below w.heap.size w w'
def RetLB (w : World) (l : List ActM) (B : Bool) (e : Ending) (w' : World) : Prop := ∃ v bs, e = .returned (.tuple #[v, .bool B]) ∧ OwnL w' v l bs ∧ (∀ b ∈ bs, w.heap.size ≤ b) ∧ Below w.heap.size w w'
def SeesI (w : World) (xs : List Int) (e : Ending) (w' : World) : Prop := ∃ v, e = .returned v ∧ Ints w' v xs ∧ Below w.heap.size w w'
def SeesL (w : World) (l : List ActM) (e : Ending) (w' : World) : Prop := ∃ v, e = .returned v ∧ Acts w' v l ∧ Below w.heap.size w w'
def SeesLB (w : World) (l : List ActM) (B : Bool) (e : Ending) (w' : World) : Prop := ∃ v, e = .returned (.tuple #[v, .bool B]) ∧ Acts w' v l ∧ Below w.heap.size w w'
theorem MadeI.ret {w w' : World} {xs : List Int} {e : Ending} (h : MadeI w xs e w') : RetI w xs e w' := by
 obtain ⟨g, v, rfl, hg, ho, hb⟩ := h
 obtain ⟨bs, h1, h2⟩ := own_OwnI ho _ hg
 exact ⟨v, bs, rfl, h1, h2, hb⟩
theorem RetI.sees {w w' : World} {xs : List Int} {e : Ending} (h : RetI w xs e w') : SeesI w xs e w' := by
 obtain ⟨v, bs, rfl, ho, hg, hb⟩ := h
 exact ⟨v, rfl, ho.ints, hb⟩
theorem RetL.sees {w w' : World} {l : List ActM} {e : Ending} (h : RetL w l e w') : SeesL w l e w' := by
 obtain ⟨v, bs, rfl, ho, hg, hb⟩ := h
 exact ⟨v, rfl, ho.acts, hb⟩
theorem RetLB.sees {w w' : World} {l : List ActM} {B : Bool} {e : Ending} (h : RetLB w l B e w') : SeesLB w l B e w' := by
 obtain ⟨v, bs, rfl, ho, hg, hb⟩ := h
 exact ⟨v, rfl, ho.acts, hb⟩
end Go.Proofs.YtcjoecjijmkbaaaGreat
