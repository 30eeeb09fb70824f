/- The program's copyActs. -/
import Derived.Test.YtcjoecjijmkbaaaGreatML
import Derived.Test.YtcjoecjijmkbaaaGreatMG
import Derived.RangeFuncBox
import Derived.RangeFuncNested
import Derived.Shelf.RegionOpen
import Derived.Deep.AppendLies

namespace Go.Proofs.YtcjoecjijmkbaaaGreat
open Go.RowKit Go.Shelf
set_option linter.unusedVariables false
attribute [local go_sem] Oper.semAt_some
theorem own_type {w : World} {g : Nat} {v : Value} {xs : List Int} (h : Own w g v xs) (hp : 0 < xs.length) : OfType w g 3 := by
 rcases h with ⟨a, cap, rfl, rfl⟩ | ⟨_, cap, rfl, ho⟩
 ·simp at hp
 ·exact row_type ho
theorem ownU_type {w : World} {g : Nat} {v : Value} {us : List UpM} (h : OwnU w g v us) (hp : 0 < us.length) : OfType w g 111 := by
 rcases h with ⟨a, cap, rfl, rfl⟩ | ⟨_, cap, rfl, ho⟩
 ·simp at hp
 ·exact row_type ho
def NoRow (w : World) (b : Nat) : Prop := OfType w b 3 ∨ OfType w b 111
theorem OwnI.type {w : World} {ds : List Nat} {v : Value} {xs : List Int} (h : OwnI w ds v xs) : ∀ b ∈ ds, NoRow w b := by
 rcases h with ⟨_, rfl, _⟩ | ⟨d, rfl, hp, h⟩
 ·intro b hb; cases hb
 ·intro b hb; rw [List.mem_singleton.1 hb]; exact .inl (own_type h hp)
theorem OwnP.type {w : World} {ds : List Nat} {v : Value} {us : List UpM} (h : OwnP w ds v us) : ∀ b ∈ ds, NoRow w b := by
 rcases h with ⟨_, rfl, _⟩ | ⟨d, rfl, hp, h⟩
 ·intro b hb; cases hb
 ·intro b hb; rw [List.mem_singleton.1 hb]; exact .inr (ownU_type h hp)
theorem Lists.type {w : World} : ∀ {ts : List ActT} {bs : List Nat}, Lists w ts bs → ∀ b ∈ bs, NoRow w b
 | [], bs, h, b, hb => by rw [h] at hb; cases hb
 | t :: ts, bs, ⟨ds, us, rest, e, h1, h2, h3⟩, b, hb => by
  subst e
  simp only [List.mem_append] at hb
  rcases hb with (hb | hb) | hb
  ·exact h1.type b hb
  ·exact h2.type b hb
  ·exact h3.type b hb
theorem NoRow.ne {w : World} {b g : Nat} {e : TypeId} (h : NoRow w b) (hg : OfType w g e) (h1 : 3 ≠ e) (h2 : 111 ≠ e) : b ≠ g := by
 rcases h with h | h
 ·exact type_ne h hg h1
 ·exact type_ne h hg h2
theorem NoRow.cells {w : World} {b : Nat} (h : NoRow w b) : ∃ o, w.heap[b]? = some o ∧ o.isCells = true := by
 rcases h with ⟨cs, cur, h⟩ | ⟨cs, cur, h⟩
 ·exact ⟨_, h, rfl⟩
 ·exact ⟨_, h, rfl⟩
def Row (w : World) (lo : Nat) (v : Value) (l : List ActM) : Prop := ∃ (ts : List ActT) (cs : List Nat), ts.map ActT.a = l ∧ w.ownsRow lo 33 11 v ts.length (va ts) ∧ Lists w ts cs ∧ cs.Nodup ∧ ∀ b ∈ cs, lo ≤ b
theorem row_own {w : World} {lo : Nat} {v : Value} {n : Nat} {xs : List Value} (h : w.ownsRow lo 33 11 v n xs) : (v = .slice none 0 0 ∧ n = 0) ∨ ∃ g cap, v = .slice (some ⟨g, 0, none⟩) n cap ∧ lo ≤ g ∧ g < w.heap.size ∧ OfType w g 33 ∧ w.ownsRow g 33 11 v n xs := by
 rcases h.2 with h0 | ⟨g, cap, cur, rfl, hl, hg, r⟩
 ·exact .inl h0
 ·exact .inr ⟨g, cap, rfl, hl, (Array.getElem?_eq_some_iff.1 hg).1, ⟨cur, _, hg⟩, h.1, .inr ⟨g, cap, cur, rfl, Nat.le_refl _, hg, r⟩⟩
theorem rowA_keep {w w' : World} {lo : Nat} {v : Value} {n : Nat} {xs : List Value} (h : w.ownsRow lo 33 11 v n xs) (hk : ∀ b, OfType w b 33 → w'.heap[b]? = w.heap[b]?) : w'.ownsRow lo 33 11 v n xs := by
 refine ⟨h.1, ?_⟩
 rcases h.2 with h0 | ⟨g, cap, cur, rfl, hl, hg, r⟩
 ·exact .inl h0
 ·exact .inr ⟨g, cap, cur, rfl, hl, (hk g ⟨cur, _, hg⟩).trans hg, r⟩
theorem Row.keep {w w' : World} {lo : Nat} {v : Value} {l : List ActM} (h : Row w lo v l) (hk : ∀ b, OfType w b 33 ∨ NoRow w b → w'.heap[b]? = w.heap[b]?) : Row w' lo v l := by
 obtain ⟨ts, cs, h1, h2, h3, h4, h5⟩ := h
 exact ⟨ts, cs, h1, rowA_keep h2 fun b hb => hk b (.inl hb), h3.keep fun b hb => hk b (.inr (h3.type b hb)), h4, h5⟩
theorem Row.nil (w : World) (lo : Nat) : Row w lo (.slice none 0 0) [] := ⟨[], [], rfl, World.ownsRow_nil _ _ _ _, rfl, List.nodup_nil, fun b hb => by cases hb⟩
theorem Row.own {w : World} {lo : Nat} {v : Value} {l : List ActM} (h : Row w lo v l) : ∃ bs, OwnL w v l bs ∧ ∀ b ∈ bs, lo ≤ b := by
 obtain ⟨ts, cs, h1, h2, h3, h4, h5⟩ := h
 rcases row_own h2 with ⟨rfl, h0⟩ | ⟨g, cap, rfl, hl, hlt, ht, ho⟩
 ·have : ts = [] := List.eq_nil_of_length_eq_zero h0
  subst this
  exact ⟨[], .inl ⟨h1.symm, rfl, _, _, rfl⟩, fun b hb => by cases hb⟩
 ·refine ⟨g :: cs, .inr ⟨ts, g, _, cap, cs, h1, rfl, rfl, List.nodup_cons.2 ⟨fun hm => (h3.type g hm).ne ht (by decide) (by decide) rfl, h4⟩, rfl, ho, h3⟩, fun b hb => ?_⟩
  rcases List.mem_cons.1 hb with rfl | hb
  ·exact hl
  ·exact h5 b hb
theorem va_snoc (ts : List ActT) (t : ActT) : va (ts ++ [t]) = va ts ++ t.cells := by simp [va]
theorem Row.push {V w1 : World} {lo B F : Nat} {T : TypeId} {v v1 : Value} {ts : List ActT} {cs ds us : List Nat} {t : ActT} {u : Value}
  (hrow : V.ownsRow lo 33 11 v ts.length (va ts)) (hli : Lists V ts cs) (hnd : cs.Nodup) (hlo : ∀ b ∈ cs, lo ≤ b) (hF : ∀ b ∈ cs, b < F) (hlF : lo ≤ F)
  (oI : OwnI V ds t.vd t.a.dep) (oP : OwnP V us t.vs t.a.ups) (nd : (ds ++ us).Nodup) (ge : ∀ b ∈ ds ++ us, F ≤ b) (tmp : Obj)
  (hg : (V.alloc tmp).grownBy w1 v.ownBlock) (hbx : Boxed V B T u) (hT : T ≠ 33) (hT1 : 3 ≠ T) (hT2 : 111 ≠ T)
  (hr2 : (w1.setCell ⟨B, 0, none⟩ v1).ownsRow lo 33 11 v1 (ts.length + 1) (va ts ++ t.cells)) :
  Row (w1.setCell ⟨B, 0, none⟩ v1) lo v1 (ts.map ActT.a ++ [t.a]) := by
 have hkeep : ∀ b, NoRow V b → (w1.setCell ⟨B, 0, none⟩ v1).heap[b]? = V.heap[b]? := fun b hb => by
  have hlt : b < V.heap.size := by obtain ⟨o, ho, _⟩ := hb.cells; exact (Array.getElem?_eq_some_iff.1 ho).1
  have hB : b ≠ B := hb.ne ⟨_, _, hbx⟩ hT1 hT2
  rw [Below.heap_setCell _ _ _ _ (by simpa using hB)]
  have h1 : w1.heap[b]? = (V.alloc tmp).heap[b]? := hg.block b (by simp; omega) (fun e => by
   rcases row_own hrow with ⟨rfl, _⟩ | ⟨g, cap, rfl, _, _, ht, _⟩
   ·simp [Value.ownBlock] at e
   ·have : b = g := by simpa [Value.ownBlock] using e
    exact hb.ne ht (by decide) (by decide) this)
  exact h1.trans (Below.heap_alloc _ _ _ hlt)
 refine ⟨ts ++ [t], cs ++ (ds ++ us), by simp, by rw [va_snoc]; simpa using hr2, (hli.keep fun b hb => hkeep b (hli.type b hb)).snoc (oI.keep fun b hb => hkeep b (oI.type b hb)) (oP.keep fun b hb => hkeep b (oP.type b hb)), nodup_app hnd nd hF ge, fun b hb => ?_⟩
 rcases List.mem_append.1 hb with hb | hb
 ·exact hlo b hb
 ·have := ge b hb; omega
end Go.Proofs.YtcjoecjijmkbaaaGreat
