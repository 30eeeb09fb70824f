/- The program's copyAct. -/
import Derived.Test.YtjjgigoehgabkaaDoorHB

namespace Go.Proofs.YtjjgigoehgabkaaDoor
open Go.RowKit
set_option linter.unusedVariables false

theorem own_I {w : World} {g : Nat} {v : Value} {xs : List Int} (h : Own w g v xs) (B : Nat) (hg : B ≤ g) : ∃ bs, OwnI w bs v xs ∧ bs.Nodup ∧ ∀ b ∈ bs, B ≤ b := by
  by_cases hp : 0 < xs.length
  · exact ⟨[g], .inr ⟨g, rfl, hp, h⟩, by simp, fun b hb => by rw [List.mem_singleton.1 hb]; exact hg⟩
  · rcases h with ⟨a, cap, h1, h2⟩ | ⟨h1, _⟩
    · exact ⟨[], .inl ⟨h2, rfl, a, cap, h1⟩, List.nodup_nil, fun b hb => by cases hb⟩
    · omega
theorem own_P {w : World} {g : Nat} {v : Value} {us : List UpM} (h : OwnU w g v us) (B : Nat) (hg : B ≤ g) : ∃ bs, OwnP w bs v us ∧ bs.Nodup ∧ ∀ b ∈ bs, B ≤ b := by
  by_cases hp : 0 < us.length
  · exact ⟨[g], .inr ⟨g, rfl, hp, h⟩, by simp, fun b hb => by rw [List.mem_singleton.1 hb]; exact hg⟩
  · rcases h with ⟨a, cap, h1, h2⟩ | ⟨h1, _⟩
    · exact ⟨[], .inl ⟨h2, rfl, a, cap, h1⟩, List.nodup_nil, fun b hb => by cases hb⟩
    · omega
theorem nodup_app {ds us : List Nat} {B : Nat} (h1 : ds.Nodup) (h2 : us.Nodup) (h3 : ∀ b ∈ ds, b < B) (h4 : ∀ b ∈ us, B ≤ b) : (ds ++ us).Nodup := by
  rw [List.nodup_append]
  refine ⟨h1, h2, fun a ha b hb => ?_⟩
  have := h3 a ha; have := h4 b hb; omega

/-- a copy of an act: its lists lie in blocks of their own, that are new -/
def Copied (w : World) (a : ActM) (e : Ending) (w' : World) : Prop := ∃ (t : ActT) (ds us : List Nat), t.a = a ∧ e = .returned t.val ∧ OwnI w' ds t.vd t.a.dep ∧ OwnP w' us t.vs t.a.ups ∧ (ds ++ us).Nodup ∧ (∀ b ∈ ds ++ us, w.heap.size ≤ b) ∧ Below w.heap.size w w'

end Go.Proofs.YtjjgigoehgabkaaDoor
