/- AddAct: the reference's answer as the law's walk wants it; sizes. -/
import Derived.Test.YtjmefifdofgncaaUJ
import Derived.Test.YtjmefifdofgncaaMN
import Derived.Test.YtjmefifdofgncaaKD
namespace Go.Proofs.Ytjmefifdofgncaa
open Go.RowKit
set_option linter.unusedVariables false

def RetSB (w : World) (l : List ActM) (B : Bool) (e : Ending) (w' : World) : Prop := ∃ v, e = .returned (.tuple #[v, .bool B]) ∧ Acts w' v l ∧ Below w.heap.size w w'
theorem acts_nil (w : World) : Acts w (.slice none 0 0) [] := ⟨[], rfl, (fun t ht => by cases ht), .inl ⟨none, 0, rfl, rfl⟩⟩
theorem specAddAct2 (v : Value) (l : List ActM) (n : Int) (u : Value) (p : ActM) (w : World) (h : Acts w v l) (hn : -9223372036854775808 ≤ n ∧ n ≤ 9223372036854775807) (hp : ActIs w u p) (hs : p.Small) : Calls Try.prog 29 #[v, .int .i64 n, u] w (RetSB w (addL l n p) (addB l n p)) := by
  obtain ⟨vd, vs, rfl, ht⟩ := hp
  refine (addAct_any v l n ⟨p, vd, vs⟩ w h hn ht hs).mono ?_
  rintro e w' (⟨ho, rfl, hb⟩ | ⟨L, ho, v', rfl, h1, hb⟩)
  · have ho : addM l n p = none := ho
    have e1 : addL l n p = [] := by simp [addL, ho]
    have e2 : addB l n p = false := by simp [addB, ho]
    rw [e1, e2]
    exact ⟨.slice none 0 0, rfl, acts_nil w', hb⟩
  · have ho : addM l n p = some L := ho
    have e1 : addL l n p = L := by simp [addL, ho]
    have e2 : addB l n p = true := by simp [addB, ho]
    rw [e1, e2]
    exact ⟨v', rfl, ownActs_acts h1, hb⟩
theorem szL_add (l : List ActM) (n : Int) (p : ActM) : szL (addL l n p) ≤ 1980 := by
  unfold addL addM
  split
  · rename_i h; exact szL_setOk h.2.2
  · simp [szL]
end Go.Proofs.Ytjmefifdofgncaa
