/- Union: the reference's answer as the law's walk wants it. -/
import Derived.Test.YtjmefifdofgncaaMF
import Derived.Test.YtjmefifdofgncaaUN
namespace Go.Proofs.Ytjmefifdofgncaa
open Go.RowKit
set_option linter.unusedVariables false

theorem specUnion2 (v v' : Value) (l m : List ActM) (n : Int) (w : World) (h : Acts w v l) (h' : Acts w v' m) (hn : -9223372036854775808 ≤ n ∧ n ≤ 9223372036854775807) : Calls Try.prog 35 #[v, v', .int .i64 n] w (RetSB w (unL l m n) (unB l m n)) := by
  refine (union_any v v' l m n w h h' hn).mono ?_
  rintro e w' (⟨ho, rfl, hb⟩ | ⟨L, ho, v', rfl, h1, hb⟩)
  · have e1 : unL l m n = [] := by simp [unL, ho]
    have e2 : unB l m n = false := by simp [unB, ho]
    rw [e1, e2]
    exact ⟨.slice none 0 0, rfl, acts_nil w', hb⟩
  · have e1 : unL l m n = L := by simp [unL, ho]
    have e2 : unB l m n = true := by simp [unB, ho]
    rw [e1, e2]
    exact ⟨v', rfl, ownActs_acts h1, hb⟩
end Go.Proofs.Ytjmefifdofgncaa
