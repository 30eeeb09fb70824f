/- A row across a step; setOnly. -/
import Derived.Test.YtjmefifdofgncaaUF
import Derived.Test.YtjmefifdofgncaaMM
namespace Go.Proofs.Ytjmefifdofgncaa
open Go.RowKit
set_option linter.unusedVariables false
set_option linter.unusedSimpArgs false

theorem Row.below {w w' : World} {lo : Nat} {v : Value} {l : List ActM} (h : Row w lo v l) (hb : Below w.heap.size w w') : Row w' lo v l := by
  obtain ⟨ts, cs, h1, h2, h3, h4, h5⟩ := h
  exact ⟨ts, cs, h1, row_past h2 hb, h3.keep fun b hm => hb.block b (h3.lt b hm), h4, h5⟩
theorem Row.less {w : World} {lo lo' : Nat} {v : Value} {l : List ActM} (h : Row w lo v l) (hl : lo' ≤ lo) : Row w lo' v l := by
  obtain ⟨ts, cs, h1, h2, h3, h4, h5⟩ := h
  exact ⟨ts, cs, h1, row_less h2 hl, h3, h4, fun b hb => Nat.le_trans hl (h5 b hb)⟩
theorem setCell_row {w : World} {lo R : Nat} {v : Value} {l : List ActM} (h : Row w lo v l) (hR : R < lo) (o : Nat) (u : Value) : Row (w.setCell ⟨R, o, none⟩ u) lo v l := by
  obtain ⟨ts, cs, h1, h2, h3, h4, h5⟩ := h
  have hk : ∀ b, lo ≤ b → (w.setCell ⟨R, o, none⟩ u).heap[b]? = w.heap[b]? := fun b hb => Below.heap_setCell _ _ _ _ (by simp; omega)
  refine ⟨ts, cs, h1, ?_, h3.keep fun b hm => hk b (h5 b hm), h4, h5⟩
  exact row_grown h2 (grown_set R o u) (fun g e => by cases e; exact hR)
theorem insM_len (l : List ActM) (p : ActM) : (insM l p).length = l.length + 1 := by
  unfold insM
  rw [List.length_append, List.length_cons, List.length_take, List.length_drop]
  have := List.findIdx_le_length (p := fun b => aheadM p b) (xs := l)
  omega
theorem insM_mem (l : List ActM) (p b : ActM) (h : b ∈ insM l p) : b = p ∨ b ∈ l := by
  unfold insM at h
  rcases List.mem_append.1 h with h | h
  · exact .inr (List.mem_of_mem_take h)
  · rcases List.mem_cons.1 h with h | h
    · exact .inl h
    · exact .inr (List.mem_of_mem_drop h)

def RetSB (w : World) (l : List ActM) (B : Bool) (e : Ending) (w' : World) : Prop := ∃ v, e = .returned (.tuple #[v, .bool B]) ∧ Acts w' v l ∧ Below w.heap.size w w'
theorem acts_nil (w : World) : Acts w (.slice none 0 0) [] := ⟨[], rfl, (fun t ht => by cases ht), .inl ⟨none, 0, rfl, rfl⟩⟩
set_option maxHeartbeats 800000 in
theorem setOnly2_any (v : Value) (l : List ActM) (n : Int) (w : World) (h : Acts w v l) (hn : I64 n) :
    Calls Try.prog 93 #[v, .int .i64 n] w fun e w' => ((setOkM l n = true ∧ e = .returned (.tuple #[v, .bool true])) ∨ (setOkM l n = false ∧ e = .returned (.tuple #[.slice none 0 0, .bool false]))) ∧ Below w.heap.size w w' := by
  obtain ⟨a, cap, rfl⟩ := acts_len h
  have CS := Lib.hid (implSetOk_any _ l n w h hn)
  clear h
  generalize l.length = K at *
  obtain ⟨T, hT⟩ : ∃ T, T = setOkM l n := ⟨_, rfl⟩
  rw [← hT] at CS ⊢
  clear hT
  cases T
  · go_enter Try.func93, Try.ntmps93
    go_wp2_with fail
    refine CS.out.mono ?_
    rintro e w1 ⟨rfl, b1⟩
    have B1 := Lib.hid b1
    clear b1
    go_wp2
    go_ret2
    exact ⟨.inr ⟨(by first | rfl | trivial), rfl⟩, B1.out⟩
  · go_enter Try.func93, Try.ntmps93
    go_wp2_with fail
    refine CS.out.mono ?_
    rintro e w1 ⟨rfl, b1⟩
    have B1 := Lib.hid b1
    clear b1
    go_wp2
    go_ret2
    exact ⟨.inl ⟨(by first | rfl | trivial), rfl⟩, B1.out⟩
end Go.Proofs.Ytjmefifdofgncaa
