/- EyeNow: the reference's, the program's. -/
import Derived.Test.YtjjgigoehgabkaaHF
import Derived.Test.YtjjgigoehgabkaaKA
import Derived.Deep.DeepCutAuto
namespace Go.Proofs.Ytjjgigoehgabkaa
open Go.RowKit
set_option linter.unusedVariables false

theorem OwnI.setCell {w : World} {ds : List Nat} {v : Value} {xs : List Int} (h : OwnI w ds v xs) {R : Nat} (hn : ∀ b ∈ ds, R < b) (o : Nat) (u : Value) : OwnI (w.setCell ⟨R, o, none⟩ u) ds v xs :=
  h.keep fun b hm => (grown_set (w := w) R o u).block b (h.lt b hm) (fun e => by cases e; exact Nat.lt_irrefl _ (hn _ hm))
set_option maxHeartbeats 1600000 in
theorem specEyeNow2 (v : Value) (l : List ActM) (n : Int) (w : World) (h : Acts w v l) (hn : I64 n) :
    Calls Try.prog 50 #[v, .int .i64 n] w (RetE (-1) 0 w (clockOfM l n)) := by
  have CS := Lib.hid (fun W (hW : Below w.heap.size w W) => (specClockOf_any v l n W (h.below hW) hn).mono (R' := RetI W (clockOfM l n)) fun e w' h => MadeI.ret h)
  clear h
  have b0 := (Below.refl w.heap.size w).alloc (Nat.le_refl _) (.cells #[.int .i64 0, .int .i64 0, .slice none 0 0] 53)
  have kR := Blk.new w #[.int .i64 0, .int .i64 0, .slice none 0 0] 53
  obtain ⟨RB, hRB⟩ : ∃ R, R = w.heap.size := ⟨_, rfl⟩
  generalize clockOfM l n = M at *
  go_enter Try.func50, Try.ntmps50
  go_upto_region 1 with (fail)
  rw [← hRB] at kR ⊢
  generalize w.alloc (.cells #[.int .i64 0, .int .i64 0, .slice none 0 0] 53) = W0 at kR b0 ⊢
  have HRB := Lib.hid hRB
  clear hRB
  go_wp2_with fail
  refine (CS.out _ b0).mono ?_
  rintro e w1 ⟨u, bs, rfl, o1, g1, b1⟩
  obtain ⟨ua, uc, rfl⟩ := ints_len o1.ints
  obtain ⟨K, hK⟩ : ∃ K, K = M.length := ⟨_, rfl⟩
  rw [← hK] at o1 ⊢
  have O1 := Lib.hid o1
  have G1 := Lib.hid (show ∀ b ∈ bs, RB < b from fun b hb => Nat.lt_of_lt_of_le kR.lt (g1 b hb))
  have B1 := Lib.hid (b0.trans (b1.mono b0.size))
  have kR1 := kR.below b1 kR.lt
  have r0 := kR1.cell 0
  have r1 := kR1.cell 1
  have r2 := kR1.cell 2
  have f0 := kR1.free
  simp only [List.getElem?_cons_zero, List.getElem?_cons_succ] at r0 r1 r2
  clear o1 g1 b1 b0 kR kR1 hK
  go_wp2
  refine bodyPost_ret (v := .agg #[.int .i64 (-1), .int .i64 0, .slice ua K uc]) (by simp [results, Try.results50, go_sem, r0, r1, r2]) rfl ⟨_, bs, rfl, ?_, fun b hb => by have := G1.out b hb; have := HRB.out; omega, ?_⟩
  · exact ((O1.out.setCell G1.out 0 _).setCell G1.out 1 _).setCell G1.out 2 _
  · exact ((B1.out.setCell (by simp; have := HRB.out; omega) _).setCell (by simp; have := HRB.out; omega) _).setCell (by simp; have := HRB.out; omega) _
set_option maxHeartbeats 1600000 in
theorem implEyeNow2 (v : Value) (l : List ActM) (n : Int) (w : World) (h : Acts w v l) (hn : I64 n) :
    Calls Try.prog 51 #[v, .int .i64 n] w (RetE (-1) 0 w (clockOfM l n)) := by
  have CS := Lib.hid (fun W (hW : Below w.heap.size w W) => (implClockOf_any v l n W (h.below hW) hn).mono (R' := RetI W (clockOfM l n)) fun e w' h => MadeI.ret h)
  clear h
  have b0 := (Below.refl w.heap.size w).alloc (Nat.le_refl _) (.cells #[.int .i64 0, .int .i64 0, .slice none 0 0] 53)
  have kR := Blk.new w #[.int .i64 0, .int .i64 0, .slice none 0 0] 53
  obtain ⟨RB, hRB⟩ : ∃ R, R = w.heap.size := ⟨_, rfl⟩
  generalize clockOfM l n = M at *
  go_enter Try.func51, Try.ntmps51
  go_upto_region 1 with (fail)
  rw [← hRB] at kR ⊢
  generalize w.alloc (.cells #[.int .i64 0, .int .i64 0, .slice none 0 0] 53) = W0 at kR b0 ⊢
  have HRB := Lib.hid hRB
  clear hRB
  go_wp2_with fail
  refine (CS.out _ b0).mono ?_
  rintro e w1 ⟨u, bs, rfl, o1, g1, b1⟩
  obtain ⟨ua, uc, rfl⟩ := ints_len o1.ints
  obtain ⟨K, hK⟩ : ∃ K, K = M.length := ⟨_, rfl⟩
  rw [← hK] at o1 ⊢
  have O1 := Lib.hid o1
  have G1 := Lib.hid (show ∀ b ∈ bs, RB < b from fun b hb => Nat.lt_of_lt_of_le kR.lt (g1 b hb))
  have B1 := Lib.hid (b0.trans (b1.mono b0.size))
  have kR1 := kR.below b1 kR.lt
  have r0 := kR1.cell 0
  have r1 := kR1.cell 1
  have r2 := kR1.cell 2
  have f0 := kR1.free
  simp only [List.getElem?_cons_zero, List.getElem?_cons_succ] at r0 r1 r2
  clear o1 g1 b1 b0 kR kR1 hK
  go_wp2
  refine bodyPost_ret (v := .agg #[.int .i64 (-1), .int .i64 0, .slice ua K uc]) (by simp [results, Try.results51, go_sem, r0, r1, r2]) rfl ⟨_, bs, rfl, ?_, fun b hb => by have := G1.out b hb; have := HRB.out; omega, ?_⟩
  · exact ((O1.out.setCell G1.out 0 _).setCell G1.out 1 _).setCell G1.out 2 _
  · exact ((B1.out.setCell (by simp; have := HRB.out; omega) _).setCell (by simp; have := HRB.out; omega) _).setCell (by simp; have := HRB.out; omega) _
end Go.Proofs.Ytjjgigoehgabkaa
