/- PlaceNew: the reference's, the program's, the law. -/
import Derived.Test.YtjjgigoehgabkaaML
import Derived.Deep.DeepCutAuto
namespace Go.Proofs.Ytjjgigoehgabkaa
open Go.RowKit
set_option linter.unusedVariables false

/-- a place that knows nothing -/
def plV (x y : Int) : Value := .agg #[.int .i64 x, .int .i64 y, .slice none 0 0, .slice none 0 0, .slice none 0 0]




theorem eqActS_none (w : World) : Calls Try.prog 24 #[.slice none 0 0, .slice none 0 0] w fun e w' => e = .returned (.bool true) ∧ Below w.heap.size w w' := by
  go_enter Try.func24, Try.ntmps24
  go_wp2
  go_loop [5] (fun i => i = .int .i64 0) (fun _ => 0)
  case atStart => exact rfl
  case round =>
    obtain rfl := hrel
    go_wp2
    go_ret
    exact ⟨rfl, Below.refl _ _⟩
theorem eqBoolS_none (w : World) : Calls Try.prog 119 #[.slice none 0 0, .slice none 0 0] w fun e w' => e = .returned (.bool true) ∧ Below w.heap.size w w' := by
  go_enter Try.func119, Try.ntmps119
  go_wp2
  go_loop [5] (fun i => i = .int .i64 0) (fun _ => 0)
  case atStart => exact rfl
  case round =>
    obtain rfl := hrel
    go_wp2
    go_ret
    exact ⟨rfl, Below.refl _ _⟩
theorem markActS_none (k : Int) (w : World) : Calls Try.prog 28 #[.slice none 0 0, .int .i64 k] w fun e w' => e = .returned (.int .i64 k) ∧ Below w.heap.size w w' := by
  go_enter Try.func28, Try.ntmps28
  go_wp2
  go_loop [1, 5] (fun j i => j = .int .i64 k ∧ i = .int .i64 0) (fun _ _ => 0)
  case atStart => exact ⟨rfl, rfl⟩
  case round =>
    obtain ⟨rfl, rfl⟩ := hrel
    go_wp2
    go_ret
    exact ⟨rfl, Below.refl _ _⟩
theorem markBoolS_none (k : Int) (w : World) : Calls Try.prog 120 #[.slice none 0 0, .int .i64 k] w fun e w' => e = .returned (.int .i64 k) ∧ Below w.heap.size w w' := by
  go_enter Try.func120, Try.ntmps120
  go_wp2
  go_loop [1, 5] (fun j i => j = .int .i64 k ∧ i = .int .i64 0) (fun _ _ => 0)
  case atStart => exact ⟨rfl, rfl⟩
  case round =>
    obtain ⟨rfl, rfl⟩ := hrel
    go_wp2
    go_ret
    exact ⟨rfl, Below.refl _ _⟩
theorem heldActS_none (k : Int) (w : World) : Calls Try.prog 37 #[.slice none 0 0, .int .i64 k] w fun e w' => e = .returned (.int .i64 k) ∧ Below w.heap.size w w' := by
  go_enter Try.func37, Try.ntmps37
  go_wp2
  go_loop [1, 5] (fun j i => j = .int .i64 k ∧ i = .int .i64 0) (fun _ _ => 0)
  case atStart => exact ⟨rfl, rfl⟩
  case round =>
    obtain ⟨rfl, rfl⟩ := hrel
    go_wp2
    go_ret
    exact ⟨rfl, Below.refl _ _⟩
theorem heldBoolS_none (k : Int) (w : World) : Calls Try.prog 121 #[.slice none 0 0, .int .i64 k] w fun e w' => e = .returned (.int .i64 k) ∧ Below w.heap.size w w' := by
  go_enter Try.func121, Try.ntmps121
  go_wp2
  go_loop [1, 5] (fun j i => j = .int .i64 k ∧ i = .int .i64 0) (fun _ _ => 0)
  case atStart => exact ⟨rfl, rfl⟩
  case round =>
    obtain ⟨rfl, rfl⟩ := hrel
    go_wp2
    go_ret
    exact ⟨rfl, Below.refl _ _⟩

set_option maxHeartbeats 1600000 in
theorem eqPlace_none (x y : Int) (w : World) : Calls Try.prog 61 #[plV x y, plV x y] w fun e w' => e = .returned (.bool true) ∧ Below w.heap.size w w' := by
  have b0 := ((Below.refl w.heap.size w).alloc (Nat.le_refl _) (.cells #[.int .i64 x, .int .i64 y, .slice none 0 0, .slice none 0 0, .slice none 0 0] 68)).alloc (by simp) (.cells #[.int .i64 x, .int .i64 y, .slice none 0 0, .slice none 0 0, .slice none 0 0] 68)
  have kA : Blk ((w.alloc (.cells #[.int .i64 x, .int .i64 y, .slice none 0 0, .slice none 0 0, .slice none 0 0] 68)).alloc (.cells #[.int .i64 x, .int .i64 y, .slice none 0 0, .slice none 0 0, .slice none 0 0] 68)) w.heap.size [.int .i64 x, .int .i64 y, .slice none 0 0, .slice none 0 0, .slice none 0 0] := (Blk.new w _ _).alloc _
  have kB : Blk ((w.alloc (.cells #[.int .i64 x, .int .i64 y, .slice none 0 0, .slice none 0 0, .slice none 0 0] 68)).alloc (.cells #[.int .i64 x, .int .i64 y, .slice none 0 0, .slice none 0 0, .slice none 0 0] 68)) (w.heap.size + 1) [.int .i64 x, .int .i64 y, .slice none 0 0, .slice none 0 0, .slice none 0 0] := by
    have := Blk.new (w.alloc (.cells #[.int .i64 x, .int .i64 y, .slice none 0 0, .slice none 0 0, .slice none 0 0] 68)) #[.int .i64 x, .int .i64 y, .slice none 0 0, .slice none 0 0, .slice none 0 0] 68
    rw [World.size_alloc] at this
    exact this
  simp only [plV]
  obtain ⟨B, hB⟩ : ∃ B, B = w.heap.size := ⟨_, rfl⟩
  go_enter Try.func61, Try.ntmps61
  go_upto_region 1 with (fail)
  rw [← hB] at b0 kA kB ⊢
  have HB := Lib.hid hB
  clear hB
  generalize ((w.alloc (.cells #[.int .i64 x, .int .i64 y, .slice none 0 0, .slice none 0 0, .slice none 0 0] 68)).alloc (.cells #[.int .i64 x, .int .i64 y, .slice none 0 0, .slice none 0 0, .slice none 0 0] 68)) = W0 at b0 kA kB ⊢
  have a0 := kA.cell 0
  have a1 := kA.cell 1
  have a2 := kA.cell 2
  have e0 := kB.cell 0
  have e1 := kB.cell 1
  have e2 := kB.cell 2
  simp only [List.getElem?_cons_zero, List.getElem?_cons_succ] at a0 a1 a2 e0 e1 e2
  go_wp2_with fail
  refine (eqActS_none _).mono ?_
  rintro e w1 ⟨rfl, b1⟩
  have KA := Lib.hid (kA.below b1 kA.lt)
  have KB := Lib.hid (kB.below b1 kB.lt)
  have B1 := Lib.hid (b0.trans (b1.mono (Nat.le_of_lt kA.lt)))
  clear kA kB b1 b0 a0 a1 a2 e0 e1 e2
  have a3 := KA.out.cell 3
  have e3 := KB.out.cell 3
  simp only [List.getElem?_cons_zero, List.getElem?_cons_succ] at a3 e3
  go_wp2_with fail
  refine (eqBoolS_none _).mono ?_
  rintro e w2 ⟨rfl, b2⟩
  have KA2 := Lib.hid (KA.out.below b2 KA.out.lt)
  have KB2 := Lib.hid (KB.out.below b2 KB.out.lt)
  have B2 := Lib.hid (B1.out.trans (b2.mono (Nat.le_of_lt KA.out.lt)))
  clear KA KB b2 B1 a3 e3
  have a4 := KA2.out.cell 4
  have e4 := KB2.out.cell 4
  simp only [List.getElem?_cons_zero, List.getElem?_cons_succ] at a4 e4
  go_wp2_with fail
  refine (eqActS_none _).mono ?_
  rintro e w3 ⟨rfl, b3⟩
  have B3 := Lib.hid (B2.out.trans (b3.mono (Nat.le_of_lt KA2.out.lt)))
  clear KA2 KB2 b3 B2 a4 e4
  go_wp2_with fail
  go_ret
  exact ⟨rfl, by rw [← HB.out]; exact B3.out⟩
set_option maxHeartbeats 1600000 in
theorem markPlace_none (x y k : Int) (hk : 0 ≤ k) (w : World) : Calls Try.prog 62 #[plV x y, .int .i64 k] w fun e w' => e = .returned (.int .i64 k) ∧ Below w.heap.size w w' := by
  have b0 := (Below.refl w.heap.size w).alloc (Nat.le_refl _) (.cells #[.int .i64 x, .int .i64 y, .slice none 0 0, .slice none 0 0, .slice none 0 0] 68)
  have kA := Blk.new w #[.int .i64 x, .int .i64 y, .slice none 0 0, .slice none 0 0, .slice none 0 0] 68
  simp only [plV]
  have hk2 : ¬ k < 0 := by omega
  obtain ⟨B, hB⟩ : ∃ B, B = w.heap.size := ⟨_, rfl⟩
  go_enter Try.func62, Try.ntmps62
  go_upto_region 1 with (fail)
  rw [← hB] at b0 kA ⊢
  have HB := Lib.hid hB
  clear hB
  generalize w.alloc (.cells #[.int .i64 x, .int .i64 y, .slice none 0 0, .slice none 0 0, .slice none 0 0] 68) = W0 at b0 kA ⊢
  have a2 := kA.cell 2
  simp only [List.getElem?_cons_zero, List.getElem?_cons_succ] at a2
  go_wp2_with fail
  refine (markActS_none _ _).mono ?_
  rintro e w1 ⟨rfl, b1⟩
  have KA := Lib.hid (kA.below b1 kA.lt)
  have B1 := Lib.hid (b0.trans (b1.mono (Nat.le_of_lt kA.lt)))
  clear kA b1 b0 a2
  have a3 := KA.out.cell 3
  simp only [List.getElem?_cons_zero, List.getElem?_cons_succ] at a3
  go_wp2_with fail
  refine (markBoolS_none _ _).mono ?_
  rintro e w2 ⟨rfl, b2⟩
  have KA2 := Lib.hid (KA.out.below b2 KA.out.lt)
  have B2 := Lib.hid (B1.out.trans (b2.mono (Nat.le_of_lt KA.out.lt)))
  clear KA b2 B1 a3
  have a4 := KA2.out.cell 4
  simp only [List.getElem?_cons_zero, List.getElem?_cons_succ] at a4
  go_wp2_with fail
  refine (markActS_none _ _).mono ?_
  rintro e w3 ⟨rfl, b3⟩
  have B3 := Lib.hid (B2.out.trans (b3.mono (Nat.le_of_lt KA2.out.lt)))
  clear KA2 b3 B2 a4
  go_wp2_with fail
  go_ret
  exact ⟨rfl, by rw [← HB.out]; exact B3.out⟩
set_option maxHeartbeats 1600000 in
theorem heldPlace_none (x y k : Int) (hk : 0 ≤ k) (w : World) : Calls Try.prog 63 #[plV x y, .int .i64 k] w fun e w' => e = .returned (.int .i64 k) ∧ Below w.heap.size w w' := by
  have b0 := (Below.refl w.heap.size w).alloc (Nat.le_refl _) (.cells #[.int .i64 x, .int .i64 y, .slice none 0 0, .slice none 0 0, .slice none 0 0] 68)
  have kA := Blk.new w #[.int .i64 x, .int .i64 y, .slice none 0 0, .slice none 0 0, .slice none 0 0] 68
  simp only [plV]
  have hk2 : ¬ k < 0 := by omega
  obtain ⟨B, hB⟩ : ∃ B, B = w.heap.size := ⟨_, rfl⟩
  go_enter Try.func63, Try.ntmps63
  go_upto_region 1 with (fail)
  rw [← hB] at b0 kA ⊢
  have HB := Lib.hid hB
  clear hB
  generalize w.alloc (.cells #[.int .i64 x, .int .i64 y, .slice none 0 0, .slice none 0 0, .slice none 0 0] 68) = W0 at b0 kA ⊢
  have a2 := kA.cell 2
  simp only [List.getElem?_cons_zero, List.getElem?_cons_succ] at a2
  go_wp2_with fail
  refine (heldActS_none _ _).mono ?_
  rintro e w1 ⟨rfl, b1⟩
  have KA := Lib.hid (kA.below b1 kA.lt)
  have B1 := Lib.hid (b0.trans (b1.mono (Nat.le_of_lt kA.lt)))
  clear kA b1 b0 a2
  have a3 := KA.out.cell 3
  simp only [List.getElem?_cons_zero, List.getElem?_cons_succ] at a3
  go_wp2_with fail
  refine (heldBoolS_none _ _).mono ?_
  rintro e w2 ⟨rfl, b2⟩
  have KA2 := Lib.hid (KA.out.below b2 KA.out.lt)
  have B2 := Lib.hid (B1.out.trans (b2.mono (Nat.le_of_lt KA.out.lt)))
  clear KA b2 B1 a3
  have a4 := KA2.out.cell 4
  simp only [List.getElem?_cons_zero, List.getElem?_cons_succ] at a4
  go_wp2_with fail
  refine (heldActS_none _ _).mono ?_
  rintro e w3 ⟨rfl, b3⟩
  have B3 := Lib.hid (B2.out.trans (b3.mono (Nat.le_of_lt KA2.out.lt)))
  clear KA2 b3 B2 a4
  go_wp2_with fail
  go_ret
  exact ⟨rfl, by rw [← HB.out]; exact B3.out⟩
end Go.Proofs.Ytjjgigoehgabkaa
