/- Houses held against their marks. -/
import Derived.Test.YtjjgigoehgabkaaWB
import Derived.Test.YtjjgigoehgabkaaMO
import Derived.Deep.DeepCutAuto
namespace Go.Proofs.Ytjjgigoehgabkaa
open Go.RowKit
set_option linter.unusedVariables false
set_option linter.unusedSimpArgs false

theorem part_mk (k : Int) (n j : Nat) (h : j < n) : vh (mkN k n) = part ((mkN k n).take j) (mkM k j).cells ((mkN k n).drop (j + 1)) := by
  have hl := mkN_len k n
  have e : (mkN k n).getD j h0 = mkM k j := by simp [mkN, List.getD, h]
  have h2 := drop_h (mkN k n) j (by rw [hl]; exact h)
  rw [e] at h2
  rw [part, ← h2, ← vh_app, List.take_append_drop]
set_option maxRecDepth 100000 in
set_option maxHeartbeats 6400000 in
theorem heldHouseS_any (g cap n : Nat) (k : Int) (w : World) (hk : 0 < k) (hs : k + 4 * n ≤ 4000000000) (ho : w.ownsRow g 137 7 (.slice (some ⟨g, 0, none⟩) n cap) n (vh (mkN k n))) :
    Calls Try.prog 127 #[.slice (some ⟨g, 0, none⟩) n cap, .int .i64 k] w fun e w' => e = .returned (.int .i64 (k + 4 * n)) ∧ Below w.heap.size w w' := by
  have HO := Lib.hid ho
  clear ho
  go_enter Try.func127, Try.ntmps127
  go_wp2_with fail
  go_loopw [1, 5] (fun t i wr => ∃ j : Nat, j ≤ n ∧ i = .int .i64 j ∧ t = .int .i64 (k + 4 * j) ∧ Hid (Below w.heap.size w wr)) (fun _ i _ => n - (intOf i).toNat)
  case atStart => exact ⟨0, Nat.zero_le _, rfl, by simp, Below.refl _ _⟩
  case round =>
    obtain ⟨j, hj, rfl, rfl, hb⟩ := hrel
    by_cases hlt : j < n
    · have e0 : (0 : Int) ≤ (j : Int) := by omega
      have e1 : (j : Int) < (n : Int) := by omega
      have R0 := HO.out
      rw [part_mk k n j hlt] at R0
      have HA := Lib.hid (show ((mkN k n).take j).length = j by rw [List.length_take, mkN_len]; omega)
      obtain ⟨C, hC⟩ : ∃ C, C = (mkN k n).drop (j + 1) := ⟨_, rfl⟩
      rw [← hC] at R0
      obtain ⟨A, hA⟩ : ∃ A, A = (mkN k n).take j := ⟨_, rfl⟩
      rw [← hA] at R0 HA
      simp only [HouseM.cells, mkM, mtb] at R0
      obtain ⟨q, hq⟩ : ∃ q : Int, q = k + 4 * j := ⟨_, rfl⟩
      rw [← hq] at R0 ⊢
      rw [show q + 3 = q + 1 + 1 + 1 by omega, show q + 2 = q + 1 + 1 by omega] at R0
      have q0 : 0 < q := by omega
      have q1 : q ≤ 3999999996 := by omega
      have HQ := Lib.hid hq
      have R0 := Lib.hid (row_grown (r := none) R0 (below_grown (show Below w.heap.size w wr from hb.out) none) (fun g e => by cases e))
      have G0 := hb
      clear hC hA hq hb
      have c0 := (R0.out.cellAt (j * 7 + 0) (by omega)).trans (part_at A _ C j 0 HA.out (by simp))
      simp only [List.getElem?_cons_zero, List.getElem?_cons_succ, Nat.add_zero] at c0
      have c1 := (R0.out.cellAt (j * 7 + 1) (by omega)).trans (part_at A _ C j 1 HA.out (by simp))
      simp only [List.getElem?_cons_zero, List.getElem?_cons_succ] at c1
      have c2 := (R0.out.cellAt (j * 7 + 2) (by omega)).trans (part_at A _ C j 2 HA.out (by simp))
      simp only [List.getElem?_cons_zero, List.getElem?_cons_succ] at c2
      go_wp2_with fail
      refine (heldActS_none _ _).mono ?_
      rintro e w1 ⟨rfl, b1⟩
      clear c0 c1 c2
      have R1 := Lib.hid (row_grown (r := none) R0.out (below_grown b1 none) (fun g e => by cases e))
      have G1 := Lib.hid (G0.out.trans (b1.mono G0.out.size))
      clear b1 R0 G0
      have c3 := (R1.out.cellAt (j * 7 + 3) (by omega)).trans (part_at A _ C j 3 HA.out (by simp))
      simp only [List.getElem?_cons_zero, List.getElem?_cons_succ] at c3
      go_wp2_with fail
      refine (heldBoolS_none _ _).mono ?_
      rintro e w2 ⟨rfl, b2⟩
      clear c3
      have R2 := Lib.hid (row_grown (r := none) R1.out (below_grown b2 none) (fun g e => by cases e))
      have G2 := Lib.hid (G1.out.trans (b2.mono G1.out.size))
      clear b2 R1 G1
      have c4 := (R2.out.cellAt (j * 7 + 4) (by omega)).trans (part_at A _ C j 4 HA.out (by simp))
      simp only [List.getElem?_cons_zero, List.getElem?_cons_succ] at c4
      go_wp2_with fail
      refine (heldActS_none _ _).mono ?_
      rintro e w3 ⟨rfl, b3⟩
      clear c4
      have R3 := Lib.hid (row_grown (r := none) R2.out (below_grown b3 none) (fun g e => by cases e))
      have G3 := Lib.hid (G2.out.trans (b3.mono G2.out.size))
      clear b3 R2 G2
      go_upto_region 19 with (fail)
      refine wp_region_held_drew (S := fun w' => Below w3.heap.size w3 w') (by kernel_rfl) ((Below.refl w3.heap.size w3).drew) (fun hHeld => ?_)
      refine held_take (i := 0) (d := some 62) (v := ?_) rfl (by kernel_rfl) (by kernel_rfl) (by kernel_rfl) (by kernel_rfl) (fun _ _ _ h => h) (by kernel_rfl) ?_ hHeld ?_
      rotate_left
      · intro w' hSw
        go_simp
        first | done | with_reducible rfl
      simp only [Act.put, List.setIfInBounds_toArray, List.set_cons_zero, List.set_cons_succ]
      refine held_take (i := 1) (d := some 63) (v := ?_) rfl (by kernel_rfl) (by kernel_rfl) (by kernel_rfl) (by kernel_rfl) (fun _ _ _ h => h) (by kernel_rfl) ?_ hHeld ?_
      rotate_left
      · intro w' hSw
        go_simp
        first | done | with_reducible rfl
      simp only [Act.put, List.setIfInBounds_toArray, List.set_cons_zero, List.set_cons_succ]
      refine held_take (i := 2) (d := some 64) (v := ?_) rfl (by kernel_rfl) (by kernel_rfl) (by kernel_rfl) (by kernel_rfl) (fun _ _ _ h => h) (by kernel_rfl) ?_ hHeld ?_
      rotate_left
      · intro w' hSw
        go_simp
        first | done | with_reducible rfl
      simp only [Act.put, List.setIfInBounds_toArray, List.set_cons_zero, List.set_cons_succ]
      refine held_take (i := 3) (d := some 65) (v := ?_) rfl (by kernel_rfl) (by kernel_rfl) (by kernel_rfl) (by kernel_rfl) (fun _ _ _ h => h) (by kernel_rfl) ?_ hHeld ?_
      rotate_left
      · intro w' hSw
        go_simp
        first | done | with_reducible rfl
      simp only [Act.put, List.setIfInBounds_toArray, List.set_cons_zero, List.set_cons_succ]
      refine held_take (i := 4) (d := some 66) (v := ?_) rfl (by kernel_rfl) (by kernel_rfl) (by kernel_rfl) (by kernel_rfl) (fun _ _ _ h => h) (by kernel_rfl) ?_ hHeld ?_
      rotate_left
      · intro w' hSw
        have gz := ((row_grown (r := none) R3.out (below_grown hSw none) (fun g e => by cases e)).cellAt (j * 7 + 5) (by omega)).trans (part_at A _ C j 5 HA.out (by simp))
        simp only [List.getElem?_cons_zero, List.getElem?_cons_succ] at gz
        go_simp
        first | done | with_reducible rfl
      simp only [Act.put, List.setIfInBounds_toArray, List.set_cons_zero, List.set_cons_succ]
      refine held_take (i := 5) (d := some 67) (v := ?_) rfl (by kernel_rfl) (by kernel_rfl) (by kernel_rfl) (by kernel_rfl) (fun _ _ _ h => h) (by kernel_rfl) ?_ hHeld ?_
      rotate_left
      · intro w' hSw
        go_simp
        first | done | with_reducible rfl
      simp only [Act.put, List.setIfInBounds_toArray, List.set_cons_zero, List.set_cons_succ]
      refine wpAnyH_ready (rs := [6]) (by kernel_rfl) (by simp) ?_
      refine AllReadyH.cons rfl (fun K hK => ?_) AllReadyH.nil
      go_simp
      refine (markText_any _ _ (by omega) (by omega)).mono ?_
      rintro e w5 ⟨rfl, bw5⟩
      have Dw5 := hHeld.trans (bw5.mono hHeld.size)
      refine hK.out _ _ (Dw5) (fun hHeld => ?_)
      clear hK K
      try simp only [Act.put, List.setIfInBounds_toArray, List.set_cons_zero, List.set_cons_succ]
      refine held_take (i := 7) (d := some 69) (v := ?_) rfl (by kernel_rfl) (by kernel_rfl) (by kernel_rfl) (by kernel_rfl) (fun _ _ _ h => h) (by kernel_rfl) ?_ hHeld ?_
      rotate_left
      · intro w' hSw
        go_simp
        first | done | with_reducible rfl
      simp only [Act.put, List.setIfInBounds_toArray, List.set_cons_zero, List.set_cons_succ]
      refine wpAnyH_done (by kernel_rfl) ?_ _
      clear hHeld bw5
      have R4 := Lib.hid (row_grown (r := none) R3.out (below_grown Dw5 none) (fun g e => by cases e))
      have G4 := Lib.hid (G3.out.trans (Dw5.mono G3.out.size))
      clear Dw5 R3 G3
      go_upto_region 22 with (fail)
      refine wp_region_held_drew (S := fun w' => Below w5.heap.size w5 w') (by kernel_rfl) ((Below.refl w5.heap.size w5).drew) (fun hHeld => ?_)
      refine held_take (i := 0) (d := some 72) (v := ?_) rfl (by kernel_rfl) (by kernel_rfl) (by kernel_rfl) (by kernel_rfl) (fun _ _ _ h => h) (by kernel_rfl) ?_ hHeld ?_
      rotate_left
      · intro w' hSw
        go_simp
        first | done | with_reducible rfl
      simp only [Act.put, List.setIfInBounds_toArray, List.set_cons_zero, List.set_cons_succ]
      refine held_take (i := 1) (d := some 73) (v := ?_) rfl (by kernel_rfl) (by kernel_rfl) (by kernel_rfl) (by kernel_rfl) (fun _ _ _ h => h) (by kernel_rfl) ?_ hHeld ?_
      rotate_left
      · intro w' hSw
        go_simp
        first | done | with_reducible rfl
      simp only [Act.put, List.setIfInBounds_toArray, List.set_cons_zero, List.set_cons_succ]
      refine held_take (i := 2) (d := some 74) (v := ?_) rfl (by kernel_rfl) (by kernel_rfl) (by kernel_rfl) (by kernel_rfl) (fun _ _ _ h => h) (by kernel_rfl) ?_ hHeld ?_
      rotate_left
      · intro w' hSw
        go_simp
        first | done | with_reducible rfl
      simp only [Act.put, List.setIfInBounds_toArray, List.set_cons_zero, List.set_cons_succ]
      refine held_take (i := 3) (d := some 75) (v := ?_) rfl (by kernel_rfl) (by kernel_rfl) (by kernel_rfl) (by kernel_rfl) (fun _ _ _ h => h) (by kernel_rfl) ?_ hHeld ?_
      rotate_left
      · intro w' hSw
        go_simp
        first | done | with_reducible rfl
      simp only [Act.put, List.setIfInBounds_toArray, List.set_cons_zero, List.set_cons_succ]
      refine held_take (i := 4) (d := some 76) (v := ?_) rfl (by kernel_rfl) (by kernel_rfl) (by kernel_rfl) (by kernel_rfl) (fun _ _ _ h => h) (by kernel_rfl) ?_ hHeld ?_
      rotate_left
      · intro w' hSw
        have gz := ((row_grown (r := none) R4.out (below_grown hSw none) (fun g e => by cases e)).cellAt (j * 7 + 6) (by omega)).trans (part_at A _ C j 6 HA.out (by simp))
        simp only [List.getElem?_cons_zero, List.getElem?_cons_succ] at gz
        go_simp
        first | done | with_reducible rfl
      simp only [Act.put, List.setIfInBounds_toArray, List.set_cons_zero, List.set_cons_succ]
      refine held_take (i := 5) (d := some 77) (v := ?_) rfl (by kernel_rfl) (by kernel_rfl) (by kernel_rfl) (by kernel_rfl) (fun _ _ _ h => h) (by kernel_rfl) ?_ hHeld ?_
      rotate_left
      · intro w' hSw
        go_simp
        first | done | with_reducible rfl
      simp only [Act.put, List.setIfInBounds_toArray, List.set_cons_zero, List.set_cons_succ]
      refine wpAnyH_ready (rs := [6]) (by kernel_rfl) (by simp) ?_
      refine AllReadyH.cons rfl (fun K hK => ?_) AllReadyH.nil
      go_simp
      refine (markText_any _ _ (by omega) (by omega)).mono ?_
      rintro e w7 ⟨rfl, bw7⟩
      have Dw7 := hHeld.trans (bw7.mono hHeld.size)
      refine hK.out _ _ (Dw7) (fun hHeld => ?_)
      clear hK K
      try simp only [Act.put, List.setIfInBounds_toArray, List.set_cons_zero, List.set_cons_succ]
      refine held_take (i := 7) (d := some 79) (v := ?_) rfl (by kernel_rfl) (by kernel_rfl) (by kernel_rfl) (by kernel_rfl) (fun _ _ _ h => h) (by kernel_rfl) ?_ hHeld ?_
      rotate_left
      · intro w' hSw
        go_simp
        first | done | with_reducible rfl
      simp only [Act.put, List.setIfInBounds_toArray, List.set_cons_zero, List.set_cons_succ]
      refine wpAnyH_done (by kernel_rfl) ?_ _
      clear hHeld bw7
      have R5 := Lib.hid (row_grown (r := none) R4.out (below_grown Dw7 none) (fun g e => by cases e))
      have G5 := Lib.hid (G4.out.trans (Dw7.mono G4.out.size))
      clear Dw7 R4 G4
      go_wp2_with fail
      go_roundw
      case rel => exact ⟨j + 1, by omega, by go_num, by have := HQ.out; first | (go_num; done) | (go_num; omega), G5.out⟩
      case measure => simp [intOf]; omega
    · have hjn : j = n := by omega
      go_wp2_with fail
      go_ret
      exact ⟨by show Ending.returned (Value.int _ _) = _; rw [hjn], hb.out⟩
end Go.Proofs.Ytjjgigoehgabkaa
