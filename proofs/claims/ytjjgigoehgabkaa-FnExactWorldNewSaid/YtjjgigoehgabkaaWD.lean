/- Houses alike; worlds alike, marked, held. -/
import Derived.Test.YtjjgigoehgabkaaWC
import Derived.Test.YtjjgigoehgabkaaMO
import Derived.Deep.DeepCutAuto
namespace Go.Proofs.Ytjjgigoehgabkaa
open Go.RowKit
set_option linter.unusedVariables false
set_option linter.unusedSimpArgs false

theorem part_l (l : List HouseM) (j : Nat) (h : j < l.length) : vh l = part (l.take j) (l.getD j h0).cells (l.drop (j + 1)) := by
  have h2 := drop_h l j h
  rw [part, ← h2, ← vh_app, List.take_append_drop]
def HRow (w : World) (g n cap : Nat) (l : List HouseM) : Prop := w.ownsRow g 137 7 (.slice (some ⟨g, 0, none⟩) n cap) n (vh l)
theorem HRow.below {w w' : World} {g n cap : Nat} {l : List HouseM} (h : HRow w g n cap l) (hb : Below w.heap.size w w') : HRow w' g n cap l := row_grown (r := none) h (below_grown hb none) (fun g e => by cases e)
theorem HRow.lt {w : World} {g n cap : Nat} {l : List HouseM} (h : HRow w g n cap l) : g < w.heap.size := (own_at h).2.2
theorem HRow.at {w : World} {g n cap : Nat} {l : List HouseM} (h : HRow w g n cap l) (hl : l.length = n) (j : Nat) (hj : j < n) (c : Nat) (hc : c < 7) : w.cell? ⟨g, j * 7 + c, none⟩ = (l.getD j h0).cells[c]? := by
  have h1 := h.cellAt (j * 7 + c) (by omega)
  rw [part_l l j (by omega)] at h1
  exact h1.trans (part_at _ _ _ j c (by rw [List.length_take]; omega) (by simpa [HouseM.cells] using hc))
theorem HRow.other {w w' : World} {g n cap g' : Nat} {l : List HouseM} (h : HRow w g n cap l) (hg : w.grownBy w' (some g')) (hn : g ≠ g') : HRow w' g n cap l := by
  refine ⟨h.1, ?_⟩
  rcases h.2 with h2 | ⟨q, cp, cur, hv, hk, hh, r⟩
  · exact .inl h2
  · refine .inr ⟨q, cp, cur, hv, hk, ?_, r⟩
    obtain ⟨e, _⟩ : g = q ∧ cap = cp := by simpa using hv
    subst e
    rw [hg.block g (Array.getElem?_eq_some_iff.1 hh).1 (fun e => hn (by cases e; rfl))]
    exact hh

set_option maxRecDepth 100000 in
set_option maxHeartbeats 3200000 in
theorem eqHouse_any (a m : Int) (s t : ByteArray) (w : World) : Calls Try.prog 160 #[.agg #[.int .i64 a, .int .i64 m, .slice none 0 0, .slice none 0 0, .slice none 0 0, .string s, .string t], .agg #[.int .i64 a, .int .i64 m, .slice none 0 0, .slice none 0 0, .slice none 0 0, .string s, .string t]] w fun e w' => e = .returned (.bool true) ∧ Below w.heap.size w w' := by
  have EP := Lib.hid (fun W => (show Calls Try.prog 61 #[.agg #[.int .i64 a, .int .i64 m, .slice none 0 0, .slice none 0 0, .slice none 0 0], .agg #[.int .i64 a, .int .i64 m, .slice none 0 0, .slice none 0 0, .slice none 0 0]] W fun e w' => e = .returned (.bool true) ∧ Below W.heap.size W w' from eqPlace_none a m W))
  have BW := Lib.hid (Below.refl w.heap.size w)
  go_enter Try.func160, Try.ntmps160
  have kA := (Blk.new w #[.int .i64 a, .int .i64 m, .slice none 0 0, .slice none 0 0, .slice none 0 0, .string s, .string t] 137).alloc (.cells #[.int .i64 a, .int .i64 m, .slice none 0 0, .slice none 0 0, .slice none 0 0, .string s, .string t] 137)
  have kB := Blk.new (w.alloc (.cells #[.int .i64 a, .int .i64 m, .slice none 0 0, .slice none 0 0, .slice none 0 0, .string s, .string t] 137)) #[.int .i64 a, .int .i64 m, .slice none 0 0, .slice none 0 0, .slice none 0 0, .string s, .string t] 137
  simp only [World.size_alloc] at kB
  have ba := ((Below.refl w.heap.size w).alloc (Nat.le_refl _) (.cells #[.int .i64 a, .int .i64 m, .slice none 0 0, .slice none 0 0, .slice none 0 0, .string s, .string t] 137)).alloc (by simp [World.size_alloc]; try omega) (.cells #[.int .i64 a, .int .i64 m, .slice none 0 0, .slice none 0 0, .slice none 0 0, .string s, .string t] 137)
  obtain ⟨pA, hpA⟩ : ∃ p, p = w.heap.size := ⟨_, rfl⟩
  obtain ⟨pB, hpB⟩ : ∃ p, p = w.heap.size + 1 := ⟨_, rfl⟩
  go_upto_region 1 with (fail)
  rw [← hpB] at kB
  try rw [← hpB]
  rw [← hpA] at kA
  try rw [← hpA]
  obtain ⟨w1, hW⟩ : ∃ W, W = (w.alloc (.cells #[.int .i64 a, .int .i64 m, .slice none 0 0, .slice none 0 0, .slice none 0 0, .string s, .string t] 137)).alloc (.cells #[.int .i64 a, .int .i64 m, .slice none 0 0, .slice none 0 0, .slice none 0 0, .string s, .string t] 137) := ⟨_, rfl⟩
  rw [← hW] at ba kA kB ⊢
  have KA := Lib.hid kA
  have GA := Lib.hid (show w.heap.size ≤ pA by omega)
  have KB := Lib.hid kB
  have GB := Lib.hid (show w.heap.size ≤ pB by omega)
  have NEA_B := Lib.hid (show pA ≠ pB by omega)
  replace BW := Lib.hid (BW.out.trans ((ba).mono BW.out.size))
  clear ba hW kA hpA kB hpB
  have a0 := KA.out.cell 0
  have a1 := KA.out.cell 1
  have a2 := KA.out.cell 2
  have a3 := KA.out.cell 3
  have a4 := KA.out.cell 4
  have a5 := KA.out.cell 5
  have a6 := KA.out.cell 6
  simp only [List.getElem?_cons_zero, List.getElem?_cons_succ] at a0 a1 a2 a3 a4 a5 a6
  have b0 := KB.out.cell 0
  have b1 := KB.out.cell 1
  have b2 := KB.out.cell 2
  have b3 := KB.out.cell 3
  have b4 := KB.out.cell 4
  have b5 := KB.out.cell 5
  have b6 := KB.out.cell 6
  simp only [List.getElem?_cons_zero, List.getElem?_cons_succ] at b0 b1 b2 b3 b4 b5 b6
  go_wp2_with fail
  refine (EP.out _).mono ?_
  rintro e w2 ⟨rfl, b⟩
  clear a0 a1 a2 a3 a4 a5 a6 b0 b1 b2 b3 b4 b5 b6
  replace BW := Lib.hid (BW.out.trans ((b).mono BW.out.size))
  replace KA := Lib.hid (KA.out.below (b) KA.out.lt)
  replace KB := Lib.hid (KB.out.below (b) KB.out.lt)
  clear b
  have a0 := KA.out.cell 0
  have a1 := KA.out.cell 1
  have a2 := KA.out.cell 2
  have a3 := KA.out.cell 3
  have a4 := KA.out.cell 4
  have a5 := KA.out.cell 5
  have a6 := KA.out.cell 6
  simp only [List.getElem?_cons_zero, List.getElem?_cons_succ] at a0 a1 a2 a3 a4 a5 a6
  have b0 := KB.out.cell 0
  have b1 := KB.out.cell 1
  have b2 := KB.out.cell 2
  have b3 := KB.out.cell 3
  have b4 := KB.out.cell 4
  have b5 := KB.out.cell 5
  have b6 := KB.out.cell 6
  simp only [List.getElem?_cons_zero, List.getElem?_cons_succ] at b0 b1 b2 b3 b4 b5 b6
  go_wp2_with fail
  go_ret
  exact ⟨rfl, BW.out⟩

set_option maxRecDepth 100000 in
set_option maxHeartbeats 3200000 in
theorem eqHouseS_any (g cap g' cap' n : Nat) (l : List HouseM) (w : World) (hn : l.length = n) (hm : n ≤ 9223372036854775807) (h : HRow w g n cap l) (h' : HRow w g' n cap' l) :
    Calls Try.prog 123 #[.slice (some ⟨g, 0, none⟩) n cap, .slice (some ⟨g', 0, none⟩) n cap'] w fun e w' => e = .returned (.bool true) ∧ Below w.heap.size w w' := by
  have HN := Lib.hid hn
  have H1 := Lib.hid h
  have H2 := Lib.hid h'
  clear hn h h'
  go_enter Try.func123, Try.ntmps123
  go_wp2_with fail
  go_loopw [5] (fun i wr => ∃ j : Nat, j ≤ n ∧ i = .int .i64 j ∧ Hid (Below w.heap.size w wr)) (fun i _ => n - (intOf i).toNat)
  case atStart => exact ⟨0, Nat.zero_le _, rfl, Below.refl _ _⟩
  case round =>
    obtain ⟨j, hj, rfl, hb⟩ := hrel
    by_cases hlt : j < n
    · have e0 : (0 : Int) ≤ (j : Int) := by omega
      have e1 : (j : Int) < (n : Int) := by omega
      have R1 := Lib.hid (fun W (hW : Below wr.heap.size wr W) c hc => ((H1.out.below hb.out).below hW).at HN.out j hlt c hc)
      have R2 := Lib.hid (fun W (hW : Below wr.heap.size wr W) c hc => ((H2.out.below hb.out).below hW).at HN.out j hlt c hc)
      obtain ⟨⟨a, m, s, t⟩, hx⟩ : ∃ x, x = l.getD j h0 := ⟨_, rfl⟩
      rw [← hx] at R1 R2
      simp only [HouseM.cells] at R1 R2
      clear hx
      go_upto_region 6 with (fail)
      refine wp_region_held_drew (S := fun w' => Below wr.heap.size wr w') (by kernel_rfl) ((Below.refl wr.heap.size wr).drew) (fun hHeld => ?_)
      refine held_take (i := 0) (d := some 17) (v := ?_) rfl (by kernel_rfl) (by kernel_rfl) (by kernel_rfl) (by kernel_rfl) (fun _ _ _ h => h) (by kernel_rfl) ?_ hHeld ?_
      rotate_left
      · intro w' hSw
        go_simp
        first | done | with_reducible rfl
      simp only [Act.put, List.setIfInBounds_toArray, List.set_cons_zero, List.set_cons_succ]
      refine held_take (i := 1) (d := some 18) (v := ?_) rfl (by kernel_rfl) (by kernel_rfl) (by kernel_rfl) (by kernel_rfl) (fun _ _ _ h => h) (by kernel_rfl) ?_ hHeld ?_
      rotate_left
      · intro w' hSw
        go_simp
        first | done | with_reducible rfl
      simp only [Act.put, List.setIfInBounds_toArray, List.set_cons_zero, List.set_cons_succ]
      refine held_take (i := 2) (d := some 19) (v := ?_) rfl (by kernel_rfl) (by kernel_rfl) (by kernel_rfl) (by kernel_rfl) (fun _ _ _ h => h) (by kernel_rfl) ?_ hHeld ?_
      rotate_left
      · intro w' hSw
        go_simp
        first | done | with_reducible rfl
      simp only [Act.put, List.setIfInBounds_toArray, List.set_cons_zero, List.set_cons_succ]
      refine held_take (i := 3) (d := some 20) (v := ?_) rfl (by kernel_rfl) (by kernel_rfl) (by kernel_rfl) (by kernel_rfl) (fun _ _ _ h => h) (by kernel_rfl) ?_ hHeld ?_
      rotate_left
      · intro w' hSw
        have u0 := R1.out w' hSw 0 (by omega)
        have u1 := R1.out w' hSw 1 (by omega)
        have u2 := R1.out w' hSw 2 (by omega)
        have u3 := R1.out w' hSw 3 (by omega)
        have u4 := R1.out w' hSw 4 (by omega)
        have u5 := R1.out w' hSw 5 (by omega)
        have u6 := R1.out w' hSw 6 (by omega)
        simp only [List.getElem?_cons_zero, List.getElem?_cons_succ, Nat.add_zero] at u0 u1 u2 u3 u4 u5 u6
        go_simp
        first | done | with_reducible rfl
      simp only [Act.put, List.setIfInBounds_toArray, List.set_cons_zero, List.set_cons_succ]
      refine held_take (i := 4) (d := some 21) (v := ?_) rfl (by kernel_rfl) (by kernel_rfl) (by kernel_rfl) (by kernel_rfl) (fun _ _ _ h => h) (by kernel_rfl) ?_ hHeld ?_
      rotate_left
      · intro w' hSw
        go_simp
        first | done | with_reducible rfl
      simp only [Act.put, List.setIfInBounds_toArray, List.set_cons_zero, List.set_cons_succ]
      refine held_take (i := 5) (d := some 22) (v := ?_) rfl (by kernel_rfl) (by kernel_rfl) (by kernel_rfl) (by kernel_rfl) (fun _ _ _ h => h) (by kernel_rfl) ?_ hHeld ?_
      rotate_left
      · intro w' hSw
        go_simp
        first | done | with_reducible rfl
      simp only [Act.put, List.setIfInBounds_toArray, List.set_cons_zero, List.set_cons_succ]
      refine held_take (i := 6) (d := some 23) (v := ?_) rfl (by kernel_rfl) (by kernel_rfl) (by kernel_rfl) (by kernel_rfl) (fun _ _ _ h => h) (by kernel_rfl) ?_ hHeld ?_
      rotate_left
      · intro w' hSw
        go_simp
        first | done | with_reducible rfl
      simp only [Act.put, List.setIfInBounds_toArray, List.set_cons_zero, List.set_cons_succ]
      refine held_take (i := 7) (d := some 24) (v := ?_) rfl (by kernel_rfl) (by kernel_rfl) (by kernel_rfl) (by kernel_rfl) (fun _ _ _ h => h) (by kernel_rfl) ?_ hHeld ?_
      rotate_left
      · intro w' hSw
        have v0 := R2.out w' hSw 0 (by omega)
        have v1 := R2.out w' hSw 1 (by omega)
        have v2 := R2.out w' hSw 2 (by omega)
        have v3 := R2.out w' hSw 3 (by omega)
        have v4 := R2.out w' hSw 4 (by omega)
        have v5 := R2.out w' hSw 5 (by omega)
        have v6 := R2.out w' hSw 6 (by omega)
        simp only [List.getElem?_cons_zero, List.getElem?_cons_succ, Nat.add_zero] at v0 v1 v2 v3 v4 v5 v6
        go_simp
        first | done | with_reducible rfl
      simp only [Act.put, List.setIfInBounds_toArray, List.set_cons_zero, List.set_cons_succ]
      refine wpAnyH_ready (rs := [8]) (by kernel_rfl) (by simp) ?_
      refine AllReadyH.cons rfl (fun K hK => ?_) AllReadyH.nil
      go_simp
      refine (eqHouse_any a m s t _).mono ?_
      rintro e w5 ⟨rfl, b5⟩
      have D5 := hHeld.trans (b5.mono hHeld.size)
      refine hK.out _ _ (D5) (fun hHeld => ?_)
      clear hK K
      try simp only [Act.put, List.setIfInBounds_toArray, List.set_cons_zero, List.set_cons_succ]
      refine held_take (i := 9) (d := some 26) (v := ?_) rfl (by kernel_rfl) (by kernel_rfl) (by kernel_rfl) (by kernel_rfl) (fun _ _ _ h => h) (by kernel_rfl) ?_ hHeld ?_
      rotate_left
      · intro w' hSw
        go_simp
        first | done | with_reducible rfl
      simp only [Act.put, List.setIfInBounds_toArray, List.set_cons_zero, List.set_cons_succ]
      refine wpAnyH_done (by kernel_rfl) ?_ _
      have B5 := Lib.hid (hb.out.trans (D5.mono hb.out.size))
      clear hHeld b5 D5
      go_wp2_with fail
      go_roundw
      case rel => exact ⟨j + 1, by omega, by go_num, B5.out⟩
      case measure => simp [intOf]; omega
    · go_wp2_with fail
      go_ret
      exact ⟨rfl, hb.out⟩
theorem eqHouseS_none (w : World) : Calls Try.prog 123 #[.slice none 0 0, .slice none 0 0] w fun e w' => e = .returned (.bool true) ∧ Below w.heap.size w w' := by
  go_enter Try.func123, Try.ntmps123
  go_wp2
  go_loop [5] (fun i => i = .int .i64 0) (fun _ => 0)
  case atStart => exact rfl
  case round =>
    obtain rfl := hrel
    go_wp2
    go_ret
    exact ⟨rfl, Below.refl _ _⟩
theorem markHouseS_none (k : Int) (w : World) : Calls Try.prog 125 #[.slice none 0 0, .int .i64 k] w fun e w' => e = .returned (.int .i64 k) ∧ Below w.heap.size w w' := by
  go_enter Try.func125, Try.ntmps125
  go_wp2
  go_loop [1, 5] (fun j i => j = .int .i64 k ∧ i = .int .i64 0) (fun _ _ => 0)
  case atStart => exact ⟨rfl, rfl⟩
  case round =>
    obtain ⟨rfl, rfl⟩ := hrel
    go_wp2
    go_ret
    exact ⟨rfl, Below.refl _ _⟩
theorem heldHouseS_none (k : Int) (w : World) : Calls Try.prog 127 #[.slice none 0 0, .int .i64 k] w fun e w' => e = .returned (.int .i64 k) ∧ Below w.heap.size w w' := by
  go_enter Try.func127, Try.ntmps127
  go_wp2
  go_loop [1, 5] (fun j i => j = .int .i64 k ∧ i = .int .i64 0) (fun _ _ => 0)
  case atStart => exact ⟨rfl, rfl⟩
  case round =>
    obtain ⟨rfl, rfl⟩ := hrel
    go_wp2
    go_ret
    exact ⟨rfl, Below.refl _ _⟩
theorem eqNoteS_none (w : World) : Calls Try.prog 124 #[.slice none 0 0, .slice none 0 0] w fun e w' => e = .returned (.bool true) ∧ Below w.heap.size w w' := by
  go_enter Try.func124, Try.ntmps124
  go_wp2
  go_loop [5] (fun i => i = .int .i64 0) (fun _ => 0)
  case atStart => exact rfl
  case round =>
    obtain rfl := hrel
    go_wp2
    go_ret
    exact ⟨rfl, Below.refl _ _⟩
theorem markNoteS_none (k : Int) (w : World) : Calls Try.prog 126 #[.slice none 0 0, .int .i64 k] w fun e w' => e = .returned (.int .i64 k) ∧ Below w.heap.size w w' := by
  go_enter Try.func126, Try.ntmps126
  go_wp2
  go_loop [1, 5] (fun j i => j = .int .i64 k ∧ i = .int .i64 0) (fun _ _ => 0)
  case atStart => exact ⟨rfl, rfl⟩
  case round =>
    obtain ⟨rfl, rfl⟩ := hrel
    go_wp2
    go_ret
    exact ⟨rfl, Below.refl _ _⟩
theorem heldNoteS_none (k : Int) (w : World) : Calls Try.prog 128 #[.slice none 0 0, .int .i64 k] w fun e w' => e = .returned (.int .i64 k) ∧ Below w.heap.size w w' := by
  go_enter Try.func128, Try.ntmps128
  go_wp2
  go_loop [1, 5] (fun j i => j = .int .i64 k ∧ i = .int .i64 0) (fun _ _ => 0)
  case atStart => exact ⟨rfl, rfl⟩
  case round =>
    obtain ⟨rfl, rfl⟩ := hrel
    go_wp2
    go_ret
    exact ⟨rfl, Below.refl _ _⟩

set_option maxRecDepth 100000 in
set_option maxHeartbeats 3200000 in
theorem eqWorld_none (w : World) : Calls Try.prog 70 #[.agg #[.slice none 0 0, .slice none 0 0], .agg #[.slice none 0 0, .slice none 0 0]] w fun e w' => e = .returned (.bool true) ∧ Below w.heap.size w w' := by
  have BW := Lib.hid (Below.refl w.heap.size w)
  go_enter Try.func70, Try.ntmps70
  have kA := (Blk.new w #[.slice none 0 0, .slice none 0 0] 81).alloc (.cells #[.slice none 0 0, .slice none 0 0] 81)
  have kB := Blk.new (w.alloc (.cells #[.slice none 0 0, .slice none 0 0] 81)) #[.slice none 0 0, .slice none 0 0] 81
  simp only [World.size_alloc] at kB
  have ba := ((Below.refl w.heap.size w).alloc (Nat.le_refl _) (.cells #[.slice none 0 0, .slice none 0 0] 81)).alloc (by simp [World.size_alloc]; try omega) (.cells #[.slice none 0 0, .slice none 0 0] 81)
  obtain ⟨pA, hpA⟩ : ∃ p, p = w.heap.size := ⟨_, rfl⟩
  obtain ⟨pB, hpB⟩ : ∃ p, p = w.heap.size + 1 := ⟨_, rfl⟩
  go_upto_region 1 with (fail)
  rw [← hpB] at kB
  try rw [← hpB]
  rw [← hpA] at kA
  try rw [← hpA]
  obtain ⟨w1, hW⟩ : ∃ W, W = (w.alloc (.cells #[.slice none 0 0, .slice none 0 0] 81)).alloc (.cells #[.slice none 0 0, .slice none 0 0] 81) := ⟨_, rfl⟩
  rw [← hW] at ba kA kB ⊢
  have KA := Lib.hid kA
  have GA := Lib.hid (show w.heap.size ≤ pA by omega)
  have KB := Lib.hid kB
  have GB := Lib.hid (show w.heap.size ≤ pB by omega)
  have NEA_B := Lib.hid (show pA ≠ pB by omega)
  replace BW := Lib.hid (BW.out.trans ((ba).mono BW.out.size))
  clear ba hW kA hpA kB hpB
  have a0 := KA.out.cell 0
  have a1 := KA.out.cell 1
  simp only [List.getElem?_cons_zero, List.getElem?_cons_succ] at a0 a1
  have b0 := KB.out.cell 0
  have b1 := KB.out.cell 1
  simp only [List.getElem?_cons_zero, List.getElem?_cons_succ] at b0 b1
  go_wp2_with fail
  refine (eqHouseS_none _).mono ?_
  rintro e w2 ⟨rfl, b⟩
  clear a0 a1 b0 b1
  replace BW := Lib.hid (BW.out.trans ((b).mono BW.out.size))
  replace KA := Lib.hid (KA.out.below (b) KA.out.lt)
  replace KB := Lib.hid (KB.out.below (b) KB.out.lt)
  clear b
  have a0 := KA.out.cell 0
  have a1 := KA.out.cell 1
  simp only [List.getElem?_cons_zero, List.getElem?_cons_succ] at a0 a1
  have b0 := KB.out.cell 0
  have b1 := KB.out.cell 1
  simp only [List.getElem?_cons_zero, List.getElem?_cons_succ] at b0 b1
  go_wp2_with fail
  refine (eqNoteS_none _).mono ?_
  rintro e w3 ⟨rfl, b⟩
  clear a0 a1 b0 b1
  replace BW := Lib.hid (BW.out.trans ((b).mono BW.out.size))
  replace KA := Lib.hid (KA.out.below (b) KA.out.lt)
  replace KB := Lib.hid (KB.out.below (b) KB.out.lt)
  clear b
  go_wp2_with fail
  go_ret
  exact ⟨rfl, BW.out⟩

set_option maxRecDepth 100000 in
set_option maxHeartbeats 3200000 in
theorem eqWorld_some (g cap g' cap' n : Nat) (l : List HouseM) (w : World) (hn : l.length = n) (hm : n ≤ 9223372036854775807) (h : HRow w g n cap l) (h' : HRow w g' n cap' l) : Calls Try.prog 70 #[.agg #[.slice (some ⟨g, 0, none⟩) n cap, .slice none 0 0], .agg #[.slice (some ⟨g', 0, none⟩) n cap', .slice none 0 0]] w fun e w' => e = .returned (.bool true) ∧ Below w.heap.size w w' := by
  have ES := Lib.hid (fun W (hW : Below w.heap.size w W) => eqHouseS_any g cap g' cap' n l W hn hm (h.below hW) (h'.below hW))
  clear h h' hn
  have BW := Lib.hid (Below.refl w.heap.size w)
  go_enter Try.func70, Try.ntmps70
  have kA := (Blk.new w #[.slice (some ⟨g, 0, none⟩) n cap, .slice none 0 0] 81).alloc (.cells #[.slice (some ⟨g', 0, none⟩) n cap', .slice none 0 0] 81)
  have kB := Blk.new (w.alloc (.cells #[.slice (some ⟨g, 0, none⟩) n cap, .slice none 0 0] 81)) #[.slice (some ⟨g', 0, none⟩) n cap', .slice none 0 0] 81
  simp only [World.size_alloc] at kB
  have ba := ((Below.refl w.heap.size w).alloc (Nat.le_refl _) (.cells #[.slice (some ⟨g, 0, none⟩) n cap, .slice none 0 0] 81)).alloc (by simp [World.size_alloc]; try omega) (.cells #[.slice (some ⟨g', 0, none⟩) n cap', .slice none 0 0] 81)
  obtain ⟨pA, hpA⟩ : ∃ p, p = w.heap.size := ⟨_, rfl⟩
  obtain ⟨pB, hpB⟩ : ∃ p, p = w.heap.size + 1 := ⟨_, rfl⟩
  go_upto_region 1 with (fail)
  rw [← hpB] at kB
  try rw [← hpB]
  rw [← hpA] at kA
  try rw [← hpA]
  obtain ⟨w1, hW⟩ : ∃ W, W = (w.alloc (.cells #[.slice (some ⟨g, 0, none⟩) n cap, .slice none 0 0] 81)).alloc (.cells #[.slice (some ⟨g', 0, none⟩) n cap', .slice none 0 0] 81) := ⟨_, rfl⟩
  rw [← hW] at ba kA kB ⊢
  have KA := Lib.hid kA
  have GA := Lib.hid (show w.heap.size ≤ pA by omega)
  have KB := Lib.hid kB
  have GB := Lib.hid (show w.heap.size ≤ pB by omega)
  have NEA_B := Lib.hid (show pA ≠ pB by omega)
  replace BW := Lib.hid (BW.out.trans ((ba).mono BW.out.size))
  clear ba hW kA hpA kB hpB
  have a0 := KA.out.cell 0
  have a1 := KA.out.cell 1
  simp only [List.getElem?_cons_zero, List.getElem?_cons_succ] at a0 a1
  have b0 := KB.out.cell 0
  have b1 := KB.out.cell 1
  simp only [List.getElem?_cons_zero, List.getElem?_cons_succ] at b0 b1
  go_wp2_with fail
  refine (ES.out _ BW.out).mono ?_
  rintro e w2 ⟨rfl, b⟩
  clear a0 a1 b0 b1
  replace BW := Lib.hid (BW.out.trans ((b).mono BW.out.size))
  replace KA := Lib.hid (KA.out.below (b) KA.out.lt)
  replace KB := Lib.hid (KB.out.below (b) KB.out.lt)
  clear b
  have a0 := KA.out.cell 0
  have a1 := KA.out.cell 1
  simp only [List.getElem?_cons_zero, List.getElem?_cons_succ] at a0 a1
  have b0 := KB.out.cell 0
  have b1 := KB.out.cell 1
  simp only [List.getElem?_cons_zero, List.getElem?_cons_succ] at b0 b1
  go_wp2_with fail
  refine (eqNoteS_none _).mono ?_
  rintro e w3 ⟨rfl, b⟩
  clear a0 a1 b0 b1
  replace BW := Lib.hid (BW.out.trans ((b).mono BW.out.size))
  replace KA := Lib.hid (KA.out.below (b) KA.out.lt)
  replace KB := Lib.hid (KB.out.below (b) KB.out.lt)
  clear b
  go_wp2_with fail
  go_ret
  exact ⟨rfl, BW.out⟩

set_option maxRecDepth 100000 in
set_option maxHeartbeats 3200000 in
theorem markWorld_none (k : Int) (h0 : 0 ≤ k) (w : World) : Calls Try.prog 71 #[.agg #[.slice none 0 0, .slice none 0 0], .int .i64 k] w fun e w' => e = .returned (.int .i64 k) ∧ Below w.heap.size w w' := by
  have BW := Lib.hid (Below.refl w.heap.size w)
  go_enter Try.func71, Try.ntmps71
  have kA := Blk.new w #[.slice none 0 0, .slice none 0 0] 81
  have ba := (Below.refl w.heap.size w).alloc (Nat.le_refl _) (.cells #[.slice none 0 0, .slice none 0 0] 81)
  obtain ⟨pA, hpA⟩ : ∃ p, p = w.heap.size := ⟨_, rfl⟩
  go_upto_region 1 with (fail)
  rw [← hpA] at kA
  try rw [← hpA]
  obtain ⟨w1, hW⟩ : ∃ W, W = w.alloc (.cells #[.slice none 0 0, .slice none 0 0] 81) := ⟨_, rfl⟩
  rw [← hW] at ba kA ⊢
  have KA := Lib.hid kA
  have GA := Lib.hid (show w.heap.size ≤ pA by omega)
  replace BW := Lib.hid (BW.out.trans ((ba).mono BW.out.size))
  clear ba hW kA hpA
  have a0 := KA.out.cell 0
  have a1 := KA.out.cell 1
  simp only [List.getElem?_cons_zero, List.getElem?_cons_succ] at a0 a1
  go_wp2_with fail
  refine (markHouseS_none _ _).mono ?_
  rintro e w2 ⟨rfl, b⟩
  clear a0 a1
  replace BW := Lib.hid (BW.out.trans ((b).mono BW.out.size))
  replace KA := Lib.hid (KA.out.below (b) KA.out.lt)
  clear b
  have a0 := KA.out.cell 0
  have a1 := KA.out.cell 1
  simp only [List.getElem?_cons_zero, List.getElem?_cons_succ] at a0 a1
  go_wp2_with fail
  refine (markNoteS_none _ _).mono ?_
  rintro e w3 ⟨rfl, b⟩
  clear a0 a1
  replace BW := Lib.hid (BW.out.trans ((b).mono BW.out.size))
  replace KA := Lib.hid (KA.out.below (b) KA.out.lt)
  clear b
  go_wp2_with fail
  go_ret
  exact ⟨rfl, BW.out⟩

set_option maxRecDepth 100000 in
set_option maxHeartbeats 3200000 in
theorem markWorld_some (g cap n : Nat) (l : List HouseM) (k : Int) (w : World) (hn : l.length = n) (hk : 0 < k) (hs : k + 4 * n ≤ 4000000000) (h : HRow w g n cap l) : Calls Try.prog 71 #[.agg #[.slice (some ⟨g, 0, none⟩) n cap, .slice none 0 0], .int .i64 k] w fun e w' => e = .returned (.int .i64 (k + 4 * n)) ∧ HRow w' g n cap (mkN k n) ∧ w.grownBy w' (some g) := by
  have MS := Lib.hid (fun W (hW : Below w.heap.size w W) => markHouseS_any g cap n l k W hn hk hs (h.below hW))
  have HLT := Lib.hid h.lt
  clear h hn
  have BW := Lib.hid (Below.refl w.heap.size w)
  go_enter Try.func71, Try.ntmps71
  have kA := Blk.new w #[.slice (some ⟨g, 0, none⟩) n cap, .slice none 0 0] 81
  have ba := (Below.refl w.heap.size w).alloc (Nat.le_refl _) (.cells #[.slice (some ⟨g, 0, none⟩) n cap, .slice none 0 0] 81)
  obtain ⟨pA, hpA⟩ : ∃ p, p = w.heap.size := ⟨_, rfl⟩
  go_upto_region 1 with (fail)
  rw [← hpA] at kA
  try rw [← hpA]
  obtain ⟨w1, hW⟩ : ∃ W, W = w.alloc (.cells #[.slice (some ⟨g, 0, none⟩) n cap, .slice none 0 0] 81) := ⟨_, rfl⟩
  rw [← hW] at ba kA ⊢
  have KA := Lib.hid kA
  have GA := Lib.hid (show w.heap.size ≤ pA by omega)
  replace BW := Lib.hid (BW.out.trans ((ba).mono BW.out.size))
  clear ba hW kA hpA
  have a0 := KA.out.cell 0
  have a1 := KA.out.cell 1
  simp only [List.getElem?_cons_zero, List.getElem?_cons_succ] at a0 a1
  go_wp2_with fail
  refine (MS.out _ BW.out).mono ?_
  rintro e w2 ⟨rfl, o2, g2⟩
  clear a0 a1
  have O2 := Lib.hid o2
  have KA2 := Lib.hid (KA.out.grown (w' := w2) g2 (by have := HLT.out; have := GA.out; show pA ≠ g; omega))
  have GG := Lib.hid (grown_then (below_grown BW.out (some g)) g2 (fun q e => .inl (by cases e; rfl)))
  clear o2 g2 KA BW
  have a0 := KA2.out.cell 0
  have a1 := KA2.out.cell 1
  simp only [List.getElem?_cons_zero, List.getElem?_cons_succ] at a0 a1
  go_wp2_with fail
  refine (markNoteS_none _ _).mono ?_
  rintro e w3 ⟨rfl, b3⟩
  have O3 := Lib.hid (row_grown (r := none) O2.out (below_grown b3 none) (fun g e => by cases e))
  have G3 := Lib.hid (grown_then GG.out (below_grown b3 none) (fun g e => by cases e))
  clear b3 a0 a1
  go_wp2_with fail
  go_ret
  exact ⟨rfl, O3.out, G3.out⟩

set_option maxRecDepth 100000 in
set_option maxHeartbeats 3200000 in
theorem heldWorld_none (k : Int) (h0 : 0 ≤ k) (w : World) : Calls Try.prog 72 #[.agg #[.slice none 0 0, .slice none 0 0], .int .i64 k] w fun e w' => e = .returned (.int .i64 k) ∧ Below w.heap.size w w' := by
  have BW := Lib.hid (Below.refl w.heap.size w)
  go_enter Try.func72, Try.ntmps72
  have kA := Blk.new w #[.slice none 0 0, .slice none 0 0] 81
  have ba := (Below.refl w.heap.size w).alloc (Nat.le_refl _) (.cells #[.slice none 0 0, .slice none 0 0] 81)
  obtain ⟨pA, hpA⟩ : ∃ p, p = w.heap.size := ⟨_, rfl⟩
  go_upto_region 1 with (fail)
  rw [← hpA] at kA
  try rw [← hpA]
  obtain ⟨w1, hW⟩ : ∃ W, W = w.alloc (.cells #[.slice none 0 0, .slice none 0 0] 81) := ⟨_, rfl⟩
  rw [← hW] at ba kA ⊢
  have KA := Lib.hid kA
  have GA := Lib.hid (show w.heap.size ≤ pA by omega)
  replace BW := Lib.hid (BW.out.trans ((ba).mono BW.out.size))
  clear ba hW kA hpA
  have a0 := KA.out.cell 0
  have a1 := KA.out.cell 1
  simp only [List.getElem?_cons_zero, List.getElem?_cons_succ] at a0 a1
  go_wp2_with fail
  refine (heldHouseS_none _ _).mono ?_
  rintro e w2 ⟨rfl, b⟩
  clear a0 a1
  replace BW := Lib.hid (BW.out.trans ((b).mono BW.out.size))
  replace KA := Lib.hid (KA.out.below (b) KA.out.lt)
  clear b
  have a0 := KA.out.cell 0
  have a1 := KA.out.cell 1
  simp only [List.getElem?_cons_zero, List.getElem?_cons_succ] at a0 a1
  go_wp2_with fail
  refine (heldNoteS_none _ _).mono ?_
  rintro e w3 ⟨rfl, b⟩
  clear a0 a1
  replace BW := Lib.hid (BW.out.trans ((b).mono BW.out.size))
  replace KA := Lib.hid (KA.out.below (b) KA.out.lt)
  clear b
  go_wp2_with fail
  go_ret
  exact ⟨rfl, BW.out⟩

set_option maxRecDepth 100000 in
set_option maxHeartbeats 3200000 in
theorem heldWorld_some (g cap n : Nat) (k : Int) (w : World) (hk : 0 < k) (hs : k + 4 * n ≤ 4000000000) (h : HRow w g n cap (mkN k n)) : Calls Try.prog 72 #[.agg #[.slice (some ⟨g, 0, none⟩) n cap, .slice none 0 0], .int .i64 k] w fun e w' => e = .returned (.int .i64 (k + 4 * n)) ∧ Below w.heap.size w w' := by
  have ES := Lib.hid (fun W (hW : Below w.heap.size w W) => heldHouseS_any g cap n k W hk hs (h.below hW))
  clear h
  have BW := Lib.hid (Below.refl w.heap.size w)
  go_enter Try.func72, Try.ntmps72
  have kA := Blk.new w #[.slice (some ⟨g, 0, none⟩) n cap, .slice none 0 0] 81
  have ba := (Below.refl w.heap.size w).alloc (Nat.le_refl _) (.cells #[.slice (some ⟨g, 0, none⟩) n cap, .slice none 0 0] 81)
  obtain ⟨pA, hpA⟩ : ∃ p, p = w.heap.size := ⟨_, rfl⟩
  go_upto_region 1 with (fail)
  rw [← hpA] at kA
  try rw [← hpA]
  obtain ⟨w1, hW⟩ : ∃ W, W = w.alloc (.cells #[.slice (some ⟨g, 0, none⟩) n cap, .slice none 0 0] 81) := ⟨_, rfl⟩
  rw [← hW] at ba kA ⊢
  have KA := Lib.hid kA
  have GA := Lib.hid (show w.heap.size ≤ pA by omega)
  replace BW := Lib.hid (BW.out.trans ((ba).mono BW.out.size))
  clear ba hW kA hpA
  have a0 := KA.out.cell 0
  have a1 := KA.out.cell 1
  simp only [List.getElem?_cons_zero, List.getElem?_cons_succ] at a0 a1
  go_wp2_with fail
  refine (ES.out _ BW.out).mono ?_
  rintro e w2 ⟨rfl, b⟩
  clear a0 a1
  replace BW := Lib.hid (BW.out.trans ((b).mono BW.out.size))
  replace KA := Lib.hid (KA.out.below (b) KA.out.lt)
  clear b
  have a0 := KA.out.cell 0
  have a1 := KA.out.cell 1
  simp only [List.getElem?_cons_zero, List.getElem?_cons_succ] at a0 a1
  go_wp2_with fail
  refine (heldNoteS_none _ _).mono ?_
  rintro e w3 ⟨rfl, b⟩
  clear a0 a1
  replace BW := Lib.hid (BW.out.trans ((b).mono BW.out.size))
  replace KA := Lib.hid (KA.out.below (b) KA.out.lt)
  clear b
  go_wp2_with fail
  go_ret
  exact ⟨rfl, BW.out⟩
end Go.Proofs.Ytjjgigoehgabkaa
