/- slices.Insert of one act into a row of one's own: there is room, ahead of another one. -/
import Derived.Test.YtjmefifdofgncaaUA
import Derived.WalkKit
import Derived.BigQuiet
import Derived.Deep.DeepCutAuto
namespace Go.Proofs.Ytjmefifdofgncaa
open Go.RowKit
set_option linter.unusedVariables false
set_option linter.unusedSimpArgs false

theorem va_take (ts : List ActT) (i : Nat) : (va ts).take (i * 11) = va (ts.take i) := by
  induction ts generalizing i with
  | nil => simp [va]
  | cons t ts ih =>
    cases i with
    | zero => simp [va]
    | succ i =>
      have h : va (t :: ts) = t.cells ++ va ts := rfl
      have h2 : va ((t :: ts).take (i + 1)) = t.cells ++ va (ts.take i) := rfl
      rw [h, h2, show (i + 1) * 11 = t.cells.length + i * 11 by simp [ActT.cells]; omega, List.take_length_add_append, ih]
theorem va_drop (ts : List ActT) (i : Nat) : (va ts).drop (i * 11) = va (ts.drop i) := by
  induction ts generalizing i with
  | nil => simp [va]
  | cons t ts ih =>
    cases i with
    | zero => simp [va]
    | succ i =>
      have h : va (t :: ts) = t.cells ++ va ts := rfl
      have h2 : va ((t :: ts).drop (i + 1)) = va (ts.drop i) := rfl
      rw [h, h2, show (i + 1) * 11 = t.cells.length + i * 11 by simp [ActT.cells]; omega, List.drop_length_add_append, ih]

set_option maxRecDepth 100000 in
set_option maxHeartbeats 6400000 in
theorem insert_room (lo g B n cap i : Nat) (cur : Array Value) (ts : List ActT) (t : ActT) (w : World) (hn : ts.length = n) (hi : i < n) (hroom : n + 1 ≤ cap) (hcap : cap ≤ maxLen) (hlo : lo ≤ g)
    (hg : w.heap[g]? = some (.cells cur 42 (0, 0))) (hs : cur.size = cap * 11) (hc : cur.toList.take (n * 11) = va ts) (hB : w.heap[B]? = some (.cells t.cells.toArray 42 (0, 0))) (hBg : B ≠ g)
    (h1 : ∀ u ∈ va ts, u.oneCell' = true) (h2 : ∀ u ∈ t.cells, u.oneCell' = true) :
    Calls Try.prog 133 #[.slice (some ⟨g, 0, none⟩) n cap, .int .i64 i, .slice (some ⟨B, 0, none⟩) 1 1] w fun e w' =>
      ∃ v, e = .returned v ∧ v.ownBlock = some g ∧ w'.ownsRow lo 42 11 v (n + 1) (va (ts.take i ++ t :: ts.drop i)) ∧ w.grownBy w' (some g) := by
  obtain ⟨i2, hii, hz0, hz1, hz2⟩ := info_parts Try.infoAct
  have hmx : cap ≤ 9223372036854775807 := hcap
  have hov : ∀ lb cb, (callFunc 152 #[.slice (some ⟨B, 0, none⟩) 1 1, .slice (some ⟨g, (i + 1) * 11, none⟩) lb cb]).run Try.prog w = .ok (.value (.bool false)) w := fun lb cb => by
    rw [run_callFunc_extern Try.func152 (by kernel_rfl) (by kernel_rfl) (by kernel_rfl) (e := Extern.SlicesOverlaps.overlaps #[25, 25] #[4]) (by kernel_rfl),
      Lib.run_overlaps_apart w 25 4 42 Try.underlying25 11 (Try.sizeOf42) ⟨B, 0, none⟩ ⟨g, (i + 1) * 11, none⟩ 1 1 lb cb hBg 42 42 11 (cap * 11)
        (by simp [World.shape?, hB, ActT.cells]) (by simp [World.shape?, hg, hs]) (by omega) (by simp [World.frozen?, hB]) (by simp [World.frozen?, hB])]
    rfl
  have hA : (va (ts.take i)).length = i * 11 := by rw [va_length, List.length_take]; congr 1; omega
  have hD : (va (ts.drop i)).length = (n - i) * 11 := by rw [va_length, List.length_drop, hn]
  have hT : t.cells.length = 11 := rfl
  have hX : va ts = va (ts.take i) ++ va (ts.drop i) := by rw [← va_take, ← va_drop, List.take_append_drop]
  have hcl : cur.toList.length = cap * 11 := by simpa using hs
  obtain ⟨R1, R2, hR, hR1⟩ : ∃ R1 R2, cur.toList = va (ts.take i) ++ va (ts.drop i) ++ R1 ++ R2 ∧ R1.length = t.cells.length := by
    refine ⟨(cur.toList.drop (n * 11)).take 11, (cur.toList.drop (n * 11)).drop 11, ?_, ?_⟩
    · rw [← hX, ← hc, List.append_assoc, List.take_append_drop, List.take_append_drop]
    · rw [List.length_take, List.length_drop, hcl, hT]
      omega
  have hR2 : R2.length = cap * 11 - (n + 1) * 11 := by
    have := hcl
    rw [hR] at this
    simp only [List.length_append, hA, hD, hR1, hT] at this
    have : i * 11 + (n - i) * 11 = n * 11 := by rw [← Nat.add_mul]; congr 1; omega
    omega
  obtain ⟨c1, hc1⟩ : ∃ c1, c1 = cur.toList.take (i * 11 + 11) ++ va (ts.drop i) ++ cur.toList.drop (i * 11 + 11 + (va (ts.drop i)).length) := ⟨_, rfl⟩
  have hins := ins_room (va (ts.take i)) (va (ts.drop i)) t.cells R1 R2 _ rfl hR1
  simp only at hins
  rw [← hR, hA, hT, ← hc1] at hins
  have hcp1 : ∀ ty dc sc, (Builtin.copy_ #[25, 25] ty #[.slice (some ⟨g, (i + 1) * 11, none⟩) (n + 1 - (i + 1)) dc, .slice (some ⟨g, i * 11, none⟩) (n + 1 - i) sc]).run Try.prog w.drew = .ok (goInt ((n - i : Nat) : Int)) (w.drew.setRow g c1.toArray) := fun ty dc sc => by
    have h := run_copy_k (P := Try.prog) w.drew 25 25 ty 42 g ((i + 1) * 11) (n + 1 - (i + 1)) dc ⟨g, i * 11, none⟩ (n + 1 - i) sc cur 42 (va (ts.drop i)) i2 11 (n - i) Try.underlying25 hii hz1 hg (by simp only [Nat.min_def]; split <;> omega) hD
      (fun j v hj => by
        have hjl : j < (va (ts.drop i)).length := (List.getElem?_eq_some_iff.1 hj).1
        rw [Addr.add_lit]
        show World.cell? w _ = _
        rw [cell_of_row w g (i * 11 + j) cur _ _ hg, ← Array.getElem?_toList, hR, List.append_assoc, List.append_assoc, List.getElem?_append_right (by rw [hA]; omega), hA, show i * 11 + j - i * 11 = j by omega, List.getElem?_append_left hjl]
        exact hj)
      (by rw [hD, hs]; have : (i + 1) * 11 + (n - i) * 11 = (n + 1) * 11 := by rw [← Nat.add_mul]; congr 1; omega
          rw [this]; exact Nat.mul_le_mul_right 11 hroom) (fun u hu => h1 u (by rw [hX]; exact List.mem_append_right _ hu))
    rw [h, hc1, show (i + 1) * 11 = i * 11 + 11 by omega]
  have hc1l : c1.length = cap * 11 := by
    have h9 : i * 11 + (n - i) * 11 = n * 11 := by rw [← Nat.add_mul]; congr 1; omega
    rw [hc1]
    simp only [List.length_append, List.length_take, List.length_drop, hcl, hD]
    have : n * 11 + 11 ≤ cap * 11 := by rw [← Nat.succ_mul]; exact Nat.mul_le_mul_right 11 hroom
    omega
  have hg1 : (w.drew.setRow g c1.toArray).heap[g]? = some (.cells c1.toArray 42 (0, 0)) := setRow_heap w.drew g cur _ _ _ hg
  have hcp2 : ∀ (W : World), W.heap = (w.drew.setRow g c1.toArray).heap → ∀ ty dc, (Builtin.copy_ #[25, 25] ty #[.slice (some ⟨g, i * 11, none⟩) (n + 1 - i) dc, .slice (some ⟨B, 0, none⟩) 1 1]).run Try.prog W = .ok (goInt ((1 : Nat) : Int)) (W.setRow g (va (ts.take i) ++ t.cells ++ va (ts.drop i) ++ R2).toArray) := fun W hW ty dc => by
    have h := run_copy_k (P := Try.prog) W 25 25 ty 42 g (i * 11) (n + 1 - i) dc ⟨B, 0, none⟩ 1 1 c1.toArray 42 t.cells i2 11 1 Try.underlying25 hii hz1 (by rw [hW]; exact hg1) (by simp only [Nat.min_def]; split <;> omega) (by rw [hT])
      (fun j v hj => by
        rw [Addr.add_lit, Nat.zero_add, cell_of_row W B j t.cells.toArray _ _ (by rw [hW, setRow_other _ _ _ _ hBg]; exact hB)]
        simpa using hj)
      (by rw [hT]; simp only [List.size_toArray, hc1l]; have : n * 11 + 11 ≤ cap * 11 := by rw [← Nat.succ_mul]; exact Nat.mul_le_mul_right 11 hroom
          have : i * 11 + 11 ≤ n * 11 := by rw [← Nat.succ_mul]; exact Nat.mul_le_mul_right 11 hi
          omega) h2
    rw [h]
    simp only [hT, hins]
  have hn2 : IntKind.i64.wrap ((n : Int) + 1) = (n : Int) + 1 := by rw [IntKind.wrap_i64]; omega
  have hi2 : IntKind.i64.wrap ((i : Int) + 1) = (i : Int) + 1 := by rw [IntKind.wrap_i64]; omega
  have q1 : ¬ ((i : Int) = (n : Int)) := by omega
  have q2 : ¬ ((cap : Int) < (n : Int) + 1) := by omega
  have q3 : ((i : Int) + 1).toNat = i + 1 := by omega
  have q4 : ((n : Int) + 1).toNat = n + 1 := by omega
  have q5 : ¬ (cap = i + 1) := by omega
  have q6 : ¬ (cap = i) := by omega
  have q7 : (i : Int) ≤ (n : Int) := by omega
  have q8 : (i : Int) ≤ (n : Int) + 1 := by omega
  have q9 : (i : Int) + 1 ≤ (n : Int) + 1 := by omega
  have q10 : (0 : Int) ≤ (i : Int) + 1 := by omega
  have q11 : (n : Int) + 1 ≤ (cap : Int) := by omega
  have q12 : (0 : Int) ≤ (n : Int) + 1 := by omega
  have HFIN : Hid (∀ W : World, W.heap = (w.drew.setRow g c1.toArray).heap → W.os = w.os → W.tape = w.tape → W.output = w.output → (W.setRow g (va (ts.take i) ++ t.cells ++ va (ts.drop i) ++ R2).toArray).ownsRow lo 42 11 (.slice (some ⟨g, 0, none⟩) (n + 1) cap) (n + 1) (va (ts.take i ++ t :: ts.drop i)) ∧ w.grownBy (W.setRow g (va (ts.take i) ++ t.cells ++ va (ts.drop i) ++ R2).toArray) (some g)) := by
    intro W hW h1 h2 h3
    have e1 : va (ts.take i ++ t :: ts.drop i) = va (ts.take i) ++ t.cells ++ va (ts.drop i) := by simp [va]
    have e2 : (va (ts.take i) ++ t.cells ++ va (ts.drop i)).length = (n + 1) * 11 := by
      have h9 : i * 11 + (n - i) * 11 = n * 11 := by rw [← Nat.add_mul]; congr 1; omega
      simp only [List.length_append, hA, hT, hD]
      omega
    refine ⟨set_owned (setRow_heap W g c1.toArray _ _ _ (by rw [hW]; exact hg1)) lo hlo hroom hcap ?_ (by rw [e1]; exact e2) ?_, ?_⟩
    · simp only [List.size_toArray, List.length_append, e2, hR2]
      have : (n + 1) * 11 ≤ cap * 11 := Nat.mul_le_mul_right 11 hroom
      omega
    · simp only
      rw [e1, ← e2, List.take_left]
    · refine ⟨h1, h2, h3, by simp [hW], fun k hk hn => ?_⟩
      have hkg : k ≠ g := fun e => hn (by rw [e])
      rw [setRow_other _ _ _ _ hkg, hW, setRow_other _ _ _ _ hkg]
      rfl
  clear hc hs hcl hR hR1 hR2 hX hA hD hT hins hc1 hc1l hg1 h1 h2
  go_enter Try.func133, Try.ntmps133
  go_wp2_with (simp only [hov])
  refine wp_region_held_drew (S := fun _ => True) (by kernel_rfl) (trivial) (fun hHeld => ?_)
  refine held_take (i := 0) (d := some 69) (v := ?_) rfl (by kernel_rfl) (by kernel_rfl) (by kernel_rfl) (by kernel_rfl) (fun _ _ _ h => h) (by kernel_rfl) ?_ hHeld ?_
  rotate_left
  · intro w' hSw
    go_simp
    first | done | with_reducible rfl
  simp only [Act.put, List.setIfInBounds_toArray, List.set_cons_zero, List.set_cons_succ]
  refine held_take (i := 1) (d := some 70) (v := ?_) rfl (by kernel_rfl) (by kernel_rfl) (by kernel_rfl) (by kernel_rfl) (fun _ _ _ h => h) (by kernel_rfl) ?_ hHeld ?_
  rotate_left
  · intro w' hSw
    go_simp
    first | done | with_reducible rfl
  simp only [Act.put, List.setIfInBounds_toArray, List.set_cons_zero, List.set_cons_succ]
  refine held_take (i := 2) (d := some 71) (v := ?_) rfl (by kernel_rfl) (by kernel_rfl) (by kernel_rfl) (by kernel_rfl) (fun _ _ _ h => h) (by kernel_rfl) ?_ hHeld ?_
  rotate_left
  · intro w' hSw
    go_simp
    first | done | with_reducible rfl
  simp only [Act.put, List.setIfInBounds_toArray, List.set_cons_zero, List.set_cons_succ]
  refine held_take (i := 3) (d := some 72) (v := ?_) rfl (by kernel_rfl) (by kernel_rfl) (by kernel_rfl) (by kernel_rfl) (fun _ _ _ h => h) (by kernel_rfl) ?_ hHeld ?_
  rotate_left
  · intro w' hSw
    go_simp
    first | done | with_reducible rfl
  simp only [Act.put, List.setIfInBounds_toArray, List.set_cons_zero, List.set_cons_succ]
  refine held_take (i := 4) (d := some 73) (v := ?_) rfl (by kernel_rfl) (by kernel_rfl) (by kernel_rfl) (by kernel_rfl) (fun _ _ _ h => h) (by kernel_rfl) ?_ hHeld ?_
  rotate_left
  · intro w' hSw
    go_simp
    first | done | with_reducible rfl
  simp only [Act.put, List.setIfInBounds_toArray, List.set_cons_zero, List.set_cons_succ]
  refine held_take (i := 5) (d := some 74) (v := ?_) rfl (by kernel_rfl) (by kernel_rfl) (by kernel_rfl) (by kernel_rfl) (fun _ _ _ h => h) (by kernel_rfl) ?_ hHeld ?_
  rotate_left
  · intro w' hSw
    go_simp
    first | done | with_reducible rfl
  simp only [Act.put, List.setIfInBounds_toArray, List.set_cons_zero, List.set_cons_succ]
  refine held_take (i := 6) (d := some 75) (v := ?_) rfl (by kernel_rfl) (by kernel_rfl) (by kernel_rfl) (by kernel_rfl) (fun _ _ _ h => h) (by kernel_rfl) ?_ hHeld ?_
  rotate_left
  · intro w' hSw
    go_simp
    first | done | with_reducible rfl
  simp only [Act.put, List.setIfInBounds_toArray, List.set_cons_zero, List.set_cons_succ]
  refine held_take (i := 7) (d := some 76) (v := ?_) rfl (by kernel_rfl) (by kernel_rfl) (by kernel_rfl) (by kernel_rfl) (fun _ _ _ h => h) (by kernel_rfl) ?_ hHeld ?_
  rotate_left
  · intro w' hSw
    go_simp
    first | done | with_reducible rfl
  simp only [Act.put, List.setIfInBounds_toArray, List.set_cons_zero, List.set_cons_succ]
  refine wpAnyH_ready (rs := [8]) (by kernel_rfl) (by simp) ?_
  refine AllReadyH.cons rfl (fun K hK => ?_) AllReadyH.nil
  refine step_copy_is rfl _ _ 25 25 rfl _ _ (by simp [Act.eval]; done) (by simp [Act.eval]; done) (hcp1 _ (cap - (i + 1)) (cap - i)) ?_
  refine hK.out _ _ trivial (fun hHeld => ?_)
  clear hK K
  try simp only [Act.put, List.setIfInBounds_toArray, List.set_cons_zero, List.set_cons_succ]
  refine wpAnyH_done (by kernel_rfl) ?_ _
  go_wp2_with (at_builtin; refine wpList_copy_is _ rfl _ _ 25 25 rfl _ _ rfl rfl (hcp2 _ rfl _ _) ?_)
  go_ret
  obtain ⟨f1, f2⟩ := HFIN.out (w.drew.setRow g c1.toArray) rfl rfl rfl rfl
  simp only [List.append_assoc] at f1 f2
  exact ⟨_, rfl, rfl, f1, f2⟩
end Go.Proofs.Ytjmefifdofgncaa
