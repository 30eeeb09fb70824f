/- slices.Insert of one act into a row of one's own: at the end; where there is no room. -/
import Derived.Test.YtjmefifdofgncaaUB
namespace Go.Proofs.Ytjmefifdofgncaa
open Go.RowKit
set_option linter.unusedVariables false
set_option linter.unusedSimpArgs false

theorem src_blk {w : World} {B : Nat} {cs : List Value} {e : TypeId} (size : Nat) (hB : w.heap[B]? = some (.cells cs.toArray e (0, 0))) (hl : cs.length = size) : Src w size (.slice (some ⟨B, 0, none⟩) 1 1) 1 cs :=
  .inr ⟨_, _, rfl, by simpa using hl, fun j u hu => by
    rw [add_flat, Nat.zero_add, cell_of_row w B j cs.toArray _ _ hB]
    simpa using hu⟩

set_option maxRecDepth 100000 in
set_option maxHeartbeats 6400000 in
theorem insert_end (lo B n : Nat) (v : Value) (ts : List ActT) (t : ActT) (w : World) (hn : ts.length = n) (hmx : n ≤ 1048576) (hlo : lo ≤ w.heap.size) (ho : w.ownsRow lo 42 11 v n (va ts))
    (hB : w.heap[B]? = some (.cells t.cells.toArray 42 (0, 0))) (h2 : ∀ u ∈ t.cells, u.oneCell' = true) :
    Calls Try.prog 133 #[v, .int .i64 n, .slice (some ⟨B, 0, none⟩) 1 1] w fun e w' =>
      ∃ v', e = .returned v' ∧ w'.ownsRow lo 42 11 v' (n + 1) (va (ts ++ [t])) ∧ w.grownBy w' v.ownBlock := by
  obtain ⟨i2, hii, hz0, hz1, hz2⟩ := info_parts Try.infoAct
  have SR := Lib.hid (src_blk (e := 42) 11 hB rfl)
  have HO := Lib.hid ho
  have H2 := Lib.hid h2
  have HM1 : Hid (n + 1 ≤ maxLen) := by show _ ≤ _; unfold maxLen; omega
  have HM2 : Hid ((n + 1) * 120 ≤ 140737488355328) := by show _ ≤ _; omega
  have hv := ho.2
  have q0 : (n : Int) ≤ 9223372036854775807 := by omega
  clear ho hB h2
  rcases hv with ⟨rfl, rfl⟩ | ⟨g, cap, cur, rfl, hg, hh, hnc, hcm, hcs, hct⟩
  · go_enter Try.func133, Try.ntmps133
    go_wp2_with (at_builtin; refine wpList_app rfl (.tmp 23) (.tmp 24) 25 rfl lo 42 i2 _ 11 120 Try.underlying25 hii hz0 hz1 hz2 rfl (by decide) (.slice none 0 0) (.slice (some ⟨B, 0, none⟩) 1 1) 0 1 (va ts) t.cells rfl rfl HO.out SR.out H2.out HM1.out HM2.out hlo ?_)
    intro v2 w2 hown2 hgrow2 _
    have G2 := Lib.hid hgrow2
    have O2 : Hid (w2.ownsRow lo 42 11 v2 (0 + 1) (va (ts ++ [t]))) := Lib.hid (by rw [show va (ts ++ [t]) = va ts ++ t.cells by simp [va]]; exact hown2)
    clear hown2 hgrow2
    go_wp2
    go_ret
    exact ⟨_, rfl, O2.out, G2.out⟩
  · have hcap : n ≤ cap := hnc
    have hcm2 : cap ≤ 9223372036854775807 := hcm
    clear hh hcs hct hcm hg
    by_cases hcn : cap = n
    all_goals
      go_enter Try.func133, Try.ntmps133
      go_wp2_with (at_builtin; refine wpList_app rfl (.tmp 23) (.tmp 24) 25 rfl lo 42 i2 _ 11 120 Try.underlying25 hii hz0 hz1 hz2 rfl (by decide) (.slice (some ⟨g, 0, none⟩) n cap) (.slice (some ⟨B, 0, none⟩) 1 1) n 1 (va ts) t.cells rfl rfl HO.out SR.out H2.out HM1.out HM2.out hlo ?_)
      intro v2 w2 hown2 hgrow2 _
      have G2 := Lib.hid hgrow2
      have O2 : Hid (w2.ownsRow lo 42 11 v2 (n + 1) (va (ts ++ [t]))) := Lib.hid (by rw [show va (ts ++ [t]) = va ts ++ t.cells by simp [va]]; exact hown2)
      clear hown2 hgrow2
      go_wp2
      go_ret
      exact ⟨_, rfl, O2.out, G2.out⟩

set_option maxRecDepth 100000 in
set_option maxHeartbeats 6400000 in
theorem insert_grow (lo g B n cap i : Nat) (cur : Array Value) (ts : List ActT) (t : ActT) (w : World) (hn : ts.length = n) (hi : i < n) (hnc : n ≤ cap) (hroom : cap < n + 1) (hmx : n ≤ 1048576) (hlo : lo ≤ w.heap.size)
    (hg : w.heap[g]? = some (.cells cur 42 (0, 0))) (hs : cur.size = cap * 11) (hc : cur.toList.take (n * 11) = va ts) (hB : w.heap[B]? = some (.cells t.cells.toArray 42 (0, 0)))
    (h1 : ∀ u ∈ va ts, u.oneCell' = true) (h2 : ∀ u ∈ t.cells, u.oneCell' = true) :
    Calls Try.prog 133 #[.slice (some ⟨g, 0, none⟩) n cap, .int .i64 i, .slice (some ⟨B, 0, none⟩) 1 1] w fun e w' =>
      ∃ v, e = .returned v ∧ w'.ownsRow lo 42 11 v (n + 1) (va (ts.take i ++ t :: ts.drop i)) ∧ w.grownBy w' (some g) := by
  obtain ⟨i2, hii, hz0, hz1, hz2⟩ := info_parts Try.infoAct
  obtain ⟨G, hG⟩ : ∃ G, G = grownCap w (n + 1) cap 42 := ⟨_, rfl⟩
  have hGn : n + 1 ≤ G := by rw [hG]; exact grownCap_ge w _ _ _
  have hG63 : G ≤ maxLen := by rw [hG]; exact grownCap_le_maxLen w (n + 1) cap 42 (by unfold maxLen; omega)
  have hG64 : G ≤ 9223372036854775807 := hG63
  have hgl : g < w.heap.size := (Array.getElem?_eq_some_iff.1 hg).1
  have hBl : B < w.heap.size := (Array.getElem?_eq_some_iff.1 hB).1
  have hA : (va (ts.take i)).length = i * 11 := by rw [va_length, List.length_take]; congr 1; omega
  have hD : (va (ts.drop i)).length = (n - i) * 11 := by rw [va_length, List.length_drop, hn]
  have hT : t.cells.length = 11 := rfl
  have hX : va ts = va (ts.take i) ++ va (ts.drop i) := by rw [← va_take, ← va_drop, List.take_append_drop]
  have hcl : cur.toList.length = cap * 11 := by simpa using hs
  have hcell : ∀ j v, (va ts)[j]? = some v → w.cell? ⟨g, j, none⟩ = some v := fun j v hj => by
    have hjl : j < n * 11 := by have := (List.getElem?_eq_some_iff.1 hj).1; rw [va_length, hn] at this; exact this
    rw [cell_of_row w g j cur _ _ hg, ← Array.getElem?_toList]
    rw [← hc, List.getElem?_take, if_pos hjl] at hj
    exact hj
  -- the new row
  obtain ⟨Z1, hZ1⟩ : ∃ Z : List Value, Z = (Builtin.zeroCells (Value.agg #[.int .i64 0, .int .i64 0, .slice none 0 0, .int .i64 0, .int .i64 0, .int .i64 0, .int .i64 0, .int .i64 0, .int .i64 0, .int .i64 0, .slice none 0 0]).cells (n + 1 - i)).toList := ⟨_, rfl⟩
  obtain ⟨Z2, hZ2⟩ : ∃ Z : List Value, Z = (Builtin.zeroCells (Value.agg #[.int .i64 0, .int .i64 0, .slice none 0 0, .int .i64 0, .int .i64 0, .int .i64 0, .int .i64 0, .int .i64 0, .int .i64 0, .int .i64 0, .slice none 0 0]).cells (G - (n + 1))).toList := ⟨_, rfl⟩
  have hzl : ∀ k, (Builtin.zeroCells (Value.agg #[.int .i64 0, .int .i64 0, .slice none 0 0, .int .i64 0, .int .i64 0, .int .i64 0, .int .i64 0, .int .i64 0, .int .i64 0, .int .i64 0, .slice none 0 0]).cells k).size = k * 11 := fun k => by
    simp [Builtin.zeroCells, Value.cells]
  have hZ1l : Z1.length = t.cells.length + (va (ts.drop i)).length := by
    rw [hZ1, Array.length_toList, hzl, hT, hD]
    have : n + 1 - i = 1 + (n - i) := by omega
    rw [this, Nat.add_mul]
  have hZ2l : Z2.length = (G - (n + 1)) * 11 := by rw [hZ2, Array.length_toList, hzl]
  have hold : (Builtin.firstCells i2.size i (.slice (some ⟨g, 0, none⟩) i cap)).run Try.prog w.drew = .ok (va (ts.take i)).toArray w.drew := by
    rw [hz1]
    exact run_firstCells_some w.drew 11 i ⟨g, 0, none⟩ i cap (va (ts.take i)) (by rw [hA]) (fun j v hj => by
      rw [Addr.add_lit, Nat.zero_add]
      have hjl : j < (va (ts.take i)).length := (List.getElem?_eq_some_iff.1 hj).1
      exact hcell j v (by rw [hX, List.getElem?_append_left hjl]; exact hj))
  have hkk : (n : Int) + 1 - (i : Int) = ((n + 1 - i : Nat) : Int) := by omega
  have hik : i + (n + 1 - i) = n + 1 := by omega
  obtain ⟨ROW, hROW⟩ : ∃ ROW : Array Value, ROW = (va (ts.take i)).toArray ++ Builtin.zeroCells (Value.agg #[.int .i64 0, .int .i64 0, .slice none 0 0, .int .i64 0, .int .i64 0, .int .i64 0, .int .i64 0, .int .i64 0, .int .i64 0, .int .i64 0, .slice none 0 0]).cells (n + 1 - i) ++ Builtin.zeroCells (Value.agg #[.int .i64 0, .int .i64 0, .slice none 0 0, .int .i64 0, .int .i64 0, .int .i64 0, .int .i64 0, .int .i64 0, .int .i64 0, .int .i64 0, .slice none 0 0]).cells (G - (n + 1)) := ⟨_, rfl⟩
  have hRL : ROW.toList = va (ts.take i) ++ Z1 ++ Z2 := by rw [hROW, hZ1, hZ2]; simp
  have hrz : ∀ ty, (Builtin.append_ #[25, 3] ty #[.slice (some ⟨g, 0, none⟩) i cap, .int .i64 ((n : Int) + 1 - (i : Int))]).run Try.prog w = .ok (.slice (some ⟨w.heap.size, 0, none⟩) (n + 1) G) (w.drew.alloc (.cells ROW 42)) := fun ty => by
    have h := Lib.run_append_grow_zeros (P := Try.prog) w 25 3 ty 42 i2 _ .i64 .i64 Try.underlying25 Try.underlying3 hii hz0 (some ⟨g, 0, none⟩) i cap (va (ts.take i)) hold (n + 1 - i) (by omega) (by rw [hz1]; decide) (by omega) (by omega) (by rw [hz2]; omega) (by rw [hz2, hik]; exact growslice_fits hroom (by omega))
    rw [hik, ← hG, ← hROW] at h
    rw [hkk]
    exact h
  obtain ⟨H, hH⟩ : ∃ H, H = w.heap.size := ⟨_, rfl⟩
  have hgH : (w.drew.alloc (.cells ROW 42)).heap[H]? = some (.cells ROW 42 (0, 0)) := by
    rw [hH]
    show (w.drew.alloc (.cells ROW 42)).heap[w.drew.heap.size]? = _
    rw [World.alloc]
    exact Array.getElem?_push_size
  have hold' : ∀ b, b < H → (w.drew.alloc (.cells ROW 42)).heap[b]? = w.heap[b]? := fun b hb => by rw [hH] at hb; exact Below.heap_alloc w.drew _ b hb
  have hROWl : ROW.size = G * 11 := by
    rw [← Array.length_toList, hRL]
    simp only [List.length_append, hA, hZ1l, hZ2l, hT, hD]
    have : i * 11 + (n - i) * 11 = n * 11 := by rw [← Nat.add_mul]; congr 1; omega
    have : n * 11 + 11 ≤ G * 11 := by rw [← Nat.succ_mul]; exact Nat.mul_le_mul_right 11 hGn
    rw [Nat.sub_mul]
    omega
  obtain ⟨c1, hc1⟩ : ∃ c1, c1 = ROW.toList.take (i * 11) ++ t.cells ++ ROW.toList.drop (i * 11 + 11) := ⟨_, rfl⟩
  have hins := ins_grow (va (ts.take i)) (va (ts.drop i)) t.cells Z1 Z2 hZ1l
  simp only at hins
  rw [← hRL, hA, hT, ← hc1] at hins
  have hn11 : n * 11 + 11 ≤ G * 11 := by rw [← Nat.succ_mul]; exact Nat.mul_le_mul_right 11 hGn
  have hi11 : i * 11 + 11 ≤ n * 11 := by rw [← Nat.succ_mul]; exact Nat.mul_le_mul_right 11 hi
  have hc1l : c1.length = G * 11 := by
    rw [hc1]
    simp only [List.length_append, List.length_take, List.length_drop, Array.length_toList, hROWl, hT]
    omega
  have hcpA : ∀ (W : World), W.heap = (w.drew.alloc (.cells ROW 42)).heap → ∀ ty dc, (Builtin.copy_ #[25, 25] ty #[.slice (some ⟨H, i * 11, none⟩) (n + 1 - i) dc, .slice (some ⟨B, 0, none⟩) 1 1]).run Try.prog W = .ok (goInt ((1 : Nat) : Int)) (W.setRow H c1.toArray) := fun W hW ty dc => by
    have h := run_copy_k (P := Try.prog) W 25 25 ty 42 H (i * 11) (n + 1 - i) dc ⟨B, 0, none⟩ 1 1 ROW 42 t.cells i2 11 1 Try.underlying25 hii hz1 (by rw [hW]; exact hgH) (by simp only [Nat.min_def]; split <;> omega) (by rw [hT])
      (fun j v hj => by
        rw [Addr.add_lit, Nat.zero_add, cell_of_row W B j t.cells.toArray _ _ (by rw [hW, hold' B (by omega)]; exact hB)]
        simpa using hj)
      (by rw [hT, hROWl]; omega) h2
    rw [h, hT, hc1]
  have hcpB : ∀ (W : World), W.heap = ((w.drew.alloc (.cells ROW 42)).setRow H c1.toArray).heap → ∀ ty dc sc, (Builtin.copy_ #[25, 25] ty #[.slice (some ⟨H, (i + 1) * 11, none⟩) (n + 1 - (i + 1)) dc, .slice (some ⟨g, i * 11, none⟩) (n - i) sc]).run Try.prog W = .ok (goInt ((n - i : Nat) : Int)) (W.setRow H (va (ts.take i) ++ t.cells ++ va (ts.drop i) ++ Z2).toArray) := fun W hW ty dc sc => by
    have h := run_copy_k (P := Try.prog) W 25 25 ty 42 H ((i + 1) * 11) (n + 1 - (i + 1)) dc ⟨g, i * 11, none⟩ (n - i) sc c1.toArray 42 (va (ts.drop i)) i2 11 (n - i) Try.underlying25 hii hz1 (by rw [hW]; exact setRow_heap _ H ROW _ _ _ hgH) (by simp only [Nat.min_def]; split <;> omega) hD
      (fun j v hj => by
        rw [Addr.add_lit]
        have hgne : g ≠ H := by omega
        have : W.cell? ⟨g, i * 11 + j, none⟩ = w.cell? ⟨g, i * 11 + j, none⟩ := World.cell?_of_block (by rw [hW, setRow_other _ _ _ _ hgne, hold' g (by omega)])
        rw [this]
        exact hcell (i * 11 + j) v (by rw [hX, List.getElem?_append_right (by rw [hA]; omega), hA, show i * 11 + j - i * 11 = j by omega]; exact hj))
      (by rw [hD]; simp only [List.size_toArray, hc1l]; have : (i + 1) * 11 + (n - i) * 11 = (n + 1) * 11 := by rw [← Nat.add_mul]; congr 1; omega
          omega) (fun u hu => h1 u (by rw [hX]; exact List.mem_append_right _ hu))
    rw [h, show (i + 1) * 11 = i * 11 + 11 by omega]
    simp only [hins]
  have HFIN : Hid (∀ W : World, W.heap = ((w.drew.alloc (.cells ROW 42)).setRow H c1.toArray).heap → W.os = w.os → W.tape = w.tape → W.output = w.output → (W.setRow H (va (ts.take i) ++ t.cells ++ va (ts.drop i) ++ Z2).toArray).ownsRow lo 42 11 (.slice (some ⟨H, 0, none⟩) (n + 1) G) (n + 1) (va (ts.take i ++ t :: ts.drop i)) ∧ w.grownBy (W.setRow H (va (ts.take i) ++ t.cells ++ va (ts.drop i) ++ Z2).toArray) (some g)) := by
    intro W hW h1 h2 h3
    have e1 : va (ts.take i ++ t :: ts.drop i) = va (ts.take i) ++ t.cells ++ va (ts.drop i) := by simp [va]
    have e2 : (va (ts.take i) ++ t.cells ++ va (ts.drop i)).length = (n + 1) * 11 := by
      have h9 : i * 11 + (n - i) * 11 = n * 11 := by rw [← Nat.add_mul]; congr 1; omega
      simp only [List.length_append, hA, hT, hD]
      omega
    refine ⟨set_owned (setRow_heap W H c1.toArray _ _ _ (by rw [hW]; exact setRow_heap _ H ROW _ _ _ hgH)) lo (by omega) hGn hG63 ?_ (by rw [e1]; exact e2) ?_, ?_⟩
    · simp only [List.size_toArray, List.length_append, e2, hZ2l]
      rw [Nat.sub_mul]
      omega
    · simp only
      rw [e1, ← e2, List.take_left]
    · refine ⟨h1, h2, h3, ?_, fun k hk hn => ?_⟩
      · rw [size_setRow, hW, size_setRow, World.size_alloc]
        show w.heap.size ≤ w.heap.size + 1
        omega
      · have hkH : k ≠ H := by omega
        rw [setRow_other _ _ _ _ hkH, hW, setRow_other _ _ _ _ hkH, hold' k (by omega)]
  have hn2 : IntKind.i64.wrap ((n : Int) + 1) = (n : Int) + 1 := by rw [IntKind.wrap_i64]; omega
  have hi2 : IntKind.i64.wrap ((i : Int) + 1) = (i : Int) + 1 := by rw [IntKind.wrap_i64]; omega
  have hni : IntKind.i64.wrap ((n : Int) + 1 - (i : Int)) = (n : Int) + 1 - (i : Int) := by rw [IntKind.wrap_i64]; omega
  have q1 : ¬ ((i : Int) = (n : Int)) := by omega
  have q2 : (cap : Int) < (n : Int) + 1 := by omega
  have q3 : ((i : Int) + 1).toNat = i + 1 := by omega
  have q5 : ¬ (G = i + 1) := by omega
  have q6 : ¬ (cap = i) := by omega
  have q6' : ¬ (G = i) := by omega
  have q7 : (i : Int) ≤ (n : Int) := by omega
  have q8 : (i : Int) ≤ (n : Int) + 1 := by omega
  have q9 : (i : Int) + 1 ≤ (n : Int) + 1 := by omega
  have q10 : (0 : Int) ≤ (i : Int) + 1 := by omega
  have q11 : (i : Int) ≤ (cap : Int) := by omega
  rw [← hH] at hrz
  clear hc hs hcl hX hA hD hT hins hc1 hc1l hROWl hRL hROW hold hold' hcell hZ1l hZ2l hzl hZ1 hZ2 hgH h1 h2 hkk hG hH
  go_enter Try.func133, Try.ntmps133
  go_upto_region 10 with (at_builtin; refine Lib.wpList_append_run _ rfl _ _ _ _ rfl _ _ rfl rfl _ _ (hrz _) ?_)
  have hcA : ∀ ty, (Builtin.copy_ #[25, 25] ty #[.slice (some ⟨H, i * 11, none⟩) (n + 1 - i) (G - i), .slice (some ⟨B, 0, none⟩) 1 1]).run Try.prog (w.alloc (.cells ROW 42)).drew = .ok (goInt ((1 : Nat) : Int)) ((w.alloc (.cells ROW 42)).drew.setRow H c1.toArray) := fun ty => hcpA (w.alloc (.cells ROW 42)).drew rfl ty _
  clear hcpA
  go_wp2_with (at_builtin; refine wpList_copy_is _ rfl _ _ 25 25 rfl _ _ rfl rfl (hcA _) ?_)
  refine wp_region_held_drew (S := fun _ => True) (by kernel_rfl) (trivial) (fun hHeld => ?_)
  refine held_take (i := 0) (d := some 46) (v := ?_) rfl (by kernel_rfl) (by kernel_rfl) (by kernel_rfl) (by kernel_rfl) (fun _ _ _ h => h) (by kernel_rfl) ?_ hHeld ?_
  rotate_left
  · intro w' hSw
    go_simp
    first | done | with_reducible rfl
  simp only [Act.put, List.setIfInBounds_toArray, List.set_cons_zero, List.set_cons_succ]
  refine held_take (i := 1) (d := some 47) (v := ?_) rfl (by kernel_rfl) (by kernel_rfl) (by kernel_rfl) (by kernel_rfl) (fun _ _ _ h => h) (by kernel_rfl) ?_ hHeld ?_
  rotate_left
  · intro w' hSw
    go_simp
    first | done | with_reducible rfl
  simp only [Act.put, List.setIfInBounds_toArray, List.set_cons_zero, List.set_cons_succ]
  refine held_take (i := 2) (d := some 48) (v := ?_) rfl (by kernel_rfl) (by kernel_rfl) (by kernel_rfl) (by kernel_rfl) (fun _ _ _ h => h) (by kernel_rfl) ?_ hHeld ?_
  rotate_left
  · intro w' hSw
    go_simp
    first | done | with_reducible rfl
  simp only [Act.put, List.setIfInBounds_toArray, List.set_cons_zero, List.set_cons_succ]
  refine held_take (i := 3) (d := some 49) (v := ?_) rfl (by kernel_rfl) (by kernel_rfl) (by kernel_rfl) (by kernel_rfl) (fun _ _ _ h => h) (by kernel_rfl) ?_ hHeld ?_
  rotate_left
  · intro w' hSw
    go_simp
    first | done | with_reducible rfl
  simp only [Act.put, List.setIfInBounds_toArray, List.set_cons_zero, List.set_cons_succ]
  refine held_take (i := 4) (d := some 50) (v := ?_) rfl (by kernel_rfl) (by kernel_rfl) (by kernel_rfl) (by kernel_rfl) (fun _ _ _ h => h) (by kernel_rfl) ?_ hHeld ?_
  rotate_left
  · intro w' hSw
    go_simp
    first | done | with_reducible rfl
  simp only [Act.put, List.setIfInBounds_toArray, List.set_cons_zero, List.set_cons_succ]
  refine held_take (i := 5) (d := some 51) (v := ?_) rfl (by kernel_rfl) (by kernel_rfl) (by kernel_rfl) (by kernel_rfl) (fun _ _ _ h => h) (by kernel_rfl) ?_ hHeld ?_
  rotate_left
  · intro w' hSw
    go_simp
    first | done | with_reducible rfl
  simp only [Act.put, List.setIfInBounds_toArray, List.set_cons_zero, List.set_cons_succ]
  refine held_take (i := 6) (d := some 52) (v := ?_) rfl (by kernel_rfl) (by kernel_rfl) (by kernel_rfl) (by kernel_rfl) (fun _ _ _ h => h) (by kernel_rfl) ?_ hHeld ?_
  rotate_left
  · intro w' hSw
    go_simp
    first | done | with_reducible rfl
  simp only [Act.put, List.setIfInBounds_toArray, List.set_cons_zero, List.set_cons_succ]
  refine held_take (i := 7) (d := some 53) (v := ?_) rfl (by kernel_rfl) (by kernel_rfl) (by kernel_rfl) (by kernel_rfl) (fun _ _ _ h => h) (by kernel_rfl) ?_ hHeld ?_
  rotate_left
  · intro w' hSw
    go_simp
    first | done | with_reducible rfl
  simp only [Act.put, List.setIfInBounds_toArray, List.set_cons_zero, List.set_cons_succ]
  have hcB : ∀ ty, (Builtin.copy_ #[25, 25] ty #[.slice (some ⟨H, (i + 1) * 11, none⟩) (n + 1 - (i + 1)) (G - (i + 1)), .slice (some ⟨g, i * 11, none⟩) (n - i) (cap - i)]).run Try.prog ((w.alloc (.cells ROW 42)).drew.setRow H c1.toArray).drew = .ok (goInt ((n - i : Nat) : Int)) (((w.alloc (.cells ROW 42)).drew.setRow H c1.toArray).drew.setRow H (va (ts.take i) ++ t.cells ++ va (ts.drop i) ++ Z2).toArray) := fun ty => hcpB ((w.alloc (.cells ROW 42)).drew.setRow H c1.toArray).drew rfl ty _ _
  refine wpAnyH_ready (rs := [8]) (by kernel_rfl) (by simp) ?_
  refine AllReadyH.cons rfl (fun K hK => ?_) AllReadyH.nil
  refine step_copy_is rfl _ _ 25 25 rfl _ _ (by simp [Act.eval]; done) (by simp [Act.eval]; done) (hcB _) ?_
  refine hK.out _ _ trivial (fun hHeld => ?_)
  clear hK K
  try simp only [Act.put, List.setIfInBounds_toArray, List.set_cons_zero, List.set_cons_succ]
  refine wpAnyH_done (by kernel_rfl) ?_ _
  go_wp2
  go_ret
  obtain ⟨f1, f2⟩ := HFIN.out ((w.alloc (.cells ROW 42)).drew.setRow H c1.toArray).drew rfl rfl rfl rfl
  simp only [List.append_assoc] at f1 f2
  exact ⟨_, rfl, f1, f2⟩
end Go.Proofs.Ytjmefifdofgncaa
