/- UA, UB, UC, UD, UE. -/
import Derived.Test.YtkcfcmigcphjlaaGreatGF
import Derived.Test.YtkcfcmigcphjlaaGreatLA
import Derived.Laws.CopyRow
import Derived.Lib.AppendZerosOnto
import Derived.Lib.Overlaps
import Derived.Laws.Externs
import Derived.WalkKit
import Derived.BigQuiet
import Derived.Deep.DeepCutAuto





namespace Go.Proofs.YtkcfcmigcphjlaaGreat
open Go.RowKit
set_option linter.unusedVariables false
set_option linter.unusedSimpArgs false

theorem run_copy_k {P : Program} (w : World) (dT sT ty elem : TypeId) (g o dLen dCap : Nat) (a : Addr) (sLen sCap : Nat) (cur : Array Value) (t : TypeId) (cs : List Value) (i : TypeInfo) (size m : Nat)
    (hu : P.underlying dT = some (.slice elem)) (hi : P.info? elem = some i) (hsz : i.size = size)
    (hg : w.heap[g]? = some (.cells cur t (0, 0))) (hm : Nat.min sLen dLen = m) (hn : cs.length = m * size)
    (hsrc : ∀ j v, cs[j]? = some v → w.cell? (a.add j) = some v) (hfit : o + cs.length ≤ cur.size) (h1 : ∀ v ∈ cs, v.oneCell' = true) :
    (Builtin.copy_ #[dT, sT] ty #[.slice (some ⟨g, o, none⟩) dLen dCap, .slice (some a) sLen sCap]).run P w =
      .ok (goInt m) (w.setRow g (cur.toList.take o ++ cs ++ cur.toList.drop (o + cs.length)).toArray) := by
  have hl := run_loadCells_list (P := P) w a cs hsrc
  have hst := run_storeCells_at P g o t cs 0 cur w hg (by simpa using hfit) h1
  subst hsz
  simp [Builtin.copy_, run_underlying hu, Builtin.lenOf, Builtin.firstCells, sizeOf, typeInfo, hi, hm, ← hn, hl, hst]

/-- what stands at the front behind the two copies -/
theorem ins_room {α : Type} (A D T R1 R2 F : List α) (hF : (D ++ R1).take T.length = F) (hR : R1.length = T.length) :
    let c := A ++ D ++ R1 ++ R2
    let c1 := c.take (A.length + T.length) ++ D ++ c.drop (A.length + T.length + D.length)
    c1.take A.length ++ T ++ c1.drop (A.length + T.length) = A ++ T ++ D ++ R2 := by
  intro c c1
  have hFl : F.length = T.length := by rw [← hF, List.length_take, List.length_append, hR]; omega
  have e1 : c.take (A.length + T.length) = A ++ F := by
    show (A ++ D ++ R1 ++ R2).take _ = _
    rw [List.append_assoc, List.append_assoc, List.take_append, List.take_of_length_le (by omega)]
    congr 1
    rw [show A.length + T.length - A.length = T.length by omega, ← List.append_assoc, List.take_append, hF]
    rw [show T.length - (D ++ R1).length = 0 by rw [List.length_append, hR]; omega, List.take_zero, List.append_nil]
  have e2 : c.drop (A.length + T.length + D.length) = R2 := by
    show (A ++ D ++ R1 ++ R2).drop _ = _
    rw [show A.length + T.length + D.length = (A ++ D ++ R1).length by simp [hR]; omega, List.drop_left]
  have e3 : c1 = A ++ F ++ D ++ R2 := by show _ ++ D ++ _ = _; rw [e1, e2]
  rw [e3]
  have e4 : (A ++ F ++ D ++ R2).take A.length = A := by rw [List.append_assoc, List.append_assoc, List.take_left]
  have e5 : (A ++ F ++ D ++ R2).drop (A.length + T.length) = D ++ R2 := by
    rw [show A.length + T.length = (A ++ F).length by simp [hFl], List.append_assoc (A ++ F), List.drop_left]
  rw [e4, e5]
  simp
/-- and in the new row -/
theorem ins_grow {α : Type} (A D T Z1 Z2 : List α) (hZ : Z1.length = T.length + D.length) :
    let c := A ++ Z1 ++ Z2
    let c1 := c.take A.length ++ T ++ c.drop (A.length + T.length)
    c1.take (A.length + T.length) ++ D ++ c1.drop (A.length + T.length + D.length) = A ++ T ++ D ++ Z2 := by
  intro c c1
  obtain ⟨Za, Zb, rfl, hZa⟩ : ∃ Za Zb, Z1 = Za ++ Zb ∧ Za.length = T.length := ⟨Z1.take T.length, Z1.drop T.length, (List.take_append_drop _ _).symm, by rw [List.length_take]; omega⟩
  have hZb : Zb.length = D.length := by rw [List.length_append] at hZ; omega
  have e1 : c.take A.length = A := by show (A ++ (Za ++ Zb) ++ Z2).take _ = _; rw [List.append_assoc, List.take_left]
  have e2 : c.drop (A.length + T.length) = Zb ++ Z2 := by
    show (A ++ (Za ++ Zb) ++ Z2).drop _ = _
    rw [show A.length + T.length = (A ++ Za).length by simp [hZa], show A ++ (Za ++ Zb) ++ Z2 = (A ++ Za) ++ (Zb ++ Z2) by simp, List.drop_left]
  have e3 : c1 = A ++ T ++ (Zb ++ Z2) := by show _ ++ T ++ _ = _; rw [e1, e2]
  rw [e3]
  rw [show A.length + T.length = (A ++ T).length by simp, List.take_left]
  rw [show (A ++ T).length + D.length = (A ++ T ++ Zb).length by simp [hZb]; omega, show A ++ T ++ (Zb ++ Z2) = (A ++ T ++ Zb) ++ Z2 by simp, List.drop_left]
/-- a copy as one step of a region that draws, and of a plain one -/
theorem wp_copy_is {P : Program} (w : World) {o : Oper} {a : Act} {K : Act → World → Prop} {Q : Exit → Act → World → Prop} (d s : Operand) (t t' : TypeId)
    (ho : o.op = .call { callee := .builtin .copy, args := #[d, s], argTypes := #[t, t'] }) (v u : Value) (hd : a.eval d = v) (hs : a.eval s = u) {v' : Value} {w' : World}
    (hr : (Builtin.copy_ #[t, t'] o.type #[v, u]).run P w = .ok v' w') (h : K (a.put o.dst v') w') : o.wp P a w K Q := by
  unfold Oper.wp execOp
  simp only [ho, resolve, invoke, builtin, Sem.run_bind, Sem.run_pure, Result.andThen_ok, List.map_toArray, List.map_cons, List.map_nil, hd, hs, hr]
  exact h
theorem wpList_copy_is {P : Program} (w : World) {ops : Array Oper} {rest : List Oper} {o : Oper} {a : Act} {Q : Exit → Act → World → Prop} (hgd : o.guard = none) (d s : Operand) (t t' : TypeId)
    (ho : o.op = .call { callee := .builtin .copy, args := #[d, s], argTypes := #[t, t'] }) (v u : Value) (hd : a.eval d = v) (hs : a.eval s = u) {v' : Value} {w' : World}
    (hr : (Builtin.copy_ #[t, t'] o.type #[v, u]).run P w = .ok v' w') (h : wpList P ops Q rest (a.put o.dst v') w') : wpList P ops Q (o :: rest) a w :=
  wpList_plain hgd fun _ hK => wp_copy_is w d s t t' ho v u hd hs hr (hK _ _ h)
theorem step_copy_is {P : Program} {ops : Array Oper} {o : Oper} {a : Act} {w : World} {K : Act → World → Prop} {Q : Exit → Act → World → Prop} {E : Prop} (hgd : o.guard = none) (d s : Operand) (t t' : TypeId)
    (ho : o.op = .call { callee := .builtin .copy, args := #[d, s], argTypes := #[t, t'] }) (v u : Value) (hd : a.eval d = v) (hs : a.eval s = u) {v' : Value} {w' : World}
    (hr : (Builtin.copy_ #[t, t'] o.type #[v, u]).run P w = .ok v' w') (h : K (a.put o.dst v') w') : if Region.wanted o (yielded ops a.tmps) = true then Oper.wp P o a w K Q else E := by
  have hw : Region.wanted o (yielded ops a.tmps) = true := by simp [Region.wanted, hgd]
  rw [if_pos hw]
  exact wp_copy_is w d s t t' ho v u hd hs hr h
theorem set_owned {w : World} {g e size n cap : Nat} {cur : Array Value} {xs : List Value} (hg : w.heap[g]? = some (.cells cur e (0, 0))) (base : Nat) (hb : base ≤ g) (hn : n ≤ cap) (hc : cap ≤ maxLen) (hs : cur.size = cap * size)
    (hl : xs.length = n * size) (ht : cur.toList.take (n * size) = xs) : w.ownsRow base e size (.slice (some ⟨g, 0, none⟩) n cap) n xs :=
  ⟨hl, .inr ⟨g, cap, cur, rfl, hb, hg, hn, hc, hs, ht⟩⟩
theorem grown_setRow (w : World) (g : Nat) (cs : Array Value) : w.grownBy (w.setRow g cs) (some g) :=
  ⟨rfl, rfl, rfl, by simp, fun k hk hn => setRow_other w g k cs (fun e => hn (by rw [e]))⟩
end Go.Proofs.YtkcfcmigcphjlaaGreat




namespace Go.Proofs.YtkcfcmigcphjlaaGreat
open Go.RowKit
set_option linter.unusedVariables false
set_option linter.unusedSimpArgs false

theorem va_take (ts : List ActT) (i : Nat) : (va ts).take (i * 11) = va (ts.take i) := by
  induction ts generalizing i with
  | nil => simp [va]
  | cons t ts ih =>
    cases i with
    | zero => simp [va]
    | succ i =>
      have h : va (t :: ts) = t.cells ++ va ts := rfl
      have h2 : va ((t :: ts).take (i + 1)) = t.cells ++ va (ts.take i) := rfl
      rw [h, h2, show (i + 1) * 11 = t.cells.length + i * 11 by simp [ActT.cells]; omega, List.take_length_add_append, ih]
theorem va_drop (ts : List ActT) (i : Nat) : (va ts).drop (i * 11) = va (ts.drop i) := by
  induction ts generalizing i with
  | nil => simp [va]
  | cons t ts ih =>
    cases i with
    | zero => simp [va]
    | succ i =>
      have h : va (t :: ts) = t.cells ++ va ts := rfl
      have h2 : va ((t :: ts).drop (i + 1)) = va (ts.drop i) := rfl
      rw [h, h2, show (i + 1) * 11 = t.cells.length + i * 11 by simp [ActT.cells]; omega, List.drop_length_add_append, ih]

set_option maxRecDepth 100000 in
set_option maxHeartbeats 6400000 in
theorem insert_room (lo g B n cap i : Nat) (cur : Array Value) (ts : List ActT) (t : ActT) (w : World) (hn : ts.length = n) (hi : i < n) (hroom : n + 1 ≤ cap) (hcap : cap ≤ maxLen) (hlo : lo ≤ g)
    (hg : w.heap[g]? = some (.cells cur 33 (0, 0))) (hs : cur.size = cap * 11) (hc : cur.toList.take (n * 11) = va ts) (hB : w.heap[B]? = some (.cells t.cells.toArray 33 (0, 0))) (hBg : B ≠ g)
    (h1 : ∀ u ∈ va ts, u.oneCell' = true) (h2 : ∀ u ∈ t.cells, u.oneCell' = true) :
    Calls Tryz.prog 91 #[.slice (some ⟨g, 0, none⟩) n cap, .int .i64 i, .slice (some ⟨B, 0, none⟩) 1 1] w fun e w' =>
      ∃ v, e = .returned v ∧ v.ownBlock = some g ∧ w'.ownsRow lo 33 11 v (n + 1) (va (ts.take i ++ t :: ts.drop i)) ∧ w.grownBy w' (some g) := by
  obtain ⟨i2, hii, hz0, hz1, hz2⟩ := info_parts Tryz.infoAct
  have hmx : cap ≤ 9223372036854775807 := hcap
  have hov : ∀ lb cb, (callFunc 109 #[.slice (some ⟨B, 0, none⟩) 1 1, .slice (some ⟨g, (i + 1) * 11, none⟩) lb cb]).run Tryz.prog w = .ok (.value (.bool false)) w := fun lb cb => by
    rw [run_callFunc_extern Tryz.func109 (by kernel_rfl) (by kernel_rfl) (by kernel_rfl) (e := Extern.SlicesOverlaps.overlaps #[23, 23] #[4]) (by kernel_rfl),
      Lib.run_overlaps_apart w 23 4 33 Tryz.underlying23 11 (Tryz.sizeOf33) ⟨B, 0, none⟩ ⟨g, (i + 1) * 11, none⟩ 1 1 lb cb hBg 33 33 11 (cap * 11)
        (by simp [World.shape?, hB, ActT.cells]) (by simp [World.shape?, hg, hs]) (by omega) (by simp [World.frozen?, hB]) (by simp [World.frozen?, hB])]
    rfl
  have hA : (va (ts.take i)).length = i * 11 := by rw [va_length, List.length_take]; congr 1; omega
  have hD : (va (ts.drop i)).length = (n - i) * 11 := by rw [va_length, List.length_drop, hn]
  have hT : t.cells.length = 11 := rfl
  have hX : va ts = va (ts.take i) ++ va (ts.drop i) := by rw [← va_take, ← va_drop, List.take_append_drop]
  have hcl : cur.toList.length = cap * 11 := by simpa using hs
  obtain ⟨R1, R2, hR, hR1⟩ : ∃ R1 R2, cur.toList = va (ts.take i) ++ va (ts.drop i) ++ R1 ++ R2 ∧ R1.length = t.cells.length := by
    refine ⟨(cur.toList.drop (n * 11)).take 11, (cur.toList.drop (n * 11)).drop 11, ?_, ?_⟩
    · rw [← hX, ← hc, List.append_assoc, List.take_append_drop, List.take_append_drop]
    · rw [List.length_take, List.length_drop, hcl, hT]
      omega
  have hR2 : R2.length = cap * 11 - (n + 1) * 11 := by
    have := hcl
    rw [hR] at this
    simp only [List.length_append, hA, hD, hR1, hT] at this
    have : i * 11 + (n - i) * 11 = n * 11 := by rw [← Nat.add_mul]; congr 1; omega
    omega
  obtain ⟨c1, hc1⟩ : ∃ c1, c1 = cur.toList.take (i * 11 + 11) ++ va (ts.drop i) ++ cur.toList.drop (i * 11 + 11 + (va (ts.drop i)).length) := ⟨_, rfl⟩
  have hins := ins_room (va (ts.take i)) (va (ts.drop i)) t.cells R1 R2 _ rfl hR1
  simp only at hins
  rw [← hR, hA, hT, ← hc1] at hins
  have hcp1 : ∀ ty dc sc, (Builtin.copy_ #[23, 23] ty #[.slice (some ⟨g, (i + 1) * 11, none⟩) (n + 1 - (i + 1)) dc, .slice (some ⟨g, i * 11, none⟩) (n + 1 - i) sc]).run Tryz.prog w.drew = .ok (goInt ((n - i : Nat) : Int)) (w.drew.setRow g c1.toArray) := fun ty dc sc => by
    have h := run_copy_k (P := Tryz.prog) w.drew 23 23 ty 33 g ((i + 1) * 11) (n + 1 - (i + 1)) dc ⟨g, i * 11, none⟩ (n + 1 - i) sc cur 33 (va (ts.drop i)) i2 11 (n - i) Tryz.underlying23 hii hz1 hg (by simp only [Nat.min_def]; split <;> omega) hD
      (fun j v hj => by
        have hjl : j < (va (ts.drop i)).length := (List.getElem?_eq_some_iff.1 hj).1
        rw [Addr.add_lit]
        show World.cell? w _ = _
        rw [cell_of_row w g (i * 11 + j) cur _ _ hg, ← Array.getElem?_toList, hR, List.append_assoc, List.append_assoc, List.getElem?_append_right (by rw [hA]; omega), hA, show i * 11 + j - i * 11 = j by omega, List.getElem?_append_left hjl]
        exact hj)
      (by rw [hD, hs]; have : (i + 1) * 11 + (n - i) * 11 = (n + 1) * 11 := by rw [← Nat.add_mul]; congr 1; omega
          rw [this]; exact Nat.mul_le_mul_right 11 hroom) (fun u hu => h1 u (by rw [hX]; exact List.mem_append_right _ hu))
    rw [h, hc1, show (i + 1) * 11 = i * 11 + 11 by omega]
  have hc1l : c1.length = cap * 11 := by
    have h9 : i * 11 + (n - i) * 11 = n * 11 := by rw [← Nat.add_mul]; congr 1; omega
    rw [hc1]
    simp only [List.length_append, List.length_take, List.length_drop, hcl, hD]
    have : n * 11 + 11 ≤ cap * 11 := by rw [← Nat.succ_mul]; exact Nat.mul_le_mul_right 11 hroom
    omega
  have hg1 : (w.drew.setRow g c1.toArray).heap[g]? = some (.cells c1.toArray 33 (0, 0)) := setRow_heap w.drew g cur _ _ _ hg
  have hcp2 : ∀ (W : World), W.heap = (w.drew.setRow g c1.toArray).heap → ∀ ty dc, (Builtin.copy_ #[23, 23] ty #[.slice (some ⟨g, i * 11, none⟩) (n + 1 - i) dc, .slice (some ⟨B, 0, none⟩) 1 1]).run Tryz.prog W = .ok (goInt ((1 : Nat) : Int)) (W.setRow g (va (ts.take i) ++ t.cells ++ va (ts.drop i) ++ R2).toArray) := fun W hW ty dc => by
    have h := run_copy_k (P := Tryz.prog) W 23 23 ty 33 g (i * 11) (n + 1 - i) dc ⟨B, 0, none⟩ 1 1 c1.toArray 33 t.cells i2 11 1 Tryz.underlying23 hii hz1 (by rw [hW]; exact hg1) (by simp only [Nat.min_def]; split <;> omega) (by rw [hT])
      (fun j v hj => by
        rw [Addr.add_lit, Nat.zero_add, cell_of_row W B j t.cells.toArray _ _ (by rw [hW, setRow_other _ _ _ _ hBg]; exact hB)]
        simpa using hj)
      (by rw [hT]; simp only [List.size_toArray, hc1l]; have : n * 11 + 11 ≤ cap * 11 := by rw [← Nat.succ_mul]; exact Nat.mul_le_mul_right 11 hroom
          have : i * 11 + 11 ≤ n * 11 := by rw [← Nat.succ_mul]; exact Nat.mul_le_mul_right 11 hi
          omega) h2
    rw [h]
    simp only [hT, hins]
  have hn2 : IntKind.i64.wrap ((n : Int) + 1) = (n : Int) + 1 := by rw [IntKind.wrap_i64]; omega
  have hi2 : IntKind.i64.wrap ((i : Int) + 1) = (i : Int) + 1 := by rw [IntKind.wrap_i64]; omega
  have q1 : ¬ ((i : Int) = (n : Int)) := by omega
  have q2 : ¬ ((cap : Int) < (n : Int) + 1) := by omega
  have q3 : ((i : Int) + 1).toNat = i + 1 := by omega
  have q4 : ((n : Int) + 1).toNat = n + 1 := by omega
  have q5 : ¬ (cap = i + 1) := by omega
  have q6 : ¬ (cap = i) := by omega
  have q7 : (i : Int) ≤ (n : Int) := by omega
  have q8 : (i : Int) ≤ (n : Int) + 1 := by omega
  have q9 : (i : Int) + 1 ≤ (n : Int) + 1 := by omega
  have q10 : (0 : Int) ≤ (i : Int) + 1 := by omega
  have q11 : (n : Int) + 1 ≤ (cap : Int) := by omega
  have q12 : (0 : Int) ≤ (n : Int) + 1 := by omega
  have HFIN : Hid (∀ W : World, W.heap = (w.drew.setRow g c1.toArray).heap → W.os = w.os → W.tape = w.tape → W.output = w.output → (W.setRow g (va (ts.take i) ++ t.cells ++ va (ts.drop i) ++ R2).toArray).ownsRow lo 33 11 (.slice (some ⟨g, 0, none⟩) (n + 1) cap) (n + 1) (va (ts.take i ++ t :: ts.drop i)) ∧ w.grownBy (W.setRow g (va (ts.take i) ++ t.cells ++ va (ts.drop i) ++ R2).toArray) (some g)) := by
    intro W hW h1 h2 h3
    have e1 : va (ts.take i ++ t :: ts.drop i) = va (ts.take i) ++ t.cells ++ va (ts.drop i) := by simp [va]
    have e2 : (va (ts.take i) ++ t.cells ++ va (ts.drop i)).length = (n + 1) * 11 := by
      have h9 : i * 11 + (n - i) * 11 = n * 11 := by rw [← Nat.add_mul]; congr 1; omega
      simp only [List.length_append, hA, hT, hD]
      omega
    refine ⟨set_owned (setRow_heap W g c1.toArray _ _ _ (by rw [hW]; exact hg1)) lo hlo hroom hcap ?_ (by rw [e1]; exact e2) ?_, ?_⟩
    · simp only [List.size_toArray, List.length_append, e2, hR2]
      have : (n + 1) * 11 ≤ cap * 11 := Nat.mul_le_mul_right 11 hroom
      omega
    · simp only
      rw [e1, ← e2, List.take_left]
    · refine ⟨h1, h2, h3, by simp [hW], fun k hk hn => ?_⟩
      have hkg : k ≠ g := fun e => hn (by rw [e])
      rw [setRow_other _ _ _ _ hkg, hW, setRow_other _ _ _ _ hkg]
      rfl
  clear hc hs hcl hR hR1 hR2 hX hA hD hT hins hc1 hc1l hg1 h1 h2
  go_enter Tryz.func91, Tryz.ntmps91
  go_wp2_with (simp only [hov])
  refine wp_region_held_drew (S := fun _ => True) (by kernel_rfl) (trivial) (fun hHeld => ?_)
  refine held_take (i := 0) (d := some 69) (v := ?_) rfl (by kernel_rfl) (by kernel_rfl) (by kernel_rfl) (by kernel_rfl) (fun _ _ _ h => h) (by kernel_rfl) ?_ hHeld ?_
  rotate_left
  · intro w' hSw
    go_simp
    first | done | with_reducible rfl
  simp only [Act.put, List.setIfInBounds_toArray, List.set_cons_zero, List.set_cons_succ]
  refine held_take (i := 1) (d := some 70) (v := ?_) rfl (by kernel_rfl) (by kernel_rfl) (by kernel_rfl) (by kernel_rfl) (fun _ _ _ h => h) (by kernel_rfl) ?_ hHeld ?_
  rotate_left
  · intro w' hSw
    go_simp
    first | done | with_reducible rfl
  simp only [Act.put, List.setIfInBounds_toArray, List.set_cons_zero, List.set_cons_succ]
  refine held_take (i := 2) (d := some 71) (v := ?_) rfl (by kernel_rfl) (by kernel_rfl) (by kernel_rfl) (by kernel_rfl) (fun _ _ _ h => h) (by kernel_rfl) ?_ hHeld ?_
  rotate_left
  · intro w' hSw
    go_simp
    first | done | with_reducible rfl
  simp only [Act.put, List.setIfInBounds_toArray, List.set_cons_zero, List.set_cons_succ]
  refine held_take (i := 3) (d := some 72) (v := ?_) rfl (by kernel_rfl) (by kernel_rfl) (by kernel_rfl) (by kernel_rfl) (fun _ _ _ h => h) (by kernel_rfl) ?_ hHeld ?_
  rotate_left
  · intro w' hSw
    go_simp
    first | done | with_reducible rfl
  simp only [Act.put, List.setIfInBounds_toArray, List.set_cons_zero, List.set_cons_succ]
  refine held_take (i := 4) (d := some 73) (v := ?_) rfl (by kernel_rfl) (by kernel_rfl) (by kernel_rfl) (by kernel_rfl) (fun _ _ _ h => h) (by kernel_rfl) ?_ hHeld ?_
  rotate_left
  · intro w' hSw
    go_simp
    first | done | with_reducible rfl
  simp only [Act.put, List.setIfInBounds_toArray, List.set_cons_zero, List.set_cons_succ]
  refine held_take (i := 5) (d := some 74) (v := ?_) rfl (by kernel_rfl) (by kernel_rfl) (by kernel_rfl) (by kernel_rfl) (fun _ _ _ h => h) (by kernel_rfl) ?_ hHeld ?_
  rotate_left
  · intro w' hSw
    go_simp
    first | done | with_reducible rfl
  simp only [Act.put, List.setIfInBounds_toArray, List.set_cons_zero, List.set_cons_succ]
  refine held_take (i := 6) (d := some 75) (v := ?_) rfl (by kernel_rfl) (by kernel_rfl) (by kernel_rfl) (by kernel_rfl) (fun _ _ _ h => h) (by kernel_rfl) ?_ hHeld ?_
  rotate_left
  · intro w' hSw
    go_simp
    first | done | with_reducible rfl
  simp only [Act.put, List.setIfInBounds_toArray, List.set_cons_zero, List.set_cons_succ]
  refine held_take (i := 7) (d := some 76) (v := ?_) rfl (by kernel_rfl) (by kernel_rfl) (by kernel_rfl) (by kernel_rfl) (fun _ _ _ h => h) (by kernel_rfl) ?_ hHeld ?_
  rotate_left
  · intro w' hSw
    go_simp
    first | done | with_reducible rfl
  simp only [Act.put, List.setIfInBounds_toArray, List.set_cons_zero, List.set_cons_succ]
  refine wpAnyH_ready (rs := [8]) (by kernel_rfl) (by simp) ?_
  refine AllReadyH.cons rfl (fun K hK => ?_) AllReadyH.nil
  refine step_copy_is rfl _ _ 23 23 rfl _ _ (by simp [Act.eval]; done) (by simp [Act.eval]; done) (hcp1 _ (cap - (i + 1)) (cap - i)) ?_
  refine hK.out _ _ trivial (fun hHeld => ?_)
  clear hK K
  try simp only [Act.put, List.setIfInBounds_toArray, List.set_cons_zero, List.set_cons_succ]
  refine wpAnyH_done (by kernel_rfl) ?_ _
  go_wp2_with (at_builtin; refine wpList_copy_is _ rfl _ _ 23 23 rfl _ _ rfl rfl (hcp2 _ rfl _ _) ?_)
  go_ret
  obtain ⟨f1, f2⟩ := HFIN.out (w.drew.setRow g c1.toArray) rfl rfl rfl rfl
  simp only [List.append_assoc] at f1 f2
  exact ⟨_, rfl, rfl, f1, f2⟩
end Go.Proofs.YtkcfcmigcphjlaaGreat

namespace Go.Proofs.YtkcfcmigcphjlaaGreat
open Go.RowKit
set_option linter.unusedVariables false
set_option linter.unusedSimpArgs false

theorem src_blk {w : World} {B : Nat} {cs : List Value} {e : TypeId} (size : Nat) (hB : w.heap[B]? = some (.cells cs.toArray e (0, 0))) (hl : cs.length = size) : Src w size (.slice (some ⟨B, 0, none⟩) 1 1) 1 cs :=
  .inr ⟨_, _, rfl, by simpa using hl, fun j u hu => by
    rw [add_flat, Nat.zero_add, cell_of_row w B j cs.toArray _ _ hB]
    simpa using hu⟩

set_option maxRecDepth 100000 in
set_option maxHeartbeats 6400000 in
theorem insert_end (lo B n : Nat) (v : Value) (ts : List ActT) (t : ActT) (w : World) (hn : ts.length = n) (hmx : n ≤ 1048576) (hlo : lo ≤ w.heap.size) (ho : w.ownsRow lo 33 11 v n (va ts))
    (hB : w.heap[B]? = some (.cells t.cells.toArray 33 (0, 0))) (h2 : ∀ u ∈ t.cells, u.oneCell' = true) :
    Calls Tryz.prog 91 #[v, .int .i64 n, .slice (some ⟨B, 0, none⟩) 1 1] w fun e w' =>
      ∃ v', e = .returned v' ∧ w'.ownsRow lo 33 11 v' (n + 1) (va (ts ++ [t])) ∧ w.grownBy w' v.ownBlock := by
  obtain ⟨i2, hii, hz0, hz1, hz2⟩ := info_parts Tryz.infoAct
  have SR := Lib.hid (src_blk (e := 33) 11 hB rfl)
  have HO := Lib.hid ho
  have H2 := Lib.hid h2
  have HM1 : Hid (n + 1 ≤ maxLen) := by show _ ≤ _; unfold maxLen; omega
  have HM2 : Hid ((n + 1) * 120 ≤ 140737488355328) := by show _ ≤ _; omega
  have hv := ho.2
  have q0 : (n : Int) ≤ 9223372036854775807 := by omega
  clear ho hB h2
  rcases hv with ⟨rfl, rfl⟩ | ⟨g, cap, cur, rfl, hg, hh, hnc, hcm, hcs, hct⟩
  · go_enter Tryz.func91, Tryz.ntmps91
    go_wp2_with (at_builtin; refine wpList_app rfl (.tmp 23) (.tmp 24) 23 rfl lo 33 i2 _ 11 120 Tryz.underlying23 hii hz0 hz1 hz2 rfl (by decide) (.slice none 0 0) (.slice (some ⟨B, 0, none⟩) 1 1) 0 1 (va ts) t.cells rfl rfl HO.out SR.out H2.out HM1.out HM2.out hlo ?_)
    intro v2 w2 hown2 hgrow2 _
    have G2 := Lib.hid hgrow2
    have O2 : Hid (w2.ownsRow lo 33 11 v2 (0 + 1) (va (ts ++ [t]))) := Lib.hid (by rw [show va (ts ++ [t]) = va ts ++ t.cells by simp [va]]; exact hown2)
    clear hown2 hgrow2
    go_wp2
    go_ret
    exact ⟨_, rfl, O2.out, G2.out⟩
  · have hcap : n ≤ cap := hnc
    have hcm2 : cap ≤ 9223372036854775807 := hcm
    clear hh hcs hct hcm hg
    by_cases hcn : cap = n
    all_goals
      go_enter Tryz.func91, Tryz.ntmps91
      go_wp2_with (at_builtin; refine wpList_app rfl (.tmp 23) (.tmp 24) 23 rfl lo 33 i2 _ 11 120 Tryz.underlying23 hii hz0 hz1 hz2 rfl (by decide) (.slice (some ⟨g, 0, none⟩) n cap) (.slice (some ⟨B, 0, none⟩) 1 1) n 1 (va ts) t.cells rfl rfl HO.out SR.out H2.out HM1.out HM2.out hlo ?_)
      intro v2 w2 hown2 hgrow2 _
      have G2 := Lib.hid hgrow2
      have O2 : Hid (w2.ownsRow lo 33 11 v2 (n + 1) (va (ts ++ [t]))) := Lib.hid (by rw [show va (ts ++ [t]) = va ts ++ t.cells by simp [va]]; exact hown2)
      clear hown2 hgrow2
      go_wp2
      go_ret
      exact ⟨_, rfl, O2.out, G2.out⟩

set_option maxRecDepth 100000 in
set_option maxHeartbeats 6400000 in
theorem insert_grow (lo g B n cap i : Nat) (cur : Array Value) (ts : List ActT) (t : ActT) (w : World) (hn : ts.length = n) (hi : i < n) (hnc : n ≤ cap) (hroom : cap < n + 1) (hmx : n ≤ 1048576) (hlo : lo ≤ w.heap.size)
    (hg : w.heap[g]? = some (.cells cur 33 (0, 0))) (hs : cur.size = cap * 11) (hc : cur.toList.take (n * 11) = va ts) (hB : w.heap[B]? = some (.cells t.cells.toArray 33 (0, 0)))
    (h1 : ∀ u ∈ va ts, u.oneCell' = true) (h2 : ∀ u ∈ t.cells, u.oneCell' = true) :
    Calls Tryz.prog 91 #[.slice (some ⟨g, 0, none⟩) n cap, .int .i64 i, .slice (some ⟨B, 0, none⟩) 1 1] w fun e w' =>
      ∃ v, e = .returned v ∧ w'.ownsRow lo 33 11 v (n + 1) (va (ts.take i ++ t :: ts.drop i)) ∧ w.grownBy w' (some g) := by
  obtain ⟨i2, hii, hz0, hz1, hz2⟩ := info_parts Tryz.infoAct
  obtain ⟨G, hG⟩ : ∃ G, G = grownCap w (n + 1) cap 33 := ⟨_, rfl⟩
  have hGn : n + 1 ≤ G := by rw [hG]; exact grownCap_ge w _ _ _
  have hG63 : G ≤ maxLen := by rw [hG]; exact grownCap_le_maxLen w (n + 1) cap 33 (by unfold maxLen; omega)
  have hG64 : G ≤ 9223372036854775807 := hG63
  have hgl : g < w.heap.size := (Array.getElem?_eq_some_iff.1 hg).1
  have hBl : B < w.heap.size := (Array.getElem?_eq_some_iff.1 hB).1
  have hA : (va (ts.take i)).length = i * 11 := by rw [va_length, List.length_take]; congr 1; omega
  have hD : (va (ts.drop i)).length = (n - i) * 11 := by rw [va_length, List.length_drop, hn]
  have hT : t.cells.length = 11 := rfl
  have hX : va ts = va (ts.take i) ++ va (ts.drop i) := by rw [← va_take, ← va_drop, List.take_append_drop]
  have hcl : cur.toList.length = cap * 11 := by simpa using hs
  have hcell : ∀ j v, (va ts)[j]? = some v → w.cell? ⟨g, j, none⟩ = some v := fun j v hj => by
    have hjl : j < n * 11 := by have := (List.getElem?_eq_some_iff.1 hj).1; rw [va_length, hn] at this; exact this
    rw [cell_of_row w g j cur _ _ hg, ← Array.getElem?_toList]
    rw [← hc, List.getElem?_take, if_pos hjl] at hj
    exact hj
  -- the new row
  obtain ⟨Z1, hZ1⟩ : ∃ Z : List Value, Z = (Builtin.zeroCells (Value.agg #[.int .i64 0, .int .i64 0, .slice none 0 0, .int .i64 0, .int .i64 0, .int .i64 0, .int .i64 0, .int .i64 0, .int .i64 0, .int .i64 0, .slice none 0 0]).cells (n + 1 - i)).toList := ⟨_, rfl⟩
  obtain ⟨Z2, hZ2⟩ : ∃ Z : List Value, Z = (Builtin.zeroCells (Value.agg #[.int .i64 0, .int .i64 0, .slice none 0 0, .int .i64 0, .int .i64 0, .int .i64 0, .int .i64 0, .int .i64 0, .int .i64 0, .int .i64 0, .slice none 0 0]).cells (G - (n + 1))).toList := ⟨_, rfl⟩
  have hzl : ∀ k, (Builtin.zeroCells (Value.agg #[.int .i64 0, .int .i64 0, .slice none 0 0, .int .i64 0, .int .i64 0, .int .i64 0, .int .i64 0, .int .i64 0, .int .i64 0, .int .i64 0, .slice none 0 0]).cells k).size = k * 11 := fun k => by
    simp [Builtin.zeroCells, Value.cells]
  have hZ1l : Z1.length = t.cells.length + (va (ts.drop i)).length := by
    rw [hZ1, Array.length_toList, hzl, hT, hD]
    have : n + 1 - i = 1 + (n - i) := by omega
    rw [this, Nat.add_mul]
  have hZ2l : Z2.length = (G - (n + 1)) * 11 := by rw [hZ2, Array.length_toList, hzl]
  have hold : (Builtin.firstCells i2.size i (.slice (some ⟨g, 0, none⟩) i cap)).run Tryz.prog w.drew = .ok (va (ts.take i)).toArray w.drew := by
    rw [hz1]
    exact run_firstCells_some w.drew 11 i ⟨g, 0, none⟩ i cap (va (ts.take i)) (by rw [hA]) (fun j v hj => by
      rw [Addr.add_lit, Nat.zero_add]
      have hjl : j < (va (ts.take i)).length := (List.getElem?_eq_some_iff.1 hj).1
      exact hcell j v (by rw [hX, List.getElem?_append_left hjl]; exact hj))
  have hkk : (n : Int) + 1 - (i : Int) = ((n + 1 - i : Nat) : Int) := by omega
  have hik : i + (n + 1 - i) = n + 1 := by omega
  obtain ⟨ROW, hROW⟩ : ∃ ROW : Array Value, ROW = (va (ts.take i)).toArray ++ Builtin.zeroCells (Value.agg #[.int .i64 0, .int .i64 0, .slice none 0 0, .int .i64 0, .int .i64 0, .int .i64 0, .int .i64 0, .int .i64 0, .int .i64 0, .int .i64 0, .slice none 0 0]).cells (n + 1 - i) ++ Builtin.zeroCells (Value.agg #[.int .i64 0, .int .i64 0, .slice none 0 0, .int .i64 0, .int .i64 0, .int .i64 0, .int .i64 0, .int .i64 0, .int .i64 0, .int .i64 0, .slice none 0 0]).cells (G - (n + 1)) := ⟨_, rfl⟩
  have hRL : ROW.toList = va (ts.take i) ++ Z1 ++ Z2 := by rw [hROW, hZ1, hZ2]; simp
  have hrz : ∀ ty, (Builtin.append_ #[23, 3] ty #[.slice (some ⟨g, 0, none⟩) i cap, .int .i64 ((n : Int) + 1 - (i : Int))]).run Tryz.prog w = .ok (.slice (some ⟨w.heap.size, 0, none⟩) (n + 1) G) (w.drew.alloc (.cells ROW 33)) := fun ty => by
    have h := Lib.run_append_grow_zeros (P := Tryz.prog) w 23 3 ty 33 i2 _ .i64 .i64 Tryz.underlying23 Tryz.underlying3 hii hz0 (some ⟨g, 0, none⟩) i cap (va (ts.take i)) hold (n + 1 - i) (by omega) (by rw [hz1]; decide) (by omega) (by omega) (by rw [hz2]; omega) (by rw [hz2, hik]; exact growslice_fits hroom (by omega))
    rw [hik, ← hG, ← hROW] at h
    rw [hkk]
    exact h
  obtain ⟨H, hH⟩ : ∃ H, H = w.heap.size := ⟨_, rfl⟩
  have hgH : (w.drew.alloc (.cells ROW 33)).heap[H]? = some (.cells ROW 33 (0, 0)) := by
    rw [hH]
    show (w.drew.alloc (.cells ROW 33)).heap[w.drew.heap.size]? = _
    rw [World.alloc]
    exact Array.getElem?_push_size
  have hold' : ∀ b, b < H → (w.drew.alloc (.cells ROW 33)).heap[b]? = w.heap[b]? := fun b hb => by rw [hH] at hb; exact Below.heap_alloc w.drew _ b hb
  have hROWl : ROW.size = G * 11 := by
    rw [← Array.length_toList, hRL]
    simp only [List.length_append, hA, hZ1l, hZ2l, hT, hD]
    have : i * 11 + (n - i) * 11 = n * 11 := by rw [← Nat.add_mul]; congr 1; omega
    have : n * 11 + 11 ≤ G * 11 := by rw [← Nat.succ_mul]; exact Nat.mul_le_mul_right 11 hGn
    rw [Nat.sub_mul]
    omega
  obtain ⟨c1, hc1⟩ : ∃ c1, c1 = ROW.toList.take (i * 11) ++ t.cells ++ ROW.toList.drop (i * 11 + 11) := ⟨_, rfl⟩
  have hins := ins_grow (va (ts.take i)) (va (ts.drop i)) t.cells Z1 Z2 hZ1l
  simp only at hins
  rw [← hRL, hA, hT, ← hc1] at hins
  have hn11 : n * 11 + 11 ≤ G * 11 := by rw [← Nat.succ_mul]; exact Nat.mul_le_mul_right 11 hGn
  have hi11 : i * 11 + 11 ≤ n * 11 := by rw [← Nat.succ_mul]; exact Nat.mul_le_mul_right 11 hi
  have hc1l : c1.length = G * 11 := by
    rw [hc1]
    simp only [List.length_append, List.length_take, List.length_drop, Array.length_toList, hROWl, hT]
    omega
  have hcpA : ∀ (W : World), W.heap = (w.drew.alloc (.cells ROW 33)).heap → ∀ ty dc, (Builtin.copy_ #[23, 23] ty #[.slice (some ⟨H, i * 11, none⟩) (n + 1 - i) dc, .slice (some ⟨B, 0, none⟩) 1 1]).run Tryz.prog W = .ok (goInt ((1 : Nat) : Int)) (W.setRow H c1.toArray) := fun W hW ty dc => by
    have h := run_copy_k (P := Tryz.prog) W 23 23 ty 33 H (i * 11) (n + 1 - i) dc ⟨B, 0, none⟩ 1 1 ROW 33 t.cells i2 11 1 Tryz.underlying23 hii hz1 (by rw [hW]; exact hgH) (by simp only [Nat.min_def]; split <;> omega) (by rw [hT])
      (fun j v hj => by
        rw [Addr.add_lit, Nat.zero_add, cell_of_row W B j t.cells.toArray _ _ (by rw [hW, hold' B (by omega)]; exact hB)]
        simpa using hj)
      (by rw [hT, hROWl]; omega) h2
    rw [h, hT, hc1]
  have hcpB : ∀ (W : World), W.heap = ((w.drew.alloc (.cells ROW 33)).setRow H c1.toArray).heap → ∀ ty dc sc, (Builtin.copy_ #[23, 23] ty #[.slice (some ⟨H, (i + 1) * 11, none⟩) (n + 1 - (i + 1)) dc, .slice (some ⟨g, i * 11, none⟩) (n - i) sc]).run Tryz.prog W = .ok (goInt ((n - i : Nat) : Int)) (W.setRow H (va (ts.take i) ++ t.cells ++ va (ts.drop i) ++ Z2).toArray) := fun W hW ty dc sc => by
    have h := run_copy_k (P := Tryz.prog) W 23 23 ty 33 H ((i + 1) * 11) (n + 1 - (i + 1)) dc ⟨g, i * 11, none⟩ (n - i) sc c1.toArray 33 (va (ts.drop i)) i2 11 (n - i) Tryz.underlying23 hii hz1 (by rw [hW]; exact setRow_heap _ H ROW _ _ _ hgH) (by simp only [Nat.min_def]; split <;> omega) hD
      (fun j v hj => by
        rw [Addr.add_lit]
        have hgne : g ≠ H := by omega
        have : W.cell? ⟨g, i * 11 + j, none⟩ = w.cell? ⟨g, i * 11 + j, none⟩ := World.cell?_of_block (by rw [hW, setRow_other _ _ _ _ hgne, hold' g (by omega)])
        rw [this]
        exact hcell (i * 11 + j) v (by rw [hX, List.getElem?_append_right (by rw [hA]; omega), hA, show i * 11 + j - i * 11 = j by omega]; exact hj))
      (by rw [hD]; simp only [List.size_toArray, hc1l]; have : (i + 1) * 11 + (n - i) * 11 = (n + 1) * 11 := by rw [← Nat.add_mul]; congr 1; omega
          omega) (fun u hu => h1 u (by rw [hX]; exact List.mem_append_right _ hu))
    rw [h, show (i + 1) * 11 = i * 11 + 11 by omega]
    simp only [hins]
  have HFIN : Hid (∀ W : World, W.heap = ((w.drew.alloc (.cells ROW 33)).setRow H c1.toArray).heap → W.os = w.os → W.tape = w.tape → W.output = w.output → (W.setRow H (va (ts.take i) ++ t.cells ++ va (ts.drop i) ++ Z2).toArray).ownsRow lo 33 11 (.slice (some ⟨H, 0, none⟩) (n + 1) G) (n + 1) (va (ts.take i ++ t :: ts.drop i)) ∧ w.grownBy (W.setRow H (va (ts.take i) ++ t.cells ++ va (ts.drop i) ++ Z2).toArray) (some g)) := by
    intro W hW h1 h2 h3
    have e1 : va (ts.take i ++ t :: ts.drop i) = va (ts.take i) ++ t.cells ++ va (ts.drop i) := by simp [va]
    have e2 : (va (ts.take i) ++ t.cells ++ va (ts.drop i)).length = (n + 1) * 11 := by
      have h9 : i * 11 + (n - i) * 11 = n * 11 := by rw [← Nat.add_mul]; congr 1; omega
      simp only [List.length_append, hA, hT, hD]
      omega
    refine ⟨set_owned (setRow_heap W H c1.toArray _ _ _ (by rw [hW]; exact setRow_heap _ H ROW _ _ _ hgH)) lo (by omega) hGn hG63 ?_ (by rw [e1]; exact e2) ?_, ?_⟩
    · simp only [List.size_toArray, List.length_append, e2, hZ2l]
      rw [Nat.sub_mul]
      omega
    · simp only
      rw [e1, ← e2, List.take_left]
    · refine ⟨h1, h2, h3, ?_, fun k hk hn => ?_⟩
      · rw [size_setRow, hW, size_setRow, World.size_alloc]
        show w.heap.size ≤ w.heap.size + 1
        omega
      · have hkH : k ≠ H := by omega
        rw [setRow_other _ _ _ _ hkH, hW, setRow_other _ _ _ _ hkH, hold' k (by omega)]
  have hn2 : IntKind.i64.wrap ((n : Int) + 1) = (n : Int) + 1 := by rw [IntKind.wrap_i64]; omega
  have hi2 : IntKind.i64.wrap ((i : Int) + 1) = (i : Int) + 1 := by rw [IntKind.wrap_i64]; omega
  have hni : IntKind.i64.wrap ((n : Int) + 1 - (i : Int)) = (n : Int) + 1 - (i : Int) := by rw [IntKind.wrap_i64]; omega
  have q1 : ¬ ((i : Int) = (n : Int)) := by omega
  have q2 : (cap : Int) < (n : Int) + 1 := by omega
  have q3 : ((i : Int) + 1).toNat = i + 1 := by omega
  have q5 : ¬ (G = i + 1) := by omega
  have q6 : ¬ (cap = i) := by omega
  have q6' : ¬ (G = i) := by omega
  have q7 : (i : Int) ≤ (n : Int) := by omega
  have q8 : (i : Int) ≤ (n : Int) + 1 := by omega
  have q9 : (i : Int) + 1 ≤ (n : Int) + 1 := by omega
  have q10 : (0 : Int) ≤ (i : Int) + 1 := by omega
  have q11 : (i : Int) ≤ (cap : Int) := by omega
  rw [← hH] at hrz
  clear hc hs hcl hX hA hD hT hins hc1 hc1l hROWl hRL hROW hold hold' hcell hZ1l hZ2l hzl hZ1 hZ2 hgH h1 h2 hkk hG hH
  go_enter Tryz.func91, Tryz.ntmps91
  go_upto_region 10 with (at_builtin; refine Lib.wpList_append_run _ rfl _ _ _ _ rfl _ _ rfl rfl _ _ (hrz _) ?_)
  have hcA : ∀ ty, (Builtin.copy_ #[23, 23] ty #[.slice (some ⟨H, i * 11, none⟩) (n + 1 - i) (G - i), .slice (some ⟨B, 0, none⟩) 1 1]).run Tryz.prog (w.alloc (.cells ROW 33)).drew = .ok (goInt ((1 : Nat) : Int)) ((w.alloc (.cells ROW 33)).drew.setRow H c1.toArray) := fun ty => hcpA (w.alloc (.cells ROW 33)).drew rfl ty _
  clear hcpA
  go_wp2_with (at_builtin; refine wpList_copy_is _ rfl _ _ 23 23 rfl _ _ rfl rfl (hcA _) ?_)
  refine wp_region_held_drew (S := fun _ => True) (by kernel_rfl) (trivial) (fun hHeld => ?_)
  refine held_take (i := 0) (d := some 46) (v := ?_) rfl (by kernel_rfl) (by kernel_rfl) (by kernel_rfl) (by kernel_rfl) (fun _ _ _ h => h) (by kernel_rfl) ?_ hHeld ?_
  rotate_left
  · intro w' hSw
    go_simp
    first | done | with_reducible rfl
  simp only [Act.put, List.setIfInBounds_toArray, List.set_cons_zero, List.set_cons_succ]
  refine held_take (i := 1) (d := some 47) (v := ?_) rfl (by kernel_rfl) (by kernel_rfl) (by kernel_rfl) (by kernel_rfl) (fun _ _ _ h => h) (by kernel_rfl) ?_ hHeld ?_
  rotate_left
  · intro w' hSw
    go_simp
    first | done | with_reducible rfl
  simp only [Act.put, List.setIfInBounds_toArray, List.set_cons_zero, List.set_cons_succ]
  refine held_take (i := 2) (d := some 48) (v := ?_) rfl (by kernel_rfl) (by kernel_rfl) (by kernel_rfl) (by kernel_rfl) (fun _ _ _ h => h) (by kernel_rfl) ?_ hHeld ?_
  rotate_left
  · intro w' hSw
    go_simp
    first | done | with_reducible rfl
  simp only [Act.put, List.setIfInBounds_toArray, List.set_cons_zero, List.set_cons_succ]
  refine held_take (i := 3) (d := some 49) (v := ?_) rfl (by kernel_rfl) (by kernel_rfl) (by kernel_rfl) (by kernel_rfl) (fun _ _ _ h => h) (by kernel_rfl) ?_ hHeld ?_
  rotate_left
  · intro w' hSw
    go_simp
    first | done | with_reducible rfl
  simp only [Act.put, List.setIfInBounds_toArray, List.set_cons_zero, List.set_cons_succ]
  refine held_take (i := 4) (d := some 50) (v := ?_) rfl (by kernel_rfl) (by kernel_rfl) (by kernel_rfl) (by kernel_rfl) (fun _ _ _ h => h) (by kernel_rfl) ?_ hHeld ?_
  rotate_left
  · intro w' hSw
    go_simp
    first | done | with_reducible rfl
  simp only [Act.put, List.setIfInBounds_toArray, List.set_cons_zero, List.set_cons_succ]
  refine held_take (i := 5) (d := some 51) (v := ?_) rfl (by kernel_rfl) (by kernel_rfl) (by kernel_rfl) (by kernel_rfl) (fun _ _ _ h => h) (by kernel_rfl) ?_ hHeld ?_
  rotate_left
  · intro w' hSw
    go_simp
    first | done | with_reducible rfl
  simp only [Act.put, List.setIfInBounds_toArray, List.set_cons_zero, List.set_cons_succ]
  refine held_take (i := 6) (d := some 52) (v := ?_) rfl (by kernel_rfl) (by kernel_rfl) (by kernel_rfl) (by kernel_rfl) (fun _ _ _ h => h) (by kernel_rfl) ?_ hHeld ?_
  rotate_left
  · intro w' hSw
    go_simp
    first | done | with_reducible rfl
  simp only [Act.put, List.setIfInBounds_toArray, List.set_cons_zero, List.set_cons_succ]
  refine held_take (i := 7) (d := some 53) (v := ?_) rfl (by kernel_rfl) (by kernel_rfl) (by kernel_rfl) (by kernel_rfl) (fun _ _ _ h => h) (by kernel_rfl) ?_ hHeld ?_
  rotate_left
  · intro w' hSw
    go_simp
    first | done | with_reducible rfl
  simp only [Act.put, List.setIfInBounds_toArray, List.set_cons_zero, List.set_cons_succ]
  have hcB : ∀ ty, (Builtin.copy_ #[23, 23] ty #[.slice (some ⟨H, (i + 1) * 11, none⟩) (n + 1 - (i + 1)) (G - (i + 1)), .slice (some ⟨g, i * 11, none⟩) (n - i) (cap - i)]).run Tryz.prog ((w.alloc (.cells ROW 33)).drew.setRow H c1.toArray).drew = .ok (goInt ((n - i : Nat) : Int)) (((w.alloc (.cells ROW 33)).drew.setRow H c1.toArray).drew.setRow H (va (ts.take i) ++ t.cells ++ va (ts.drop i) ++ Z2).toArray) := fun ty => hcpB ((w.alloc (.cells ROW 33)).drew.setRow H c1.toArray).drew rfl ty _ _
  refine wpAnyH_ready (rs := [8]) (by kernel_rfl) (by simp) ?_
  refine AllReadyH.cons rfl (fun K hK => ?_) AllReadyH.nil
  refine step_copy_is rfl _ _ 23 23 rfl _ _ (by simp [Act.eval]; done) (by simp [Act.eval]; done) (hcB _) ?_
  refine hK.out _ _ trivial (fun hHeld => ?_)
  clear hK K
  try simp only [Act.put, List.setIfInBounds_toArray, List.set_cons_zero, List.set_cons_succ]
  refine wpAnyH_done (by kernel_rfl) ?_ _
  go_wp2
  go_ret
  obtain ⟨f1, f2⟩ := HFIN.out ((w.alloc (.cells ROW 33)).drew.setRow H c1.toArray).drew rfl rfl rfl rfl
  simp only [List.append_assoc] at f1 f2
  exact ⟨_, rfl, f1, f2⟩
end Go.Proofs.YtkcfcmigcphjlaaGreat


namespace Go.Proofs.YtkcfcmigcphjlaaGreat
open Go.RowKit Go.Shelf
set_option linter.unusedVariables false
attribute [local go_sem] Oper.semAt_some

theorem take_snoc (ts : List ActT) (k : Nat) (h : k < ts.length) : ts.take (k + 1) = ts.take k ++ [ts.getD k t0] := by
  rw [List.take_add_one]
  simp [List.getD, h]

set_option maxRecDepth 100000 in
set_option maxHeartbeats 3200000 in
theorem values1_in (n : Nat) (hn : 1 ≤ n) (l G b off cap len : Nat) (ts : List ActT) (K : ActT → Prop) (J Jx : List ActT → World → Prop) (w0 W : World)
    (hK : ∀ t ∈ ts, K t)
    (hJ : ∀ pre A B, J pre A → Below A.heap.size A B → J pre B)
    (hY : ∀ pre x W, K x → J pre W → pre.length < ts.length → YieldAt Fence.wide (n - 1) Tryz.prog l #[x.val] W fun e W' =>
      (e = .returned (.bool true) ∧ J (pre ++ [x]) W' ∧ Below w0.heap.size W W') ∨ (e = .returned (.bool false) ∧ Jx (pre ++ [x]) W'))
    (h1 : ts.length = len) (hl : len ≤ 9223372036854775807) (hb : b < w0.heap.size) (hG : G < w0.heap.size) (hW : Below w0.heap.size w0 W)
    (hr : ∀ t ∈ ts, t.Reads w0) (hc : ∀ i, i < len → ActAt w0 b (off + i * 11) (ts.getD i t0))
    (kG : Blk w0 G [.slice (some ⟨b, off, none⟩) len cap]) (h0 : J [] W) :
    CallsIn Fence.wide n Tryz.prog 88 #[.func (.yield l) #[] #[], .pointer (some ⟨G, 0, none⟩)] W fun e W' => (∃ v, e = .returned v) ∧
      (J ts W' ∨ (∃ pre, pre <+: ts ∧ Jx pre W')) := by
  have s0 := (kG.below hW hG).cell 0
  simp only [List.getElem?_cons_zero] at s0
  refine callsIn_of_wp Tryz.func88 rfl trivial ?_ rfl
  simp only [Tryz.ntmps88, List.size_toArray, List.length_cons, List.length_nil, Nat.reduceAdd, Nat.reduceSub, Array.replicate_succ, Array.replicate_zero, List.push_toArray, List.append_toArray, List.nil_append, List.cons_append]
  have HC := Lib.hid hc
  have HR := Lib.hid hr
  have N1 := Lib.hid h1
  have HJ := Lib.hid hJ
  have HY := Lib.hid hY
  have HKK := Lib.hid hK
  clear kG hc hr h1 hJ hY hK
  gi_wp2
  gi_loopw [7] (fun i wr => ∃ k : Nat, k ≤ len ∧ i = .int .i64 k ∧ Hid (J (ts.take k) wr) ∧ Hid (Below w0.heap.size w0 wr)) (fun i _ => len - (intOf i).toNat)
  case atStart => exact ⟨0, Nat.zero_le _, rfl, h0, hW⟩
  case round =>
    obtain ⟨k, hk, rfl, hj, hbel⟩ := hrel
    by_cases hlt : k < len
    · have hlt2 : k < ts.length := by rw [N1.out]; exact hlt
      have hm := getD_mem (ts := ts) (i := k) hlt2
      have HKT := Lib.hid (HKK.out _ hm)
      have AT := Lib.hid ((HC.out k hlt).below hbel.out hb)
      have HT := Lib.hid ((HR.out _ hm).below hbel.out)
      have FS := Lib.hid (take_snoc ts k hlt2)
      obtain ⟨t, htt⟩ : ∃ t, t = ts.getD k t0 := ⟨_, rfl⟩
      rw [← htt] at AT HT FS HKT
      clear hm htt
      obtain ⟨⟨r, nn, dep, actor, kind, dst, bucket, mask, gr, gn, ups⟩, vd, vs⟩ := t
      have hsd := ints_len HT.out.1
      have hsu := ups_len HT.out.2
      simp only at hsd hsu
      obtain ⟨da, dc, rfl⟩ := hsd
      obtain ⟨ua, uc, rfl⟩ := hsu
      have c0 := AT.out.c0
      have c1 := AT.out.c1
      have c2 := AT.out.c2
      have c3 := AT.out.c3
      have c4 := AT.out.c4
      have c5 := AT.out.c5
      have c6 := AT.out.c6
      have c7 := AT.out.c7
      have c8 := AT.out.c8
      have c9 := AT.out.c9
      have c10 := AT.out.c10
      simp only at c0 c1 c2 c3 c4 c5 c6 c7 c8 c9 c10
      clear AT
      have bq := (Below.refl wr.heap.size wr).alloc (Nat.le_refl _) (.cells #[.int .i64 r, .int .i64 nn, .slice da dep.length dc, .int .i64 actor, .int .i64 kind, .int .i64 dst, .int .i64 bucket, .int .i64 mask, .int .i64 gr, .int .i64 gn, .slice ua ups.length uc] 33)
      have hj2 := HJ.out _ _ _ hj.out bq
      have hb2 := Lib.hid (hbel.out.trans (bq.mono hbel.out.size))
      have hy2 := HY.out _ (⟨⟨r, nn, dep, actor, kind, dst, bucket, mask, gr, gn, ups⟩, .slice da dep.length dc, .slice ua ups.length uc⟩ : ActT) _ HKT.out hj2 (by rw [List.length_take]; omega)
      simp only [ActT.val] at hy2
      clear hj2 bq
      obtain ⟨fn, tmps, assign, body, hy, hR⟩ := hy2
      gi_wp2
      refine hR.mono ?_
      clear c0 c1 c2 c3 c4 c5 c6 c7 c8 c9 c10
      rintro e W3 (⟨rfl, hJ3, hk3⟩ | ⟨rfl, hJx3⟩)
      · gi_wp2
        go_roundw
        case rel => exact ⟨k + 1, by omega, by first | rfl | simp, Lib.hid (by rw [FS.out]; exact hJ3), Lib.hid (hb2.out.trans hk3)⟩
        case measure => simp [intOf]; omega
      · gi_wp2
        refine bodyPost_ret (results_none rfl _ _ _) rfl ?_
        exact ⟨⟨_, rfl⟩, .inr ⟨_, by rw [← FS.out]; exact List.take_prefix _ _, hJx3⟩⟩
    · obtain rfl : k = len := by omega
      gi_wp2
      go_end0
      refine ⟨⟨_, rfl⟩, .inl ?_⟩
      have := hj.out
      rw [← N1.out, List.take_length] at this
      exact this

theorem values1_stops (n : Nat) (hn : 1 ≤ n) (G b off cap len : Nat) (ts : List ActT) (K : ActT → Prop) (hK : ∀ t ∈ ts, K t) (w0 : World)
    (h1 : ts.length = len) (hl : len ≤ 9223372036854775807) (hb : b < w0.heap.size) (hG : G < w0.heap.size)
    (hr : ∀ t ∈ ts, t.Reads w0) (hc : ∀ i, i < len → ActAt w0 b (off + i * 11) (ts.getD i t0))
    (kG : Blk w0 G [.slice (some ⟨b, off, none⟩) len cap]) :
    SeqStopsK Fence.wide n Tryz.prog 88 #[.pointer (some ⟨G, 0, none⟩)] (fun t : {t : ActT // K t} => #[t.1.val]) (Below w0.heap.size)
      (fun zs => zs.map Subtype.val = ts) (fun pre => pre.map Subtype.val <+: ts) ts.length w0 := fun l J Jx W hW hA _ hY h0 => by
  refine (values1_in n hn l G b off cap len ts K (fun zs A => ∃ ys : List {t : ActT // K t}, ys.map Subtype.val = zs ∧ J ys A) (fun zs A => ∃ ys : List {t : ActT // K t}, ys.map Subtype.val = zs ∧ Jx ys A) w0 W hK
    (fun pre A B hj hab => ?_) (fun pre x V hx hj hlt => ?_) h1 hl hb hG hW hr hc kG ⟨[], rfl, h0⟩).mono ?_
  · obtain ⟨ys, hy, hj⟩ := hj
    exact ⟨ys, hy, hA ys A B none hj ⟨hab.os, hab.tape, hab.output, hab.size, fun k hk _ => hab.block k hk⟩ (fun _ h => nomatch h)⟩
  · obtain ⟨ys, hy, hj⟩ := hj
    have hlen : ys.length < ts.length := by rw [← hy] at hlt; simpa using hlt
    refine YieldAt.mono (hY ys ⟨x, hx⟩ V hj hlen) ?_
    rintro e V' (⟨rfl, hj', hk⟩ | ⟨rfl, hj'⟩)
    · exact .inl ⟨rfl, ⟨_, by simp [hy], hj'⟩, hk⟩
    · exact .inr ⟨rfl, ⟨_, by simp [hy], hj'⟩⟩
  · rintro e V ⟨hv, h⟩
    refine ⟨hv, ?_⟩
    rcases h with ⟨ys, hy, hj⟩ | ⟨pre, hp, ys, hy, hj⟩
    · exact .inl ⟨ys, hy, hj⟩
    · exact .inr ⟨ys, by rw [← hy] at hp; exact hp, hj⟩
theorem values0_stops (n N : Nat) (hn : 1 ≤ n) (G cap : Nat) (a : Option Addr) (K : ActT → Prop) (w0 : World) (hG : G < w0.heap.size) (kG : Blk w0 G [.slice a 0 cap]) :
    SeqStopsK Fence.wide n Tryz.prog 88 #[.pointer (some ⟨G, 0, none⟩)] (fun t : {t : ActT // K t} => #[t.1.val]) (Below w0.heap.size)
      (fun zs => zs.map Subtype.val = []) (fun pre => pre.map Subtype.val <+: []) N w0 := fun l J Jx W hW hA _ hY h0 => by
  have s0 := (kG.below hW hG).cell 0
  simp only [List.getElem?_cons_zero] at s0
  refine callsIn_of_wp Tryz.func88 rfl trivial ?_ rfl
  simp only [Tryz.ntmps88, List.size_toArray, List.length_cons, List.length_nil, Nat.reduceAdd, Nat.reduceSub, Array.replicate_succ, Array.replicate_zero, List.push_toArray, List.append_toArray, List.nil_append, List.cons_append]
  have H0 := Lib.hid h0
  clear h0 hY hA kG
  gi_wp2
  gi_loopw [7] (fun i wr => i = .int .i64 0 ∧ Hid (J [] wr)) (fun i _ => 0)
  case atStart => exact ⟨rfl, H0⟩
  case round =>
    obtain ⟨rfl, hj⟩ := hrel
    gi_wp2
    go_end0
    exact ⟨⟨_, rfl⟩, .inl ⟨[], rfl, hj.out⟩⟩

def ValuesMade (w : World) (v : Value) (e : Ending) (w' : World) : Prop := ∃ G, e = .returned (.func (.func 88) #[] #[.pointer (some ⟨G, 0, none⟩)]) ∧ w.heap.size ≤ G ∧ Blk w' G [v] ∧ Below w.heap.size w w'
theorem values_any (a : Option Addr) (n c : Nat) (w : World) : Calls Tryz.prog 59 #[.slice a n c] w (ValuesMade w (.slice a n c)) := by
  have kG := Lib.hid (Blk.new w #[.slice a n c] 23)
  have b0 := Lib.hid ((Below.refl w.heap.size w).alloc (Nat.le_refl _) (.cells #[.slice a n c] 23))
  go_enter Tryz.func59, Tryz.ntmps59
  go_wp2
  go_ret
  exact ⟨_, rfl, Nat.le_refl _, kG.out, b0.out⟩
/-- a copy of a list, in a row of its own -/
theorem copyVals_any (v : Value) (ts : List ActT) (G : Nat) (w : World) (h : ActsT w v ts) (hs : SmallL (ts.map ActT.a)) (kG : Blk w G [v]) :
    Calls Tryz.prog 58 #[.func (.func 88) #[] #[.pointer (some ⟨G, 0, none⟩)]] w fun e w' => ∃ v', e = .returned v' ∧ Row w' w.heap.size v' (ts.map ActT.a) ∧ Below w.heap.size w w' := by
  have hK : ∀ t ∈ ts, t.Reads w ∧ t.a.Small := fun t ht => ⟨h.1 t ht, hs.2 _ (List.mem_map_of_mem ht)⟩
  have hl : ts.length ≤ 1048576 := by simpa using hs.1
  rcases h.2 with ⟨a, cap, rfl, rfl⟩ | ⟨b, off, cap, rfl, h1, h2, h3, h4⟩
  · exact copyActs_row _ _ (fun t => t.Reads w ∧ t.a.Small) [] 0 w (enters_of Tryz.func88 (by kernel_rfl) rfl) (values0_stops 5 0 (by omega) G _ _ _ w kG.lt kG) (fun t h => h) (by omega)
  · exact copyActs_row _ _ (fun t => t.Reads w ∧ t.a.Small) _ ts.length w (enters_of Tryz.func88 (by kernel_rfl) rfl) (values1_stops 5 (by omega) G b off _ _ ts _ hK w rfl (by omega) h1 kG.lt (fun t ht => h.1 t ht) h4 kG) (fun t h => h) hl
end Go.Proofs.YtkcfcmigcphjlaaGreat



namespace Go.Proofs.YtkcfcmigcphjlaaGreat
open Go.RowKit
set_option linter.unusedVariables false
set_option linter.unusedSimpArgs false

set_option maxHeartbeats 1600000 in
theorem put1_any (C : Nat) (pr pn pactor pkind pdst pbucket pmask pgr pgn : Int) (pa qa : Option Addr) (pl pc ql qc : Nat) (p : ActM) (t : ActT) (w : World) (kC : Blk w C [.int .i64 pr, .int .i64 pn, .slice pa pl pc, .int .i64 pactor, .int .i64 pkind, .int .i64 pdst, .int .i64 pbucket, .int .i64 pmask, .int .i64 pgr, .int .i64 pgn, .slice qa ql qc]) (hp : ActIs w (.agg #[.int .i64 pr, .int .i64 pn, .slice pa pl pc, .int .i64 pactor, .int .i64 pkind, .int .i64 pdst, .int .i64 pbucket, .int .i64 pmask, .int .i64 pgr, .int .i64 pgn, .slice qa ql qc]) p) (ht : t.Reads w) :
    Calls Tryz.prog 90 #[t.val, .pointer (some ⟨C, 0, none⟩)] w fun e w' => e = .returned (.bool (aheadM p t.a)) ∧ Below w.heap.size w w' := by
  obtain ⟨X, hX⟩ : ∃ X, X = aheadM p t.a := ⟨_, rfl⟩
  have AH := Lib.hid (fun W (hW : Below w.heap.size w W) => implAhead_any (.agg #[.int .i64 pr, .int .i64 pn, .slice pa pl pc, .int .i64 pactor, .int .i64 pkind, .int .i64 pdst, .int .i64 pbucket, .int .i64 pmask, .int .i64 pgr, .int .i64 pgn, .slice qa ql qc]) t.val p t.a W (hp.below hW) (ht.below hW).is)
  rw [← hX] at AH ⊢
  obtain ⟨⟨r, nn, dep, actor, kind, dst, bucket, mask, gr, gn, ups⟩, vd, vs⟩ := t
  have hsd := ints_len ht.1
  have hsu := ups_len ht.2
  simp only at hsd hsu
  obtain ⟨da, dc, rfl⟩ := hsd
  obtain ⟨ua, uc, rfl⟩ := hsu
  simp only [ActT.val] at AH ⊢
  have b0 := (Below.refl w.heap.size w).alloc (Nat.le_refl _) (.cells #[.int .i64 r, .int .i64 nn, .slice da dep.length dc, .int .i64 actor, .int .i64 kind, .int .i64 dst, .int .i64 bucket, .int .i64 mask, .int .i64 gr, .int .i64 gn, .slice ua ups.length uc] 33)
  have kT := Blk.new w #[.int .i64 r, .int .i64 nn, .slice da dep.length dc, .int .i64 actor, .int .i64 kind, .int .i64 dst, .int .i64 bucket, .int .i64 mask, .int .i64 gr, .int .i64 gn, .slice ua ups.length uc] 33
  have kC1 := kC.below b0 kC.lt
  obtain ⟨Q, hQ⟩ : ∃ Q, Q = w.heap.size := ⟨_, rfl⟩
  clear hp ht hX kC
  go_enter Tryz.func90, Tryz.ntmps90
  go_upto_region 1 with (fail)
  rw [← hQ] at kT ⊢
  generalize w.alloc (.cells #[.int .i64 r, .int .i64 nn, .slice da dep.length dc, .int .i64 actor, .int .i64 kind, .int .i64 dst, .int .i64 bucket, .int .i64 mask, .int .i64 gr, .int .i64 gn, .slice ua ups.length uc] 33) = W0 at b0 kT kC1 ⊢
  clear hQ
  have a0 := kC1.cell 0
  have a1 := kC1.cell 1
  have a2 := kC1.cell 2
  have a3 := kC1.cell 3
  have a4 := kC1.cell 4
  have a5 := kC1.cell 5
  have a6 := kC1.cell 6
  have a7 := kC1.cell 7
  have a8 := kC1.cell 8
  have a9 := kC1.cell 9
  have a10 := kC1.cell 10
  simp only [List.getElem?_cons_zero, List.getElem?_cons_succ] at a0 a1 a2 a3 a4 a5 a6 a7 a8 a9 a10
  have c0 := kT.cell 0
  have c1 := kT.cell 1
  have c2 := kT.cell 2
  have c3 := kT.cell 3
  have c4 := kT.cell 4
  have c5 := kT.cell 5
  have c6 := kT.cell 6
  have c7 := kT.cell 7
  have c8 := kT.cell 8
  have c9 := kT.cell 9
  have c10 := kT.cell 10
  simp only [List.getElem?_cons_zero, List.getElem?_cons_succ] at c0 c1 c2 c3 c4 c5 c6 c7 c8 c9 c10
  clear kT kC1
  go_wp2_with fail
  refine (AH.out W0 b0).mono ?_
  rintro e w2 ⟨rfl, b2⟩
  go_wp2_with fail
  go_ret
  exact ⟨rfl, b0.trans (b2.mono b0.size)⟩

/-- the first place, from number i on, at which an act stands that p is ahead of; -1: there is none -/
def idxF (p : ActM) : List ActM → Nat → Int
  | [], _ => -1
  | b :: l, i => if aheadM p b = true then i else idxF p l (i + 1)
theorem idxF_find (p : ActM) : ∀ (l : List ActM) (i : Nat), idxF p l i = if l.findIdx (fun b => aheadM p b) < l.length then ((i + l.findIdx (fun b => aheadM p b) : Nat) : Int) else -1
  | [], i => by simp [idxF]
  | b :: l, i => by
    rw [idxF, List.findIdx_cons]
    cases h : aheadM p b
    · simp only [cond_false, List.length_cons, Nat.add_lt_add_iff_right, Bool.false_eq_true, if_false]
      rw [idxF_find p l (i + 1)]
      split
      · congr 1; omega
      · rfl
    · simp

set_option maxRecDepth 100000 in
set_option maxHeartbeats 3200000 in
theorem idxFunc_some (b off cap len C : Nat) (pr pn pactor pkind pdst pbucket pmask pgr pgn : Int) (pa qa : Option Addr) (pl pc ql qc : Nat) (p : ActM) (ts : List ActT) (w : World) (h1 : ts.length = len) (hl : len ≤ 1048576) (hb : b < w.heap.size) (hr : ∀ t ∈ ts, t.Reads w) (hc : ∀ i, i < len → ActAt w b (off + i * 11) (ts.getD i t0))
    (kC : Blk w C [.int .i64 pr, .int .i64 pn, .slice pa pl pc, .int .i64 pactor, .int .i64 pkind, .int .i64 pdst, .int .i64 pbucket, .int .i64 pmask, .int .i64 pgr, .int .i64 pgn, .slice qa ql qc]) (hp : ActIs w (.agg #[.int .i64 pr, .int .i64 pn, .slice pa pl pc, .int .i64 pactor, .int .i64 pkind, .int .i64 pdst, .int .i64 pbucket, .int .i64 pmask, .int .i64 pgr, .int .i64 pgn, .slice qa ql qc]) p) :
    Calls Tryz.prog 89 #[.slice (some ⟨b, off, none⟩) len cap, .func (.func 90) #[] #[.pointer (some ⟨C, 0, none⟩)]] w fun e w' => e = .returned (.int .i64 (idxF p (ts.map ActT.a) 0)) ∧ Below w.heap.size w w' := by
  obtain ⟨R, hR⟩ : ∃ R, R = idxF p (ts.map ActT.a) 0 := ⟨_, rfl⟩
  rw [← hR]
  have HR := Lib.hid hR
  have N1 := Lib.hid h1
  have HC := Lib.hid hc
  have HRd := Lib.hid hr
  have KC := Lib.hid kC
  have PU := Lib.hid (fun (t : ActT) (W : World) (hW : Below w.heap.size w W) (h : t.Reads W) => put1_any C pr pn pactor pkind pdst pbucket pmask pgr pgn pa qa pl pc ql qc p t W (kC.below hW kC.lt) (hp.below hW) h)
  clear hR h1 hc hr kC hp
  go_enter Tryz.func89, Tryz.ntmps89
  go_wp2
  go_loopw [8] (fun i wr => ∃ k : Nat, k ≤ len ∧ i = .int .i64 k ∧ Hid (R = idxF p ((ts.map ActT.a).drop k) k) ∧ Hid (Below w.heap.size w wr)) (fun i _ => len - (intOf i).toNat)
  case atStart => exact ⟨0, Nat.zero_le _, rfl, HR.out, Below.refl _ _⟩
  case round =>
    obtain ⟨k, hk, rfl, hg, hbel⟩ := hrel
    by_cases hlt : k < len
    · have hlt2 : k < ts.length := by rw [N1.out]; exact hlt
      have AT := (HC.out k hlt).below hbel.out hb
      have HT := Lib.hid ((HRd.out _ (getD_mem hlt2)).below hbel.out)
      have hst := hg.out
      rw [drop_ts hlt2, idxF] at hst
      obtain ⟨t, htt⟩ : ∃ t, t = ts.getD k t0 := ⟨_, rfl⟩
      rw [← htt] at AT HT hst
      have PT := Lib.hid (PU.out t wr hbel.out HT.out)
      obtain ⟨X, hX⟩ : ∃ X, X = aheadM p t.a := ⟨_, rfl⟩
      rw [← hX] at PT hst
      have HST := Lib.hid hst
      clear htt hst hX hg
      obtain ⟨⟨r, nn, dep, actor, kind, dst, bucket, mask, gr, gn, ups⟩, vd, vs⟩ := t
      have hsd := ints_len HT.out.1
      have hsu := ups_len HT.out.2
      simp only at hsd hsu
      obtain ⟨da, dc, rfl⟩ := hsd
      obtain ⟨ua, uc, rfl⟩ := hsu
      simp only [ActT.val] at PT
      have c0 := AT.c0
      have c1 := AT.c1
      have c2 := AT.c2
      have c3 := AT.c3
      have c4 := AT.c4
      have c5 := AT.c5
      have c6 := AT.c6
      have c7 := AT.c7
      have c8 := AT.c8
      have c9 := AT.c9
      have c10 := AT.c10
      simp only at c0 c1 c2 c3 c4 c5 c6 c7 c8 c9 c10
      clear AT
      go_wp2_with fail
      refine PT.out.mono ?_
      rintro e w2 ⟨rfl, b2⟩
      have B2 := Lib.hid (hbel.out.trans (b2.mono hbel.out.size))
      clear b2 c0 c1 c2 c3 c4 c5 c6 c7 c8 c9 c10
      cases X
      · have HRT := Lib.hid (show R = idxF p ((ts.map ActT.a).drop (k + 1)) (k + 1) by rw [HST.out]; rfl)
        go_wp2_with fail
        go_roundw
        case rel => exact ⟨k + 1, by omega, by go_num, HRT.out, B2.out⟩
        case measure => simp [intOf]; omega
      · have HRT := Lib.hid (show R = (k : Int) by rw [HST.out]; rfl)
        go_wp2_with fail
        go_ret
        exact ⟨ret_int HRT.out.symm, B2.out⟩
    · have HRT := Lib.hid (show R = -1 by rw [hg.out, drop_end (by rw [List.length_map, N1.out]; omega)]; rfl)
      go_wp2_with fail
      go_ret
      exact ⟨ret_int HRT.out.symm, hbel.out⟩
theorem idxFunc_any (v : Value) (C : Nat) (pr pn pactor pkind pdst pbucket pmask pgr pgn : Int) (pa qa : Option Addr) (pl pc ql qc : Nat) (p : ActM) (ts : List ActT) (w : World) (h : ActsT w v ts) (hl : ts.length ≤ 1048576) (kC : Blk w C [.int .i64 pr, .int .i64 pn, .slice pa pl pc, .int .i64 pactor, .int .i64 pkind, .int .i64 pdst, .int .i64 pbucket, .int .i64 pmask, .int .i64 pgr, .int .i64 pgn, .slice qa ql qc]) (hp : ActIs w (.agg #[.int .i64 pr, .int .i64 pn, .slice pa pl pc, .int .i64 pactor, .int .i64 pkind, .int .i64 pdst, .int .i64 pbucket, .int .i64 pmask, .int .i64 pgr, .int .i64 pgn, .slice qa ql qc]) p) :
    Calls Tryz.prog 89 #[v, .func (.func 90) #[] #[.pointer (some ⟨C, 0, none⟩)]] w fun e w' => e = .returned (.int .i64 (idxF p (ts.map ActT.a) 0)) ∧ Below w.heap.size w w' := by
  rcases h.2 with ⟨a, cap, rfl, rfl⟩ | ⟨b, off, cap, rfl, q1, q2, q3, q4⟩
  · go_enter Tryz.func89, Tryz.ntmps89
    go_wp2
    go_loop [8] (fun i => i = .int .i64 0) (fun _ => 0)
    case atStart => exact rfl
    case round =>
      obtain rfl := hrel
      go_wp2
      go_ret
      exact ⟨rfl, Below.refl _ _⟩
  · exact idxFunc_some b off cap _ C pr pn pactor pkind pdst pbucket pmask pgr pgn pa qa pl pc ql qc p ts w rfl hl q1 h.1 q4 kC hp

/-- slices.Insert of one act into a row of one's own -/
theorem insert_any (lo B n i : Nat) (v : Value) (ts : List ActT) (t : ActT) (w : World) (hn : ts.length = n) (hi : i ≤ n) (hmx : n ≤ 1048576) (hlo : lo ≤ w.heap.size) (ho : w.ownsRow lo 33 11 v n (va ts))
    (hB : w.heap[B]? = some (.cells t.cells.toArray 33 (0, 0))) (hBv : v.ownBlock ≠ some B) (h1 : ∀ u ∈ va ts, u.oneCell' = true) (h2 : ∀ u ∈ t.cells, u.oneCell' = true) :
    Calls Tryz.prog 91 #[v, .int .i64 i, .slice (some ⟨B, 0, none⟩) 1 1] w fun e w' =>
      ∃ v', e = .returned v' ∧ w'.ownsRow lo 33 11 v' (n + 1) (va (ts.take i ++ t :: ts.drop i)) ∧ w.grownBy w' v.ownBlock := by
  by_cases he : i = n
  · subst he
    rw [show ts.take i ++ t :: ts.drop i = ts ++ [t] by rw [← hn, List.take_length, List.drop_length]]
    exact insert_end lo B i v ts t w hn hmx hlo ho hB h2
  · obtain ⟨hl, hv⟩ := ho
    rcases hv with ⟨rfl, rfl⟩ | ⟨g, cap, cur, rfl, hg, hh, hnc, hcm, hcs, hct⟩
    · omega
    · have hBg : B ≠ g := fun e => hBv (by rw [e]; rfl)
      by_cases hr : n + 1 ≤ cap
      · exact (insert_room lo g B n cap i cur ts t w hn (by omega) hr hcm hg hh hcs hct hB hBg h1 h2).mono fun e w' ⟨v, he, _, h3, h4⟩ => ⟨v, he, h3, h4⟩
      · exact insert_grow lo g B n cap i cur ts t w hn (by omega) hnc (by omega) hmx hlo hh hcs hct hB h1 h2
theorem Lists.split {w : World} : ∀ {t1 t2 : List ActT} {bs : List Nat}, Lists w (t1 ++ t2) bs → ∃ b1 b2, bs = b1 ++ b2 ∧ Lists w t1 b1 ∧ Lists w t2 b2
  | [], t2, bs, h => ⟨[], bs, rfl, rfl, h⟩
  | t :: t1, t2, bs, ⟨ds, us, rest, e, h1, h2, h3⟩ => by
    obtain ⟨b1, b2, rfl, h4, h5⟩ := Lists.split h3
    exact ⟨ds ++ us ++ b1, b2, by rw [e]; simp, ⟨ds, us, b1, rfl, h1, h2, h4⟩, h5⟩
theorem Lists.join {w : World} : ∀ {t1 t2 : List ActT} {b1 b2 : List Nat}, Lists w t1 b1 → Lists w t2 b2 → Lists w (t1 ++ t2) (b1 ++ b2)
  | [], t2, b1, b2, h, k => by have : b1 = [] := h; subst this; exact k
  | t :: t1, t2, b1, b2, ⟨ds, us, rest, e, h1, h2, h3⟩, k => ⟨ds, us, rest ++ b2, by rw [e]; simp, h1, h2, Lists.join h3 k⟩
end Go.Proofs.YtkcfcmigcphjlaaGreat
