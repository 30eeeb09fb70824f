/- copy at elements of several cells; the list that slices.Insert makes. -/
import Derived.Test.YtjmefifdofgncaaTG
import Derived.Laws.CopyRow
import Derived.Lib.AppendZerosOnto
import Derived.Lib.Overlaps
import Derived.Laws.Externs
namespace Go.Proofs.Ytjmefifdofgncaa
open Go.RowKit
set_option linter.unusedVariables false
set_option linter.unusedSimpArgs false

theorem run_copy_k {P : Program} (w : World) (dT sT ty elem : TypeId) (g o dLen dCap : Nat) (a : Addr) (sLen sCap : Nat) (cur : Array Value) (t : TypeId) (cs : List Value) (i : TypeInfo) (size m : Nat)
    (hu : P.underlying dT = some (.slice elem)) (hi : P.info? elem = some i) (hsz : i.size = size)
    (hg : w.heap[g]? = some (.cells cur t (0, 0))) (hm : Nat.min sLen dLen = m) (hn : cs.length = m * size)
    (hsrc : ∀ j v, cs[j]? = some v → w.cell? (a.add j) = some v) (hfit : o + cs.length ≤ cur.size) (h1 : ∀ v ∈ cs, v.oneCell' = true) :
    (Builtin.copy_ #[dT, sT] ty #[.slice (some ⟨g, o, none⟩) dLen dCap, .slice (some a) sLen sCap]).run P w =
      .ok (goInt m) (w.setRow g (cur.toList.take o ++ cs ++ cur.toList.drop (o + cs.length)).toArray) := by
  have hl := run_loadCells_list (P := P) w a cs hsrc
  have hst := run_storeCells_at P g o t cs 0 cur w hg (by simpa using hfit) h1
  subst hsz
  simp [Builtin.copy_, run_underlying hu, Builtin.lenOf, Builtin.firstCells, sizeOf, typeInfo, hi, hm, ← hn, hl, hst]

/-- what stands at the front behind the two copies -/
theorem ins_room {α : Type} (A D T R1 R2 F : List α) (hF : (D ++ R1).take T.length = F) (hR : R1.length = T.length) :
    let c := A ++ D ++ R1 ++ R2
    let c1 := c.take (A.length + T.length) ++ D ++ c.drop (A.length + T.length + D.length)
    c1.take A.length ++ T ++ c1.drop (A.length + T.length) = A ++ T ++ D ++ R2 := by
  intro c c1
  have hFl : F.length = T.length := by rw [← hF, List.length_take, List.length_append, hR]; omega
  have e1 : c.take (A.length + T.length) = A ++ F := by
    show (A ++ D ++ R1 ++ R2).take _ = _
    rw [List.append_assoc, List.append_assoc, List.take_append, List.take_of_length_le (by omega)]
    congr 1
    rw [show A.length + T.length - A.length = T.length by omega, ← List.append_assoc, List.take_append, hF]
    rw [show T.length - (D ++ R1).length = 0 by rw [List.length_append, hR]; omega, List.take_zero, List.append_nil]
  have e2 : c.drop (A.length + T.length + D.length) = R2 := by
    show (A ++ D ++ R1 ++ R2).drop _ = _
    rw [show A.length + T.length + D.length = (A ++ D ++ R1).length by simp [hR]; omega, List.drop_left]
  have e3 : c1 = A ++ F ++ D ++ R2 := by show _ ++ D ++ _ = _; rw [e1, e2]
  rw [e3]
  have e4 : (A ++ F ++ D ++ R2).take A.length = A := by rw [List.append_assoc, List.append_assoc, List.take_left]
  have e5 : (A ++ F ++ D ++ R2).drop (A.length + T.length) = D ++ R2 := by
    rw [show A.length + T.length = (A ++ F).length by simp [hFl], List.append_assoc (A ++ F), List.drop_left]
  rw [e4, e5]
  simp
/-- and in the new row -/
theorem ins_grow {α : Type} (A D T Z1 Z2 : List α) (hZ : Z1.length = T.length + D.length) :
    let c := A ++ Z1 ++ Z2
    let c1 := c.take A.length ++ T ++ c.drop (A.length + T.length)
    c1.take (A.length + T.length) ++ D ++ c1.drop (A.length + T.length + D.length) = A ++ T ++ D ++ Z2 := by
  intro c c1
  obtain ⟨Za, Zb, rfl, hZa⟩ : ∃ Za Zb, Z1 = Za ++ Zb ∧ Za.length = T.length := ⟨Z1.take T.length, Z1.drop T.length, (List.take_append_drop _ _).symm, by rw [List.length_take]; omega⟩
  have hZb : Zb.length = D.length := by rw [List.length_append] at hZ; omega
  have e1 : c.take A.length = A := by show (A ++ (Za ++ Zb) ++ Z2).take _ = _; rw [List.append_assoc, List.take_left]
  have e2 : c.drop (A.length + T.length) = Zb ++ Z2 := by
    show (A ++ (Za ++ Zb) ++ Z2).drop _ = _
    rw [show A.length + T.length = (A ++ Za).length by simp [hZa], show A ++ (Za ++ Zb) ++ Z2 = (A ++ Za) ++ (Zb ++ Z2) by simp, List.drop_left]
  have e3 : c1 = A ++ T ++ (Zb ++ Z2) := by show _ ++ T ++ _ = _; rw [e1, e2]
  rw [e3]
  rw [show A.length + T.length = (A ++ T).length by simp, List.take_left]
  rw [show (A ++ T).length + D.length = (A ++ T ++ Zb).length by simp [hZb]; omega, show A ++ T ++ (Zb ++ Z2) = (A ++ T ++ Zb) ++ Z2 by simp, List.drop_left]
/-- a copy as one step of a region that draws, and of a plain one -/
theorem wp_copy_is {P : Program} (w : World) {o : Oper} {a : Act} {K : Act → World → Prop} {Q : Exit → Act → World → Prop} (d s : Operand) (t t' : TypeId)
    (ho : o.op = .call { callee := .builtin .copy, args := #[d, s], argTypes := #[t, t'] }) (v u : Value) (hd : a.eval d = v) (hs : a.eval s = u) {v' : Value} {w' : World}
    (hr : (Builtin.copy_ #[t, t'] o.type #[v, u]).run P w = .ok v' w') (h : K (a.put o.dst v') w') : o.wp P a w K Q := by
  unfold Oper.wp execOp
  simp only [ho, resolve, invoke, builtin, Sem.run_bind, Sem.run_pure, Result.andThen_ok, List.map_toArray, List.map_cons, List.map_nil, hd, hs, hr]
  exact h
theorem wpList_copy_is {P : Program} (w : World) {ops : Array Oper} {rest : List Oper} {o : Oper} {a : Act} {Q : Exit → Act → World → Prop} (hgd : o.guard = none) (d s : Operand) (t t' : TypeId)
    (ho : o.op = .call { callee := .builtin .copy, args := #[d, s], argTypes := #[t, t'] }) (v u : Value) (hd : a.eval d = v) (hs : a.eval s = u) {v' : Value} {w' : World}
    (hr : (Builtin.copy_ #[t, t'] o.type #[v, u]).run P w = .ok v' w') (h : wpList P ops Q rest (a.put o.dst v') w') : wpList P ops Q (o :: rest) a w :=
  wpList_plain hgd fun _ hK => wp_copy_is w d s t t' ho v u hd hs hr (hK _ _ h)
theorem step_copy_is {P : Program} {ops : Array Oper} {o : Oper} {a : Act} {w : World} {K : Act → World → Prop} {Q : Exit → Act → World → Prop} {E : Prop} (hgd : o.guard = none) (d s : Operand) (t t' : TypeId)
    (ho : o.op = .call { callee := .builtin .copy, args := #[d, s], argTypes := #[t, t'] }) (v u : Value) (hd : a.eval d = v) (hs : a.eval s = u) {v' : Value} {w' : World}
    (hr : (Builtin.copy_ #[t, t'] o.type #[v, u]).run P w = .ok v' w') (h : K (a.put o.dst v') w') : if Region.wanted o (yielded ops a.tmps) = true then Oper.wp P o a w K Q else E := by
  have hw : Region.wanted o (yielded ops a.tmps) = true := by simp [Region.wanted, hgd]
  rw [if_pos hw]
  exact wp_copy_is w d s t t' ho v u hd hs hr h
theorem set_owned {w : World} {g e size n cap : Nat} {cur : Array Value} {xs : List Value} (hg : w.heap[g]? = some (.cells cur e (0, 0))) (base : Nat) (hb : base ≤ g) (hn : n ≤ cap) (hc : cap ≤ maxLen) (hs : cur.size = cap * size)
    (hl : xs.length = n * size) (ht : cur.toList.take (n * size) = xs) : w.ownsRow base e size (.slice (some ⟨g, 0, none⟩) n cap) n xs :=
  ⟨hl, .inr ⟨g, cap, cur, rfl, hb, hg, hn, hc, hs, ht⟩⟩
theorem grown_setRow (w : World) (g : Nat) (cs : Array Value) : w.grownBy (w.setRow g cs) (some g) :=
  ⟨rfl, rfl, rfl, by simp, fun k hk hn => setRow_other w g k cs (fun e => hn (by rw [e]))⟩
end Go.Proofs.Ytjmefifdofgncaa
