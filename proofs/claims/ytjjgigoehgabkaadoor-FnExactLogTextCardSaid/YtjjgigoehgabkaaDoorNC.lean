/- The program's setOf: the map of a list and how many acts each place has. -/
import Derived.Test.YtjjgigoehgabkaaDoorNB
import Derived.Deep.DeepCutAuto


namespace Go.Proofs.YtjjgigoehgabkaaDoor
open Go.RowKit
set_option linter.unusedVariables false

/-- a set that was read, as a value -/
def setVal (v : Value) (mb : Nat) (n : Int) (l : List ActM) : Value := .agg #[v, .map (some mb), .int .i64 n, .int .i64 (cntM l 0), .int .i64 (cntM l 1), .int .i64 (cntM l 2), .int .i64 (cntM l 3)]
def noSet : Value := .agg #[.slice none 0 0, .map none, .int .i64 0, .int .i64 0, .int .i64 0, .int .i64 0, .int .i64 0]
theorem setOk_prog (l : List ActM) (n : Int) : setOkM l n = (decide (1 ≤ n) && decide (n ≤ 4) && decide (l.length ≤ 60) && (orderM n none l && countsUpM l n.toNat && closedM l n.toNat)) := by
  unfold setOkM
  by_cases h : 1 ≤ n
  · obtain ⟨m, rfl⟩ := Int.eq_ofNat_of_zero_le (show 0 ≤ n by omega)
    congr 1
    have := prog_ref l m
    unfold progM afterM at this
    rw [Int.toNat_natCast]
    exact this.symm
  · simp [h]

/-- a store into a map of the call's own, as one step of a region that draws -/
theorem step_mapUpdate_own {H : Type} {P : Program} {ops : Array Oper} {o : Oper} {a : Act} {w : World} {K : Act → World → Prop} {Q : Exit → Act → World → Prop} {E : Prop}
    (hg : o.guard = none) (hd : o.dst = none) (m x v : Operand) (t : TypeId) (hop : o.op = Op.mapUpdate t m x v)
    (k e : TypeId) (kd : Maps.Keyed P k) (ht : P.underlying t = some (.map k e)) (R : Value → Option (DataW H × List MemPlace)) (b n : Nat) (D : DataW H)
    (hm : a.eval m = .map (some b)) (hown : w.ownsMap P k R b n D) (hn : n < maxLen) (key val : Value) (kl : Lit) (hx : a.eval x = key) (hv : a.eval v = val) (hkey : keyOf P k key = some kl)
    (d : DataW H) (ps : List MemPlace) (hval : R val = some (d, ps))
    (hK : ∀ w', w'.ownsMap P k R b (n + 1) (D.put kl d) → w.grownBy w' (some b) → K a w') :
    if Region.wanted o (yielded ops a.tmps) = true then Oper.wp P o a w K Q else E := by
  have hw : Region.wanted o (yielded ops a.tmps) = true := by simp [Region.wanted, hg]
  rw [if_pos hw]
  obtain ⟨w', hrun, r1, r2⟩ := hown.update kd ht hn hkey hval
  unfold Oper.wp
  simp [execOp, hop, hm, hx, hv, hrun, Result.andThen]
  unfold Oper.upon
  simp [hd, Act.put]
  exact hK w' r1 r2
theorem name_bounds {a : ActM} {n : Int} (h : actOkM a n = true) : I64 a.r ∧ I64 a.n := by
  simp only [actOkM, Bool.and_eq_true, decide_eq_true_eq] at h
  unfold I64
  omega
theorem wf_small (k : Nat) (h : k ≤ 60) : (Lit.int .i64 (k : Int)).wf = true := by
  rw [← wrap_small (k : Int) (by omega) (by omega)]
  exact wrap64_wf _
theorem cnt_le (l : List ActM) (q n : Nat) (h : l.length ≤ n) : cntM l q ≤ n := Nat.le_trans (List.length_filter_le _ _) h
theorem cnt_cell (a : Option Addr) (cap M : Nat) (m : Int) (l : List ActM) (q : Nat) (h : q < 4) (L : Nat) : ([.slice a L cap, .map (some M), .int .i64 m, .int .i64 (cntM l 0), .int .i64 (cntM l 1), .int .i64 (cntM l 2), .int .i64 (cntM l 3)] : List Value)[3 + q]? = some (.int .i64 (cntM l q)) := by
  match q, h with
  | 0, _ => rfl
  | 1, _ => rfl
  | 2, _ => rfl
  | 3, _ => rfl
theorem cnt_set (a : Option Addr) (cap M : Nat) (m : Int) (l : List ActM) (q : Nat) (h : q < 4) (L : Nat) (t : ActM) (ht : t.r = (q : Int)) : ([.slice a L cap, .map (some M), .int .i64 m, .int .i64 (cntM l 0), .int .i64 (cntM l 1), .int .i64 (cntM l 2), .int .i64 (cntM l 3)] : List Value).set (3 + q) (.int .i64 ((cntM l q : Int) + 1)) = [.slice a L cap, .map (some M), .int .i64 m, .int .i64 (cntM (l ++ [t]) 0), .int .i64 (cntM (l ++ [t]) 1), .int .i64 (cntM (l ++ [t]) 2), .int .i64 (cntM (l ++ [t]) 3)] := by
  simp only [cnt_app, cnt_one, ht]
  match q, h with
  | 0, _ => simp
  | 1, _ => simp
  | 2, _ => simp
  | 3, _ => simp
theorem cnt_range (l : List ActM) (q : Nat) (h : l.length ≤ 60) : (0 : Int) ≤ (cntM l q : Int) ∧ (cntM l q : Int) ≤ 100 := by
  have := cnt_le l q 60 h
  omega
theorem four_cnt (l : List ActM) (p : Nat) (h : p < 4) : [(cntM l 0 : Int), cntM l 1, cntM l 2, cntM l 3].getD p 0 = (cntM l p : Int) := by
  match p, h with
  | 0, _ => rfl
  | 1, _ => rfl
  | 2, _ => rfl
  | 3, _ => rfl
theorem clockM_len (l : List ActM) (n : Nat) : (clockM l n).length = n := by rw [clockM, clockFrom_length]; simp
theorem cnt_out (l : List ActM) (n p : Nat) (h : n ≤ p) (hl : ∀ a ∈ l, a.r < n) : cntM l p = 0 := by
  unfold cntM
  rw [List.length_eq_zero_iff, List.filter_eq_nil_iff]
  intro a ha
  have := hl a ha
  simp
  omega
theorem clock_counts (l : List ActM) (m : Nat) (h1 : 1 ≤ m) (h4 : m ≤ 4) (hl : l.length ≤ 60) (hok : ∀ a ∈ l, actOkM a m = true) :
    okB (clockM l m) = true ∧ (cntM l 0 : Int) = cx (clockM l m) 0 ∧ (cntM l 1 : Int) = cx (clockM l m) 1 ∧ (cntM l 2 : Int) = cx (clockM l m) 2 ∧ (cntM l 3 : Int) = cx (clockM l m) 3 := by
  have hr : ∀ a ∈ l, 0 ≤ a.r ∧ a.r < m := fun a ha => ⟨(ok_parts (hok a ha)).1, (ok_parts (hok a ha)).2.1⟩
  have hlen := clockM_len l m
  have key : ∀ p, (clockM l m).getD p 0 = (cntM l p : Int) := by
    intro p
    by_cases hp : p < m
    · exact clockM_cnt l hr p hp
    · rw [cnt_out l m p (by omega) (fun a ha => (hr a ha).2)]
      simp [List.getD, List.getElem?_eq_none (show (clockM l m).length ≤ p by omega)]
  have hok : okB (clockM l m) = true := by
    rw [okB_iff]
    refine ⟨by omega, by omega, fun x hx => ?_⟩
    obtain ⟨i, hi, rfl⟩ := List.mem_iff_getElem.1 hx
    have := key i
    simp only [List.getD, List.getElem?_eq_getElem hi, Option.getD_some] at this
    have := cnt_le l i 60 hl
    omega
  refine ⟨hok, ?_, ?_, ?_, ?_⟩ <;> rw [cx_ok hok, key]
theorem take_step (ts : List ActT) (k : Nat) (h : k < ts.length) : (ts.map ActT.a).take (k + 1) = (ts.map ActT.a).take k ++ [(ts.getD k t0).a] := by
  rw [List.take_add_one]
  simp [List.getD, h]

end Go.Proofs.YtjjgigoehgabkaaDoor
