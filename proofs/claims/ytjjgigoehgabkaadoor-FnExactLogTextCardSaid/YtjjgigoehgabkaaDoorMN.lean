/- The reference's l3put: the walk. The reference's AddAct. -/
import Derived.Test.YtjjgigoehgabkaaDoorMC
import Derived.Test.YtjjgigoehgabkaaDoorCI
import Derived.Deep.DeepCutAuto
import Derived.BigQuiet
import Derived.Deep.QuietTactic





namespace Go.Proofs.YtjjgigoehgabkaaDoor
open Go.RowKit
set_option linter.unusedVariables false

/-- the elements of a row that grew keep their lists -/
theorem owns_list {w w' : World} {lo K size n : Nat} {v : Value} {xs : List Value} {ts : List ActT} (h : ∀ t ∈ ts, t.Owns w lo) (ho : w.ownsRow K 30 size v n xs) (hg : w.grownBy w' v.ownBlock) : ∀ t ∈ ts, t.Owns w' lo :=
  fun t ht => (h t ht).else_ hg (own_else ho)
theorem owns_below {w w' : World} {lo : Nat} {ts : List ActT} (h : ∀ t ∈ ts, t.Owns w lo) (hb : Below w.heap.size w w') : ∀ t ∈ ts, t.Owns w' lo := fun t ht => (h t ht).below hb
/-- an act put in -/
def Put (w : World) (lo : Nat) (l : List ActM) (e : Ending) (w' : World) : Prop := ∃ v, e = .returned v ∧ OwnActs w' lo v l ∧ Below w.heap.size w w'
theorem slice_of {w : World} {t : ActT} (h : t.Reads w) : ∃ x m c y n d, t.vd = .slice x m c ∧ t.vs = .slice y n d := by
  obtain ⟨x, c, h1⟩ := ints_len h.1
  obtain ⟨y, d, h2⟩ := ups_len h.2
  exact ⟨x, _, c, y, _, d, h1, h2⟩

theorem put_own {W : World} {lo j : Nat} {v : Value} {ts : List ActT} {t' : ActT} {a : ActM} (hr : W.ownsRow lo 30 11 v (ts.length + 1) (va (ts.take j ++ t' :: ts.drop j))) (he : ∀ x ∈ ts, x.Owns W lo) (ht : t'.Owns W lo)
    (ha : t'.a = a) (hj : putJ (ts.map ActT.a) a ts.length = j) (hl : j ≤ ts.length) : OwnActs W lo v (putM (ts.map ActT.a) a) := by
  refine ⟨ts.take j ++ t' :: ts.drop j, ?_, ?_, fun x hx => ?_⟩
  · unfold putM
    rw [List.length_map, hj, ← ha]
    simp [List.map_append, List.map_take, List.map_drop]
  · rw [cur_length ts t' j hl]
    exact hr
  · simp only [List.mem_append, List.mem_cons] at hx
    rcases hx with hx | rfl | hx
    · exact he x (List.mem_of_mem_take hx)
    · exact ht
    · exact he x (List.mem_of_mem_drop hx)

end Go.Proofs.YtjjgigoehgabkaaDoor
namespace Go.Proofs.YtjjgigoehgabkaaDoor
open Go.RowKit
set_option linter.unusedVariables false

theorem scan_all {n : Int} : ∀ (l : List ActM) (p : Option ActM) (next v : List Int), scanM n p next l = some v → ∀ a ∈ l, actOkM a n = true
  | [], _, _, _, _, a, ha => by cases ha
  | x :: l, p, next, v, h, a, ha => by
    rw [scanM] at h
    split at h
    · rename_i hx
      rcases List.mem_cons.1 ha with rfl | ha
      · exact hx.1
      · exact scan_all l _ _ v h a ha
    · cases h
theorem setOk_all {l : List ActM} {n : Int} (h : setOkM l n = true) : 1 ≤ n ∧ n ≤ 4 ∧ l.length ≤ 60 ∧ ∀ a ∈ l, actOkM a n = true := by
  simp only [setOkM, Bool.and_eq_true, decide_eq_true_eq] at h
  obtain ⟨⟨⟨h1, h2⟩, h3⟩, h4⟩ := h
  refine ⟨h1, h2, h3, ?_⟩
  cases hs : scanM n none (List.replicate n.toNat 0) l with
  | none => rw [hs] at h4; cases h4
  | some v => exact scan_all l none _ v hs
theorem ok_small {a : ActM} {n : Int} (h : actOkM a n = true) : a.Small := by
  have hu : a.ups.length ≤ 5 := by
    simp only [actOkM, Bool.and_eq_true, fieldsM, okUps, decide_eq_true_eq] at h
    have h := h.2
    split at h
    · simp only [Bool.and_eq_true, decide_eq_true_eq] at h; omega
    · split at h
      · simp only [Bool.and_eq_true, decide_eq_true_eq] at h; omega
      · split at h
        · simp only [Bool.and_eq_true, decide_eq_true_eq] at h; omega
        · split at h
          · simp only [Bool.and_eq_true, decide_eq_true_eq] at h; omega
          · cases h
  have hd : a.dep.length ≤ 4 := by
    simp only [actOkM, Bool.and_eq_true, decide_eq_true_eq] at h
    omega
  exact ⟨by omega, by omega⟩
theorem setOk_small {l : List ActM} {n : Int} (h : setOkM l n = true) : SmallL l := by
  obtain ⟨_, _, h3, h4⟩ := setOk_all h
  exact ⟨by omega, fun a ha => ok_small (h4 a ha)⟩

/-- the model of AddAct -/
def addM (l : List ActM) (n : Int) (a : ActM) : Option (List ActM) :=
  if setOkM l n = true ∧ findM l a.r a.n < 0 ∧ setOkM (putM l a) n = true then some (putM l a) else none
def AddedNo (w : World) (e : Ending) (w' : World) : Prop := e = .returned (.tuple #[.slice none 0 0, .bool false]) ∧ Below w.heap.size w w'
def AddedYes (w : World) (l : List ActM) (e : Ending) (w' : World) : Prop := ∃ v, e = .returned (.tuple #[v, .bool true]) ∧ OwnActs w' w.heap.size v l ∧ Below w.heap.size w w'
def Added (w : World) (o : Option (List ActM)) (e : Ending) (w' : World) : Prop := (o = none ∧ AddedNo w e w') ∨ ∃ l, o = some l ∧ AddedYes w l e w'

end Go.Proofs.YtjjgigoehgabkaaDoor
