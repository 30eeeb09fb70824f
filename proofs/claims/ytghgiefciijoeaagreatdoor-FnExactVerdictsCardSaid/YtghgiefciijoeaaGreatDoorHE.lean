/- HE, KD. -/
import Derived.Test.YtghgiefciijoeaaGreatDoorMN
import Derived.Test.YtghgiefciijoeaaGreatDoorHC

namespace Go.Proofs.YtghgiefciijoeaaGreatDoor
open Go.RowKit
set_option linter.unusedVariables false
def ClockMade (w : World) (l : List ActM) (n : Nat) (e : Ending) (w' : World) : Prop :=
 e = .returned (.slice (some ⟨w.heap.size, 0, none⟩) n n) ∧ w'.ownsRow w.heap.size 3 1 (.slice (some ⟨w.heap.size, 0, none⟩) n n) n (vi (clockM l n)) ∧ Below w.heap.size w w'
set_option maxHeartbeats 800000 in
theorem l3clock_nil (a : Option Addr) (cap n : Nat) (w : World) (hn : n ≤ 4) : Calls Tryz.prog 124 #[.slice a 0 cap, .int .i64 n] w (ClockMade w [] n) := by
 obtain ⟨i0, hi, hz0, hz1, hz2⟩ := info_parts Tryz.info3
 have hmk : (Instr.makeSlice 29 (.int .i64 (n : Int)) (.int .i64 (n : Int))).run Tryz.prog w = .ok (.slice (some ⟨w.heap.size, 0, none⟩) n n) (w.alloc (.cells ((List.replicate n (0:Int)).map (Value.int .i64)).toArray 3)) := by
  have h := run_make (P := Tryz.prog) w 29 3 i0 (.int .i64 0) Tryz.underlying29 hi hz0 .i64 .i64 n n (by omega) (by omega) (by rw [hz2]; omega) (by omega)
  rw [hz1] at h
  simp only [Int.toNat_natCast] at h
  rw [made] at h
  exact h
 have hown0 : (w.alloc (.cells ((List.replicate n (0:Int)).map (Value.int .i64)).toArray 3)).ownsRow w.heap.size 3 1 (.slice (some ⟨w.heap.size, 0, none⟩) n n) n (vi (List.replicate n 0)) := by
  have := World.ownsRow_lit (size := 1) (e := 3) (base := w.heap.size) w ((List.replicate n (0:Int)).map (Value.int .i64)).toArray n (Nat.le_refl _) (by unfold maxLen; omega) (by simp)
  simpa [vi] using this
 have hbel0 : Below w.heap.size w (w.alloc (.cells ((List.replicate n (0:Int)).map (Value.int .i64)).toArray 3)) := (Below.refl _ _).alloc (Nat.le_refl _) _
 obtain ⟨W0, hW0⟩ : ∃ W0, W0 = (w.alloc (.cells ((List.replicate n (0:Int)).map (Value.int .i64)).toArray 3)) := ⟨_, rfl⟩
 rw [← hW0] at hmk hown0 hbel0
 have HO := Lib.hid hown0
 have HB := Lib.hid hbel0
 clear hi hz0 hz1 hz2 i0 hW0 hown0 hbel0
 go_enter Tryz.func124, Tryz.ntmps124
 go_wp2
 go_loop [6] (fun i => i = .int .i64 0) (fun _ => 0)
 case atStart => exact rfl
 case round =>
  obtain rfl := hrel
  go_wp2
  go_ret
  exact ⟨rfl, HO.out, HB.out⟩
theorem l3clock_any (v : Value) (l : List ActM) (n : Nat) (w : World) (hn : n ≤ 4) (h : Acts w v l) (hr : ∀ a ∈ l, 0 ≤ a.r ∧ a.r < n) : Calls Tryz.prog 124 #[v, .int .i64 n] w (ClockMade w l n) := by
 obtain ⟨ts, rfl, ht⟩ := h
 have hm := actsT_max ht
 rcases ht.2 with ⟨a, cap, rfl, rfl⟩ | ⟨b, off, cap, rfl, h1, h2, h3, h4⟩
 ·exact l3clock_nil _ _ _ w hn
 ·exact l3clock_some b off cap _ n ts w rfl hm hn h1 (fun i hi => hr _ (List.mem_map_of_mem (getD_mem hi))) h4
theorem clockM_length (l : List ActM) (n : Nat) : (clockM l n).length = n := by rw [clockM, clockFrom_length]; simp
def clockOfM (l : List ActM) (n : Int) : List Int := if setOkM l n = true then clockM l n.toNat else []
def MadeI (w : World) (xs : List Int) (e : Ending) (w' : World) : Prop := ∃ g v, e = .returned v ∧ w.heap.size ≤ g ∧ Own w' g v xs ∧ Below w.heap.size w w'
theorem setOk_bounds {l : List ActM} {n : Int} (h : setOkM l n = true) : ∃ m : Nat, n = m ∧ 1 ≤ m ∧ m ≤ 4 ∧ l.length ≤ 60 ∧ ∀ a ∈ l, 0 ≤ a.r ∧ a.r < m := by
 obtain ⟨h1, h2, h3, h4⟩ := setOk_all h
 obtain ⟨m, rfl⟩ : ∃ m : Nat, n = m := ⟨n.toNat, by omega⟩
 exact ⟨m, rfl, by omega, by omega, h3, fun a ha => by have := ok_parts (h4 a ha); omega⟩
theorem own_made {w : World} {g n : Nat} {xs : List Int} (hl : xs.length = n) (h1 : 1 ≤ n) (h : w.ownsRow g 3 1 (.slice (some ⟨g, 0, none⟩) n n) n (vi xs)) : Own w g (.slice (some ⟨g, 0, none⟩) n n) xs := by
 subst hl
 exact .inr ⟨by omega, _, rfl, h⟩
end Go.Proofs.YtghgiefciijoeaaGreatDoor
namespace Go.Proofs.YtghgiefciijoeaaGreatDoor
set_option linter.unusedVariables false
theorem ok_ups5 {a : ActM} {n : Int} (h : actOkM a n = true) : a.ups.length ≤ 5 := by
 simp only [actOkM, Bool.and_eq_true, fieldsM, okUps, decide_eq_true_eq] at h
 have h := h.2
 split at h
 ·simp only [Bool.and_eq_true, decide_eq_true_eq] at h; omega
 ·split at h
  ·simp only [Bool.and_eq_true, decide_eq_true_eq] at h; omega
  ·split at h
   ·simp only [Bool.and_eq_true, decide_eq_true_eq] at h; omega
   ·split at h
    ·simp only [Bool.and_eq_true, decide_eq_true_eq] at h; omega
    ·cases h
theorem szL_ok : ∀ (l : List ActM) (n : Int), n ≤ 4 → (∀ a ∈ l, actOkM a n = true) → szL l ≤ 33 * l.length
 | [], _, _, _ => by simp [szL]
 | a :: l, n, hn, h => by
  have h1 := szL_ok l n hn fun b hb => h b (List.mem_cons_of_mem _ hb)
  have h2 := ok_ups5 (h a (by simp))
  have h3 : (a.dep.length : Int) = n := by
   have := h a (by simp)
   simp only [actOkM, Bool.and_eq_true, decide_eq_true_eq] at this
   omega
  simp only [szL, szA, List.length_cons]
  omega
def partM (l : List ActM) (xs : List Int) (b : Bool) : List ActM := l.filter fun a => decide (a.n ≤ xs.getD a.r.toNat 0) == b
theorem partM_len (l : List ActM) (xs : List Int) (b : Bool) : (partM l xs b).length ≤ l.length := List.length_filter_le _ _
theorem partM_snoc (l : List ActM) (a : ActM) (xs : List Int) (b : Bool) : partM (l ++ [a]) xs b = partM l xs b ++ (if (decide (a.n ≤ xs.getD a.r.toNat 0) == b) = true then [a] else []) := by
 unfold partM
 rw [List.filter_append]
 simp only [List.filter_cons, List.filter_nil]
theorem partM_mem {l : List ActM} {xs : List Int} {b : Bool} {a : ActM} (h : a ∈ partM l xs b) : a ∈ l := (List.mem_filter.1 h).1
def cutB (l : List ActM) (n : Int) (xs : List Int) : Bool := setOkM l n && okB xs && decide ((xs.length : Int) = n)
theorem cutB_iff (l : List ActM) (n : Int) (xs : List Int) : cutB l n xs = true ↔ setOkM l n = true ∧ okB xs = true ∧ (xs.length : Int) = n := by simp [cutB, and_assoc]
def partOfM (l : List ActM) (n : Int) (xs : List Int) : List ActM := if cutB l n xs = true then (if setOkM (partM l xs true) n = true then partM l xs true else []) else []
def lacksM (l : List ActM) (n : Int) (xs : List Int) : List ActM := if cutB l n xs = true then partM l xs false else []
theorem szL_setOk {l : List ActM} {n : Int} (h : setOkM l n = true) : szL l ≤ 1980 := by
 obtain ⟨h1, h2, h3, h4⟩ := setOk_all h
 have := szL_ok l n h2 h4
 omega
theorem szL_part {l : List ActM} {n : Int} (h : setOkM l n = true) (xs : List Int) (b : Bool) : szL (partM l xs b) ≤ 1980 := by
 obtain ⟨h1, h2, h3, h4⟩ := setOk_all h
 have := szL_ok (partM l xs b) n h2 fun a ha => h4 a (partM_mem ha)
 have := partM_len l xs b
 omega
theorem szL_partOf (l : List ActM) (n : Int) (xs : List Int) : szL (partOfM l n xs) ≤ 1980 := by
 unfold partOfM
 split
 ·split
  ·rename_i h _
   exact szL_part ((cutB_iff l n xs).1 h).1 xs true
  ·simp [szL]
 ·simp [szL]
theorem szL_lacks (l : List ActM) (n : Int) (xs : List Int) : szL (lacksM l n xs) ≤ 1980 := by
 unfold lacksM
 split
 ·rename_i h
  exact szL_part ((cutB_iff l n xs).1 h).1 xs false
 ·simp [szL]
theorem smallL_ok {l : List ActM} {n : Int} (h : setOkM l n = true) : SmallL l := by
 obtain ⟨h1, h2, h3, h4⟩ := setOk_all h
 refine ⟨by omega, fun a ha => ⟨?_, ?_⟩⟩
 ·have := h4 a ha
  simp only [actOkM, Bool.and_eq_true, decide_eq_true_eq] at this
  omega
 ·have := ok_ups5 (h4 a ha); omega
theorem smallL_part {l : List ActM} (h : SmallL l) (xs : List Int) (b : Bool) : SmallL (partM l xs b) :=
 ⟨Nat.le_trans (partM_len l xs b) h.1, fun a ha => h.2 a (partM_mem ha)⟩
end Go.Proofs.YtghgiefciijoeaaGreatDoor
