/- Base: what a slice of ints reads as; toIntS. Base: eqIntS, spec.ClockOk. Memory: blocks known whole, slices of the call's own, worlds that grew. The reference's l1both, l1leq, ClockLeq, Beside, ClockSum. -/
import Derived.Test.YtghgiefciijoeaaGreatDoorRows
import Derived.WalkKit
import Derived.WalkSpells
import Derived.WalkLawsBesides
import Derived.BigQuiet
import Derived.Deep.QuietTactic
import Derived.ProofKit
import Derived.OpenShut
import Derived.Below
import Derived.Lib.Hide
import Derived.Laws.MakeOwn
import Derived.WalkSmall

namespace Go.Proofs.YtghgiefciijoeaaGreatDoor
open Go.RowKit
set_option linter.unusedVariables false
theorem Tryz.info3 : (Tryz.prog.info? 3).map (fun i => (i.zero, i.size, i.bytes)) = some (some (.int .i64 0), 1, 8) := by kernel_rfl
def Ints (w : World) (v : Value) (xs : List Int) : Prop :=
 (∃ a cap, v = .slice a 0 cap ∧ xs = []) ∨
 ∃ b off cap, v = .slice (some ⟨b, off, none⟩) xs.length cap ∧ b < w.heap.size ∧ xs.length ≤ cap ∧ cap ≤ maxLen ∧
  ∀ i, i < xs.length → w.cell? ⟨b, off + i, none⟩ = some (.int .i64 (xs.getD i 0))
theorem Ints.below {w w' : World} {v : Value} {xs : List Int} {B : Nat} (h : Ints w v xs) (hb : Below w.heap.size w w') : Ints w' v xs := by
 rcases h with h | ⟨b, off, cap, rfl, h1, h2, h3, h4⟩
 ·exact .inl h
 ·refine .inr ⟨b, off, cap, rfl, Nat.lt_of_lt_of_le h1 hb.size, h2, h3, fun i hi => ?_⟩
  rw [← h4 i hi]
  exact hb.cell (p := ⟨b, off + i, none⟩) h1
theorem cell_lt {w : World} {a : Addr} {v : Value} (h : w.cell? a = some v) : a.block < w.heap.size := by
 unfold World.cell? at h
 split at h
 ·rename_i hh
  exact (Array.getElem?_eq_some_iff.1 hh).1
 ·cases h
theorem ints_row (w : World) (a : Option Addr) (len cap : Nat) (zs : List Int)
  (h : (a = none ∧ len = 0 ∧ cap = 0 ∧ zs = []) ∨ ∃ x, a = some x ∧ len ≤ cap ∧ cap ≤ maxLen ∧ zs.length = cap ∧ (∀ i, i < zs.length → w.cell? (x.add i) = some (.int .i64 (zs.getD i 0))) ∧ ∀ n ∈ zs, (Lit.int .i64 n).wf = true) :
  Ints w (.slice a len cap) (zs.take len) ∧ (zs.take len).length = len ∧ len ≤ 9223372036854775807 := by
 rcases h with ⟨rfl, rfl, rfl, rfl⟩ | ⟨x, rfl, hl, hm, hz, hc, _⟩
 ·exact ⟨.inl ⟨_, _, rfl, rfl⟩, rfl, by omega⟩
 ·have hlen : (zs.take len).length = len := by rw [List.length_take]; omega
  refine ⟨?_, hlen, by unfold maxLen at hm; omega⟩
  by_cases h0 : len = 0
  ·subst h0
   exact .inl ⟨_, _, rfl, by simp⟩
  ·have c0 := hc 0 (by omega)
   have hs := World.cell?_spot c0
   have hb := cell_lt c0
   obtain ⟨b, off, spot⟩ := x
   simp only [Addr.add] at hs hb
   subst hs
   refine .inr ⟨b, off, cap, by rw [hlen], hb, by omega, hm, fun i hi => ?_⟩
   have := hc i (by omega)
   have ha : (Addr.add ⟨b, off, none⟩ i) = ⟨b, off + i, none⟩ := by
    unfold Addr.add; split
    ·subst i; rfl
    ·rfl
   rw [ha] at this
   rw [this]
   congr 2
   rw [hlen] at hi
   simp [List.getD, hi]
theorem set_take (xs : List Int) (k : Nat) (h : k < xs.length) :
  ((xs.take k ++ List.replicate (xs.length - k) 0).map (Value.int .i64)).set k (.int .i64 (xs.getD k 0)) = (xs.take (k + 1) ++ List.replicate (xs.length - (k + 1)) 0).map (Value.int .i64) := by
 rw [show xs.length - k = (xs.length - (k + 1)) + 1 from by omega, List.replicate_succ, List.map_append, List.map_cons]
 rw [List.set_append_right _ _ (by simp; omega)]
 simp only [List.length_map, List.length_take, Nat.min_eq_left (Nat.le_of_lt h), Nat.sub_self, List.set_cons_zero]
 rw [List.take_succ_eq_append_getElem h]
 simp only [List.getD, h, getElem?_pos, Option.getD_some, List.map_append, List.map_cons, List.append_assoc, List.singleton_append]
theorem made (n : Nat) : madeCells (Value.int .i64 0).cells (n * 1) = ((List.replicate n (0:Int)).map (Value.int .i64)).toArray := by
 apply Array.ext
 ·simp [size_madeCells]
 ·intro i h1 h2
  simp [madeCells, Value.cells, Nat.mod_one]
set_option maxHeartbeats 400000 in
theorem toIntS_some (b off cap n : Nat) (xs : List Int) (w : World) (hn : xs.length = n) (hb : b < w.heap.size) (hl : n ≤ 1048576)
  (hc : ∀ i, i < n → w.cell? ⟨b, off + i, none⟩ = some (.int .i64 (xs.getD i 0))) :
  Calls Tryz.prog 66 #[.slice (some ⟨b, off, none⟩) n cap] w fun e w' =>
   e = .returned (.slice (some ⟨w.heap.size, 0, none⟩) n n) ∧
   w'.ownsRow w.heap.size 3 1 (.slice (some ⟨w.heap.size, 0, none⟩) n n) n (xs.map (Value.int .i64)) ∧ Below w.heap.size w w' := by
 obtain ⟨i0, hi, hz0, hz1, hz2⟩ := info_parts Tryz.info3
 have hmk : ∀ w : World, (Instr.makeSlice 29 (.int .i64 (n : Int)) (.int .i64 (n : Int))).run Tryz.prog w = .ok (.slice (some ⟨w.heap.size, 0, none⟩) n n) (w.alloc (.cells ((List.replicate n (0:Int)).map (Value.int .i64)).toArray 3)) := by
  intro w
  have h := run_make (P := Tryz.prog) w 29 3 i0 (.int .i64 0) Tryz.underlying29 hi hz0 .i64 .i64 n n (by omega) (by omega) (by rw [hz2]; omega) (by omega)
  rw [hz1] at h
  simp only [Int.toNat_natCast] at h
  rw [made] at h
  exact h
 have hown0 : (w.alloc (.cells ((List.replicate n (0:Int)).map (Value.int .i64)).toArray 3)).ownsRow w.heap.size 3 1 (.slice (some ⟨w.heap.size, 0, none⟩) n n) n ((List.replicate n (0:Int)).map (Value.int .i64)) := by
  have := World.ownsRow_lit (size := 1) (e := 3) (base := w.heap.size) w ((List.replicate n (0:Int)).map (Value.int .i64)).toArray n (Nat.le_refl _) (by unfold maxLen; omega) (by simp)
  simpa using this
 have hbel0 : Below w.heap.size w (w.alloc (.cells ((List.replicate n (0:Int)).map (Value.int .i64)).toArray 3)) := (Below.refl _ _).alloc (Nat.le_refl _) _
 obtain ⟨W0, hW0⟩ : ∃ W0, W0 = (w.alloc (.cells ((List.replicate n (0:Int)).map (Value.int .i64)).toArray 3)) := ⟨_, rfl⟩
 have hmk1 := hmk w
 rw [← hW0] at hmk1 hown0 hbel0
 clear hmk hi hz0 hz1 hz2 i0 hW0
 have HN := Lib.hid hn
 clear hn
 go_enter Tryz.func66, Tryz.ntmps66
 go_wp2
 go_loopw [4] (fun i wr => ∃ k : Nat, k ≤ n ∧ i = .int .i64 k ∧ wr.ownsRow w.heap.size 3 1 (.slice (some ⟨w.heap.size, 0, none⟩) n n) n ((xs.take k ++ List.replicate (n - k) 0).map (Value.int .i64)) ∧ Below w.heap.size w wr) (fun i _ => n - (intOf i).toNat)
 case atStart => exact ⟨0, Nat.zero_le _, rfl, by simpa using hown0, hbel0⟩
 case round =>
  obtain ⟨k, hk, rfl, hown, hbel⟩ := hrel
  clear hown0 hbel0 hmk1
  by_cases hlt : k < n
  ·have hc1 : wr.cell? ⟨b, off + k, none⟩ = some (.int .i64 (xs.getD k 0)) := (hbel.cell (p := ⟨b, off + k, none⟩) hb).trans (hc k hlt)
   have hst := hown.stored k (.int .i64 (xs.getD k 0))
   have hf := hown.frozenAt k
   have hc2 : wr.cell? ⟨w.heap.size, k, none⟩ = some (.int .i64 0) := by
    rw [hown.cellAt k (by omega)]
    have h0 : xs.length = n := HN.out
    rw [List.getElem?_map, List.getElem?_append_right (by rw [List.length_take]; omega), List.getElem?_replicate, if_pos (by rw [List.length_take]; omega)]
    rfl
   obtain ⟨hst1, hst2⟩ := hst
   have hst3 : (wr.setCell ⟨w.heap.size, k, none⟩ (.int .i64 (xs.getD k 0))).ownsRow w.heap.size 3 1 (.slice (some ⟨w.heap.size, 0, none⟩) n n) n ((xs.take (k+1) ++ List.replicate (n - (k+1)) 0).map (Value.int .i64)) := by
    have h0 : xs.length = n := HN.out
    subst h0
    rw [set_take xs k hlt] at hst1
    exact hst1
   have hbel1 : Below w.heap.size w (wr.setCell ⟨w.heap.size, k, none⟩ (.int .i64 (xs.getD k 0))) := hbel.setCell (Nat.le_refl _) _
   clear hst1 hst2 hown hc hbel
   have HS := Lib.hid hst3
   have HB := Lib.hid hbel1
   clear hst3 hbel1
   go_wp2
   go_roundw
   case rel => exact ⟨k + 1, by omega, by go_num, by simpa [List.getD] using HS.out, by simpa [List.getD] using HB.out⟩
   case measure => simp [intOf]; omega
  ·have : k = n := by omega
   subst this
   have HO : Hid (wr.ownsRow w.heap.size 3 1 (.slice (some ⟨w.heap.size, 0, none⟩) k k) k (xs.map (Value.int .i64))) := by
    have h0 : xs.length = k := HN.out
    subst h0
    show World.ownsRow _ _ _ _ _ _ _
    simpa using hown
   clear hown
   go_wp2
   go_ret
   exact ⟨rfl, HO.out, hbel⟩
end Go.Proofs.YtghgiefciijoeaaGreatDoor
namespace Go.Proofs.YtghgiefciijoeaaGreatDoor
open Go.RowKit
set_option linter.unusedVariables false
theorem ret_bool {a b : Bool} (h : a = b) : Ending.returned (.bool a) = .returned (.bool b) := by rw [h]
theorem ret_int {k : IntKind} {a b : Int} (h : a = b) : Ending.returned (.int k a) = .returned (.int k b) := by rw [h]
def good (x : Int) : Bool := decide (0 ≤ x) && decide (x ≤ 100000)
def okB (xs : List Int) : Bool := decide (1 ≤ xs.length) && decide (xs.length ≤ 4) && xs.all good
theorem good_iff (x : Int) : good x = true ↔ 0 ≤ x ∧ x ≤ 100000 := by simp [good]
theorem okB_iff (xs : List Int) : okB xs = true ↔ 1 ≤ xs.length ∧ xs.length ≤ 4 ∧ ∀ x ∈ xs, 0 ≤ x ∧ x ≤ 100000 := by
 simp [okB, good, and_assoc]
theorem good_step (xs : List Int) (k : Nat) (hk : k < xs.length) (h : (xs.take k).all good = true) (h0 : 0 ≤ xs.getD k 0) (h1 : xs.getD k 0 ≤ 100000) : (xs.take (k + 1)).all good = true := by
 rw [List.take_succ_eq_append_getElem hk, List.all_append, h]
 simp [List.getD, hk] at h0 h1
 simp [good, h0, h1]
theorem okB_bad (xs : List Int) (k : Nat) (hk : k < xs.length) (h : xs.getD k 0 < 0 ∨ 100000 < xs.getD k 0) : okB xs = false := by
 cases ho : okB xs with
 | false => rfl
 | true =>
  have := (okB_iff xs).1 ho
  have hm := this.2.2 xs[k] (List.getElem_mem _)
  simp [List.getD, hk] at h
  omega
theorem okB_len (xs : List Int) (h : xs.length < 1 ∨ 4 < xs.length) : okB xs = false := by
 cases ho : okB xs with
 | false => rfl
 | true => have := (okB_iff xs).1 ho; omega
theorem okB_all (xs : List Int) (k : Nat) (hk : k = xs.length) (h1 : 1 ≤ k) (h4 : k ≤ 4) (h : (xs.take k).all good = true) : okB xs = true := by
 subst hk
 rw [List.take_length] at h
 simp [okB, h]; omega
set_option maxHeartbeats 400000 in
theorem specOk_some (b off cap n : Nat) (xs : List Int) (w : World) (hn : xs.length = n) (hl : n ≤ 9223372036854775807)
  (hc : ∀ i, i < n → w.cell? ⟨b, off + i, none⟩ = some (.int .i64 (xs.getD i 0))) :
  Calls Tryz.prog 85 #[.slice (some ⟨b, off, none⟩) n cap] w fun e w' =>
   e = .returned (.bool (okB xs)) ∧ w' = w := by
 have HN := Lib.hid hn
 clear hn
 by_cases h1 : 1 ≤ n
 ·by_cases h4 : n ≤ 4
  ·go_enter Tryz.func85, Tryz.ntmps85
   go_wp2
   go_loop [3] (fun i => ∃ k : Nat, k ≤ n ∧ i = .int .i64 k ∧ Hid ((xs.take k).all good = true)) (fun i => n - (intOf i).toNat)
   case atStart => exact ⟨0, Nat.zero_le _, rfl, by simp [Hid]⟩
   case round =>
    obtain ⟨k, hk, rfl, hg⟩ := hrel
    by_cases hlt : k < n
    ·have hc1 := hc k hlt
     clear hc
     obtain ⟨x, hx⟩ : ∃ x, xs.getD k 0 = x := ⟨_, rfl⟩
     rw [hx] at hc1
     have HX := Lib.hid hx
     clear hx
     by_cases hx0 : 0 ≤ x
     ·by_cases hx1 : x ≤ 100000
      ·go_wp2
       go_round
       case rel => exact ⟨k + 1, by omega, by go_num, good_step xs k (by rw [HN.out]; omega) hg.out (by rw [HX.out]; exact hx0) (by rw [HX.out]; exact hx1)⟩
       case measure => simp [intOf]; omega
      ·go_wp2
       go_ret
       exact ⟨ret_bool (okB_bad xs k (by rw [HN.out]; omega) (.inr (by rw [HX.out]; omega))).symm, rfl⟩
     ·go_wp2
      go_ret
      exact ⟨ret_bool (okB_bad xs k (by rw [HN.out]; omega) (.inl (by rw [HX.out]; omega))).symm, rfl⟩
    ·go_wp2
     go_ret
     exact ⟨ret_bool (okB_all xs k (by rw [HN.out]; omega) (by omega) (by omega) hg.out).symm, rfl⟩
  ·go_enter Tryz.func85, Tryz.ntmps85
   go_wp2
   go_ret
   exact ⟨ret_bool (okB_len xs (by rw [HN.out]; omega)).symm, rfl⟩
 ·go_enter Tryz.func85, Tryz.ntmps85
  go_wp2
  go_ret
  exact ⟨ret_bool (okB_len xs (by rw [HN.out]; omega)).symm, rfl⟩
theorem specOk_nil (a : Option Addr) (cap : Nat) (w : World) :
  Calls Tryz.prog 85 #[.slice a 0 cap] w fun e w' => e = .returned (.bool (okB [])) ∧ w' = w := by
 go_enter Tryz.func85, Tryz.ntmps85
 go_wp2
 go_ret
 exact ⟨rfl, rfl⟩
theorem specOk_any (v : Value) (xs : List Int) (w : World) (h : Ints w v xs) :
  Calls Tryz.prog 85 #[v] w fun e w' => e = .returned (.bool (okB xs)) ∧ w' = w := by
 rcases h with ⟨a, cap, rfl, rfl⟩ | ⟨b, off, cap, rfl, h1, h2, h3, h4⟩
 ·exact specOk_nil _ _ w
 ·exact specOk_some b off cap _ xs w rfl (by unfold maxLen at h3; omega) h4
/-! ### eqIntS -/
def eqB (xs ys : List Int) : Bool := decide (xs = ys)
theorem eqB_len (xs ys : List Int) (h : xs.length ≠ ys.length) : eqB xs ys = false := by
 simp only [eqB, decide_eq_false_iff_not]; intro e; exact h (by rw [e])
theorem eqB_bad (xs ys : List Int) (k : Nat) (h : ¬ xs.getD k 0 = ys.getD k 0) : eqB xs ys = false := by
 simp only [eqB, decide_eq_false_iff_not]; intro e; exact h (by rw [e])
theorem take_eq_step (xs ys : List Int) (k : Nat) (hx : k < xs.length) (hy : k < ys.length) (h : xs.take k = ys.take k) (e : xs.getD k 0 = ys.getD k 0) : xs.take (k + 1) = ys.take (k + 1) := by
 rw [List.take_succ_eq_append_getElem hx, List.take_succ_eq_append_getElem hy, h]
 simp [List.getD, hx, hy] at e
 rw [e]
theorem eqB_all (xs ys : List Int) (k : Nat) (hx : k = xs.length) (hy : k = ys.length) (h : xs.take k = ys.take k) : eqB xs ys = true := by
 rw [hx, List.take_length, ← hx, hy, List.take_length] at h
 simp [eqB, h]
set_option maxHeartbeats 400000 in
theorem eqIntS_some (b off cap b' off' cap' n m : Nat) (xs ys : List Int) (w : World) (hn : xs.length = n) (hm : ys.length = m) (hl : n ≤ 9223372036854775807) (hl' : m ≤ 9223372036854775807)
  (hc : ∀ i, i < n → w.cell? ⟨b, off + i, none⟩ = some (.int .i64 (xs.getD i 0))) (hc' : ∀ i, i < m → w.cell? ⟨b', off' + i, none⟩ = some (.int .i64 (ys.getD i 0))) :
  Calls Tryz.prog 68 #[.slice (some ⟨b, off, none⟩) n cap, .slice (some ⟨b', off', none⟩) m cap'] w fun e w' =>
   e = .returned (.bool (eqB xs ys)) ∧ ∃ q, w' = w.drewN q := by
 have HN := Lib.hid hn
 have HM := Lib.hid hm
 clear hn hm
 by_cases h1 : n = m
 ·subst h1
  go_enter Tryz.func68, Tryz.ntmps68
  go_wp2
  go_loopw [5] (fun i wr => ∃ k q : Nat, k ≤ n ∧ i = .int .i64 k ∧ Hid (xs.take k = ys.take k) ∧ wr = w.drewN q) (fun i _ => n - (intOf i).toNat)
  case atStart => exact ⟨0, 0, Nat.zero_le _, rfl, by simp [Hid], rfl⟩
  case round =>
   obtain ⟨k, q, hk, rfl, hg, rfl⟩ := hrel
   by_cases hlt : k < n
   ·have hc1 := hc k hlt
    have hc2 := hc' k hlt
    clear hc hc'
    obtain ⟨x, hx⟩ : ∃ x, xs.getD k 0 = x := ⟨_, rfl⟩
    obtain ⟨y, hy⟩ : ∃ y, ys.getD k 0 = y := ⟨_, rfl⟩
    rw [hx] at hc1
    rw [hy] at hc2
    have HX := Lib.hid hx
    have HY := Lib.hid hy
    clear hx hy
    have i0 : (0 : Int) ≤ k := by omega
    have i1 : (k : Int) < n := by omega
    by_cases hx0 : x = y
    ·subst hx0
     go_wp2
     go_quiet (fail)
     go_wp2
     go_roundw
     case rel => exact ⟨k + 1, _, by omega, by go_num, take_eq_step xs ys k (by rw [HN.out]; omega) (by rw [HM.out]; omega) hg.out (by rw [HX.out, HY.out]), rfl⟩
     case measure => simp [intOf]; omega
    ·have e1 : (x == y) = false := by simpa using hx0
     have e2 : (x != y) = true := by simpa using hx0
     go_wp2
     go_quiet (fail)
     go_wp2
     go_ret
     exact ⟨ret_bool (eqB_bad xs ys k (by rw [HX.out, HY.out]; exact hx0)).symm, _, World.drewN_drewN ..⟩
   ·go_wp2
    go_ret
    exact ⟨ret_bool (eqB_all xs ys k (by rw [HN.out]; omega) (by rw [HM.out]; omega) hg.out).symm, q, rfl⟩
 ·have hb : ((n : Int) == (m : Int)) = false := by simp; omega
  have hb' : ((n : Int) != (m : Int)) = true := by simp; omega
  go_enter Tryz.func68, Tryz.ntmps68
  go_wp2
  go_ret
  exact ⟨ret_bool (eqB_len xs ys (by rw [HN.out, HM.out]; exact h1)).symm, 0, rfl⟩
theorem eqIntS_nil_nil (a a' : Option Addr) (c c' : Nat) (w : World) : Calls Tryz.prog 68 #[.slice a 0 c, .slice a' 0 c'] w fun e w' => e = .returned (.bool (eqB [] [])) ∧ ∃ q, w' = w.drewN q := by
 go_enter Tryz.func68, Tryz.ntmps68
 go_wp2
 go_loop [5] (fun i => i = .int .i64 0) (fun _ => 0)
 case atStart => rfl
 case round =>
  obtain rfl := hrel
  go_wp2
  go_ret
  exact ⟨rfl, 0, rfl⟩
theorem eqIntS_nil_some (a : Option Addr) (c b off cap n : Nat) (xs : List Int) (w : World) (hn : xs.length = n) (hl : n ≤ 9223372036854775807) :
  Calls Tryz.prog 68 #[.slice a 0 c, .slice (some ⟨b, off, none⟩) n cap] w fun e w' => e = .returned (.bool (eqB [] xs)) ∧ ∃ q, w' = w.drewN q := by
 by_cases h : n = 0
 ·subst h
  obtain rfl := List.eq_nil_of_length_eq_zero hn
  clear hn
  go_enter Tryz.func68, Tryz.ntmps68
  go_wp2
  go_loop [5] (fun i => i = .int .i64 0) (fun _ => 0)
  case atStart => rfl
  case round =>
   obtain rfl := hrel
   go_wp2
   go_ret
   exact ⟨rfl, 0, rfl⟩
 ·have HN := Lib.hid hn
  clear hn
  have hb : ((0 : Int) == (n : Int)) = false := by simp; omega
  have hb' : ((0 : Int) != (n : Int)) = true := by simp; omega
  go_enter Tryz.func68, Tryz.ntmps68
  go_wp2
  go_ret
  exact ⟨ret_bool (eqB_len [] xs (by rw [HN.out]; simp; omega)).symm, 0, rfl⟩
theorem eqIntS_some_nil (a : Option Addr) (c b off cap n : Nat) (xs : List Int) (w : World) (hn : xs.length = n) (hl : n ≤ 9223372036854775807) :
  Calls Tryz.prog 68 #[.slice (some ⟨b, off, none⟩) n cap, .slice a 0 c] w fun e w' => e = .returned (.bool (eqB xs [])) ∧ ∃ q, w' = w.drewN q := by
 by_cases h : n = 0
 ·subst h
  obtain rfl := List.eq_nil_of_length_eq_zero hn
  clear hn
  go_enter Tryz.func68, Tryz.ntmps68
  go_wp2
  go_loop [5] (fun i => i = .int .i64 0) (fun _ => 0)
  case atStart => rfl
  case round =>
   obtain rfl := hrel
   go_wp2
   go_ret
   exact ⟨rfl, 0, rfl⟩
 ·have HN := Lib.hid hn
  clear hn
  have hb : ((n : Int) == 0) = false := by simp; omega
  have hb' : ((n : Int) != 0) = true := by simp; omega
  go_enter Tryz.func68, Tryz.ntmps68
  go_wp2
  go_ret
  exact ⟨ret_bool (eqB_len xs [] (by rw [HN.out]; simp; omega)).symm, 0, rfl⟩
theorem eqIntS_any (v v' : Value) (xs ys : List Int) (w : World) (h : Ints w v xs) (h' : Ints w v' ys) :
  Calls Tryz.prog 68 #[v, v'] w fun e w' => e = .returned (.bool (eqB xs ys)) ∧ ∃ q, w' = w.drewN q := by
 rcases h with ⟨a, cap, rfl, rfl⟩ | ⟨b, off, cap, rfl, h1, h2, h3, h4⟩ <;> rcases h' with ⟨a', cap', rfl, rfl⟩ | ⟨b', off', cap', rfl, h1', h2', h3', h4'⟩
 ·exact eqIntS_nil_nil _ _ _ _ w
 ·exact eqIntS_nil_some _ _ _ _ _ _ _ w rfl (by unfold maxLen at h3'; omega)
 ·exact eqIntS_some_nil _ _ _ _ _ _ _ w rfl (by unfold maxLen at h3; omega)
 ·exact eqIntS_some _ _ _ _ _ _ _ _ xs ys w rfl rfl (by unfold maxLen at h3; omega) (by unfold maxLen at h3'; omega) h4 h4'
theorem toIntS_nil (a : Option Addr) (cap : Nat) (w : World) :
  Calls Tryz.prog 66 #[.slice a 0 cap] w fun e w' =>
   e = .returned (.slice (some ⟨w.heap.size, 0, none⟩) 0 0) ∧
   w'.ownsRow w.heap.size 3 1 (.slice (some ⟨w.heap.size, 0, none⟩) 0 0) 0 (([] : List Int).map (Value.int .i64)) ∧ Below w.heap.size w w' := by
 obtain ⟨i0, hi, hz0, hz1, hz2⟩ := info_parts Tryz.info3
 have hmk : ∀ w : World, (Instr.makeSlice 29 (.int .i64 0) (.int .i64 0)).run Tryz.prog w = .ok (.slice (some ⟨w.heap.size, 0, none⟩) 0 0) (w.alloc (.cells #[] 3)) := by
  intro w
  have h := run_make (P := Tryz.prog) w 29 3 i0 (.int .i64 0) Tryz.underlying29 hi hz0 .i64 .i64 (0:Nat) (0:Nat) (by omega) (by omega) (by rw [hz2]; omega) (by omega)
  rw [hz1] at h
  simp only [Int.toNat_natCast] at h
  rw [made] at h
  exact h
 clear hi hz0 hz1 hz2 i0
 go_enter Tryz.func66, Tryz.ntmps66
 go_wp2
 go_loop [4] (fun i => i = .int .i64 0) (fun _ => 0)
 case atStart => rfl
 case round =>
   obtain rfl := hrel
   go_wp2
   go_ret
   exact ⟨rfl, World.ownsRow_lit w #[] 0 (Nat.le_refl _) (by unfold maxLen; omega) rfl, (Below.refl _ _).alloc (Nat.le_refl _) _⟩
theorem toIntS_any (v : Value) (xs : List Int) (w : World) (h : Ints w v xs) (hl : xs.length ≤ 1048576) :
  Calls Tryz.prog 66 #[v] w fun e w' =>
   e = .returned (.slice (some ⟨w.heap.size, 0, none⟩) xs.length xs.length) ∧
   w'.ownsRow w.heap.size 3 1 (.slice (some ⟨w.heap.size, 0, none⟩) xs.length xs.length) xs.length (xs.map (Value.int .i64)) ∧ Below w.heap.size w w' := by
 rcases h with ⟨a, cap, rfl, rfl⟩ | ⟨b, off, cap, rfl, h1, h2, h3, h4⟩
 ·exact toIntS_nil _ _ w
 ·exact toIntS_some _ _ _ _ xs w rfl h1 hl h4
theorem ints_own {w : World} {B g n cap : Nat} {xs : List Int} (hn : n = xs.length) (h : w.ownsRow B 3 1 (.slice (some ⟨g, 0, none⟩) n cap) n (xs.map (Value.int .i64))) : Ints w (.slice (some ⟨g, 0, none⟩) n cap) xs := by
 subst hn
 have hb : g < w.heap.size := by
  rcases h.2 with ⟨h', _⟩ | ⟨g', cap', cur, h', hbg, hg, _⟩
  ·simp at h'
  ·simp only [Value.slice.injEq, Option.some.injEq, Addr.mk.injEq, and_true, true_and] at h'
   obtain ⟨rfl, rfl⟩ := h'
   exact (Array.getElem?_eq_some_iff.1 hg).1
 have hc : xs.length ≤ cap ∧ cap ≤ maxLen := by
  rcases h.2 with ⟨h', _⟩ | ⟨g', cap', cur, h', hbg, hg, hx, hy, _⟩
  ·simp at h'
  ·simp only [Value.slice.injEq, Option.some.injEq, Addr.mk.injEq, and_true, true_and] at h'
   obtain ⟨rfl, rfl⟩ := h'
   exact ⟨hx, hy⟩
 refine .inr ⟨g, 0, cap, rfl, hb, hc.1, hc.2, fun i hi => ?_⟩
 have := h.cellAt i (by omega)
 rw [Nat.zero_add, this, List.getElem?_map, List.getElem?_eq_getElem hi]
 simp [List.getD, hi]
end Go.Proofs.YtghgiefciijoeaaGreatDoor
namespace Go.Proofs.YtghgiefciijoeaaGreatDoor
open Go.RowKit
set_option linter.unusedVariables false
def vi (l : List Int) : List Value := l.map (Value.int .i64)
theorem ints_len {w : World} {v : Value} {xs : List Int} (h : Ints w v xs) : ∃ a cap, v = .slice a xs.length cap := by
 rcases h with ⟨a, cap, rfl, rfl⟩ | ⟨b, off, cap, rfl, _⟩
 ·exact ⟨a, cap, rfl⟩
 ·exact ⟨_, cap, rfl⟩
theorem ints_drewN {w : World} {v : Value} {xs : List Int} (h : Ints w v xs) (n : Nat) : Ints (w.drewN n) v xs := h
theorem ints_max {w : World} {v : Value} {xs : List Int} (h : Ints w v xs) : xs.length ≤ 9223372036854775807 := by
 rcases h with ⟨a, cap, rfl, rfl⟩ | ⟨b, off, cap, rfl, _, h2, h3, _⟩
 ·simp
 ·unfold maxLen at h3; omega
structure Blk (w : World) (B : Nat) (l : List Value) : Prop where
 lt : B < w.heap.size
 cell : ∀ j, w.cell? ⟨B, j, none⟩ = l[j]?
 free : ∀ j, w.frozen? ⟨B, j, none⟩ = false
theorem Blk.new (w : World) (cs : Array Value) (t : TypeId) : Blk (w.alloc (.cells cs t)) w.heap.size cs.toList :=
 ⟨by simp, fun j => by simp, fun j => by simp⟩
theorem Blk.alloc {w : World} {B : Nat} {l : List Value} (h : Blk w B l) (o : Obj) : Blk (w.alloc o) B l :=
 ⟨by have := h.lt; simp; omega, fun j => by rw [World.cell?_alloc_old _ _ _ (by have := h.lt; simp; omega)]; exact h.cell j, fun j => by rw [World.frozen?_alloc_old _ _ _ (by have := h.lt; simp; omega)]; exact h.free j⟩
theorem Blk.drewN {w : World} {B : Nat} {l : List Value} (h : Blk w B l) (n : Nat) : Blk (w.drewN n) B l := ⟨h.lt, h.cell, h.free⟩
theorem Blk.drew {w : World} {B : Nat} {l : List Value} (h : Blk w B l) : Blk w.drew B l := ⟨h.lt, h.cell, h.free⟩
theorem Blk.other {w : World} {B : Nat} {l : List Value} (h : Blk w B l) {p : Addr} (hp : p.block ≠ B) (v : Value) : Blk (w.setCell p v) B l :=
 ⟨by have := h.lt; simpa [World.setCell] using this, fun j => (World.cell?_setCell_other (h := by intro e; rw [e] at hp; exact hp rfl) ..).trans (h.cell j), fun j => by rw [World.frozen?_setCell]; exact h.free j⟩
theorem Blk.set {w : World} {B : Nat} {l : List Value} (h : Blk w B l) {j : Nat} (hj : j < l.length) (v : Value) : Blk (w.setCell ⟨B, j, none⟩ v) B (l.set j v) := by
 refine ⟨by have := h.lt; simpa [World.setCell] using this, fun i => ?_, fun j => by rw [World.frozen?_setCell]; exact h.free j⟩
 by_cases e : i = j
 ·subst e
  refine (World.cell?_setCell_same (h := (h.cell i).trans (List.getElem?_eq_getElem hj)) ..).trans ?_
  simp [hj]
 ·refine (World.cell?_setCell_other (h := by intro e'; injection e' with _ e'' _; exact e e''.symm) ..).trans ?_
  rw [h.cell i, List.getElem?_set_ne (by omega)]
theorem Blk.below {w w' : World} {B K : Nat} {l : List Value} (h : Blk w B l) (hb : Below K w w') (hk : B < K) : Blk w' B l :=
 ⟨Nat.lt_of_lt_of_le h.lt hb.size, fun j => (hb.cell (p := ⟨B, j, none⟩) hk).trans (h.cell j), fun j => (hb.frozen (p := ⟨B, j, none⟩) hk).trans (h.free j)⟩
theorem bcell {W w1 : World} (hb : Below W.heap.size W w1) : (∀ b o, b < W.heap.size → w1.cell? ⟨b, o, none⟩ = W.cell? ⟨b, o, none⟩) ∧ (∀ b o, b < W.heap.size → w1.frozen? ⟨b, o, none⟩ = W.frozen? ⟨b, o, none⟩) :=
 ⟨fun b o h => hb.cell (p := ⟨b, o, none⟩) h, fun b o h => hb.frozen (p := ⟨b, o, none⟩) h⟩
def Own (w : World) (g : Nat) (v : Value) (xs : List Int) : Prop :=
 (∃ a cap, v = .slice a 0 cap ∧ xs = []) ∨ (0 < xs.length ∧ ∃ cap, v = .slice (some ⟨g, 0, none⟩) xs.length cap ∧ w.ownsRow g 3 1 (.slice (some ⟨g, 0, none⟩) xs.length cap) xs.length (vi xs))
theorem own_at {w : World} {B e size g n cap n' : Nat} {xs : List Value} (h : w.ownsRow B e size (.slice (some ⟨g, 0, none⟩) n cap) n' xs) : w.ownsRow g e size (.slice (some ⟨g, 0, none⟩) n cap) n' xs ∧ B ≤ g ∧ g < w.heap.size := by
 obtain ⟨h1, h2⟩ := h
 rcases h2 with ⟨h', _⟩ | ⟨g', cap', cur, h', hbg, hg, r⟩
 ·simp at h'
 ·have h0 := h'
  simp only [Value.slice.injEq, Option.some.injEq, Addr.mk.injEq, and_true] at h'
  obtain ⟨rfl, _⟩ := h'
  exact ⟨⟨h1, .inr ⟨g, cap', cur, h0, Nat.le_refl _, hg, r⟩⟩, hbg, (Array.getElem?_eq_some_iff.1 hg).1⟩
theorem own_ints {w : World} {g : Nat} {v : Value} {xs : List Int} (h : Own w g v xs) : Ints w v xs := by
 rcases h with ⟨a, cap, rfl, rfl⟩ | ⟨hp, cap, rfl, ho⟩
 ·exact .inl ⟨_, _, rfl, rfl⟩
 ·exact ints_own rfl ho
theorem own_lt {w : World} {g : Nat} {v : Value} {xs : List Int} (h : Own w g v xs) (hp : 0 < xs.length) : g < w.heap.size := by
 rcases h with ⟨a, cap, rfl, rfl⟩ | ⟨hp, cap, rfl, ho⟩
 ·simp at hp
 ·exact (own_at ho).2.2
theorem row_block {w w' : World} {g : Nat} {e size n cap : Nat} {xs : List Value} (h : w.ownsRow g e size (.slice (some ⟨g, 0, none⟩) n cap) n xs) (hb : w'.heap[g]? = w.heap[g]?) : w'.ownsRow g e size (.slice (some ⟨g, 0, none⟩) n cap) n xs := by
 obtain ⟨h1, h2⟩ := h
 refine ⟨h1, ?_⟩
 rcases h2 with h2 | ⟨g', cap', cur, hv, hg, hh, r⟩
 ·exact .inl h2
 ·have h0 := hv
  simp only [Value.slice.injEq, Option.some.injEq, Addr.mk.injEq, and_true] at hv
  obtain ⟨rfl, _⟩ := hv
  exact .inr ⟨g, cap', cur, h0, hg, by rw [hb]; exact hh, r⟩
theorem Own.block {w w' : World} {g : Nat} {v : Value} {xs : List Int} (h : Own w g v xs) (hb : 0 < xs.length → w'.heap[g]? = w.heap[g]?) : Own w' g v xs := by
 rcases h with h | ⟨hp, cap, rfl, ho⟩
 ·exact .inl h
 ·exact .inr ⟨hp, cap, rfl, row_block ho (hb hp)⟩
theorem Own.below {w w' : World} {g : Nat} {v : Value} {xs : List Int} (h : Own w g v xs) (hb : Below w.heap.size w w') : Own w' g v xs :=
 h.block fun hp => hb.block g (own_lt h hp)
theorem Own.drewN {w : World} {g : Nat} {v : Value} {xs : List Int} (h : Own w g v xs) (n : Nat) : Own (w.drewN n) g v xs := h
theorem Own.other {w w' : World} {g g' : Nat} {v : Value} {xs : List Int} (h : Own w g v xs) (hb : w.grownBy w' (some g')) (hn : 0 < xs.length → g ≠ g') : Own w' g v xs :=
 h.block fun hp => hb.block g (own_lt h hp) (fun e => hn hp (Option.some.inj e))
def iota (k : Int) : Nat → List Int
 | 0 => []
 | n + 1 => k :: iota (k + 1) n
theorem iota_length (k : Int) (n : Nat) : (iota k n).length = n := by
 induction n generalizing k with
 | zero => rfl
 | succ n ih => simp [iota, ih]
theorem iota_getD (k : Int) (n i : Nat) (h : i < n) : (iota k n).getD i 0 = k + i := by
 induction n generalizing k i with
 | zero => omega
 | succ n ih =>
  cases i with
  | zero => simp [iota]
  | succ i => simp only [iota, List.getD_cons_succ]; rw [ih (k + 1) i (by omega)]; omega
theorem iota_snoc (k : Int) (n : Nat) : iota k (n + 1) = iota k n ++ [k + n] := by
 induction n generalizing k with
 | zero => simp [iota]
 | succ n ih => rw [iota, ih (k + 1), iota, List.cons_append]; congr 3; omega
theorem mark_set (xs : List Int) (k : Int) (i : Nat) (h : i < xs.length) : (vi (iota k i ++ xs.drop i)).set i (.int .i64 (k + i)) = vi (iota k (i + 1) ++ xs.drop (i + 1)) := by
 unfold vi
 rw [List.map_append, List.set_append_right _ _ (by simp [iota_length]), List.length_map, iota_length, Nat.sub_self, List.drop_eq_getElem_cons h, List.map_cons, List.set_cons_zero, iota_snoc]
 simp
theorem grown_refl (w : World) (r : Option Nat) : w.grownBy w r := ⟨rfl, rfl, rfl, Nat.le_refl _, fun _ _ _ => rfl⟩
theorem grown_set {w : World} (B o : Nat) (v : Value) : w.grownBy (w.setCell ⟨B, o, none⟩ v) (some B) :=
 ⟨rfl, rfl, rfl, by simp, fun k _ hk => Below.heap_setCell _ _ _ _ (by intro e; exact hk (by rw [e]))⟩
theorem grown_drewN (w : World) (n : Nat) (r : Option Nat) : w.grownBy (w.drewN n) r := ⟨rfl, rfl, rfl, Nat.le_refl _, fun _ _ _ => rfl⟩
theorem Blk.same {w w' : World} {B : Nat} {l : List Value} (h : Blk w B l) (hs : w.heap.size ≤ w'.heap.size) (hb : w'.heap[B]? = w.heap[B]?) : Blk w' B l :=
 ⟨Nat.lt_of_lt_of_le h.lt hs, fun j => (World.cell?_of_block (a := ⟨B, j, none⟩) hb).trans (h.cell j), fun j => (World.frozen?_of_block (a := ⟨B, j, none⟩) hb).trans (h.free j)⟩
theorem grown_alloc (w : World) (o : Obj) (r : Option Nat) : w.grownBy (w.alloc o) r := World.grownBy_alloc w o r
theorem grown_weak {w w' : World} {r r' : Option Nat} (h : w.grownBy w' r) (hr : ∀ k, r = some k → r' = some k ∨ w.heap.size ≤ k) : w.grownBy w' r' :=
 ⟨h.os, h.tape, h.output, h.size, fun k hk hn => h.block k hk (fun e => by
  rcases hr k e.symm with h' | h'
  ·exact hn h'.symm
  ·omega)⟩
theorem own_of_row {w : World} {K n : Nat} {v : Value} {xs : List Int} (hn : xs.length = n) (h : w.ownsRow K 3 1 v n (vi xs)) : ∃ g, K ≤ g ∧ Own w g v xs := by
 subst hn
 have h0 := h
 rcases h.2 with ⟨hv, hz⟩ | ⟨g, cap, cur, hv, hg, _⟩
 ·have : xs = [] := List.eq_nil_of_length_eq_zero hz
  subst this
  exact ⟨K, Nat.le_refl _, .inl ⟨_, _, hv, rfl⟩⟩
 ·refine ⟨g, hg, ?_⟩
  subst hv
  by_cases hp : 0 < xs.length
  ·exact .inr ⟨hp, cap, rfl, (own_at h0).1⟩
  ·have : xs = [] := List.eq_nil_of_length_eq_zero (by omega)
   subst this
   exact .inl ⟨_, _, rfl, rfl⟩
theorem row_grown {w w' : World} {K : Nat} {e size n : Nat} {v : Value} {xs : List Value} {r : Option Nat} (h : w.ownsRow K e size v n xs) (hg : w.grownBy w' r) (hr : ∀ g, r = some g → g < K) : w'.ownsRow K e size v n xs := by
 obtain ⟨h1, h2⟩ := h
 refine ⟨h1, ?_⟩
 rcases h2 with h2 | ⟨g, cap, cur, hv, hk, hh, r'⟩
 ·exact .inl h2
 ·refine .inr ⟨g, cap, cur, hv, hk, ?_, r'⟩
  rw [hg.block g (Array.getElem?_eq_some_iff.1 hh).1 (fun e => by have := hr g e.symm; omega)]
  exact hh
theorem grown_then {w w1 w2 : World} {r r2 : Option Nat} (h : w.grownBy w1 r) (h2 : w1.grownBy w2 r2) (hr : ∀ g, r2 = some g → r = some g ∨ w.heap.size ≤ g) : w.grownBy w2 r :=
 ⟨h2.os.trans h.os, h2.tape.trans h.tape, h2.output.trans h.output, Nat.le_trans h.size h2.size, fun k hk hn => (h2.block k (by have := h.size; omega) (fun e => by
  rcases hr k e.symm with h' | h'
  ·exact hn h'.symm
  ·omega)).trans (h.block k hk hn)⟩
theorem own_block_ge {w : World} {K e size n : Nat} {v : Value} {xs : List Value} (h : w.ownsRow K e size v n xs) : ∀ g, v.ownBlock = some g → K ≤ g := by
 intro g hg
 rcases h.2 with ⟨rfl, _⟩ | ⟨g', cap, cur, rfl, hk, _⟩
 ·cases hg
 ·cases hg; exact hk
theorem Own.below' {w w' : World} {g B : Nat} {v : Value} {xs : List Int} (h : Own w g v xs) (hb : Below B w w') (hB : 0 < xs.length → g < B) : Own w' g v xs :=
 h.block fun hp => hb.block g (hB hp)
theorem own_open {w : World} {g : Nat} {v : Value} {xs : List Int} (h : Own w g v xs) (hp : 0 < xs.length) : ∃ cap, v = .slice (some ⟨g, 0, none⟩) xs.length cap ∧ w.ownsRow g 3 1 (.slice (some ⟨g, 0, none⟩) xs.length cap) xs.length (vi xs) := by
 rcases h with ⟨a, cap, rfl, rfl⟩ | ⟨_, h⟩
 ·simp at hp
 ·exact h
end Go.Proofs.YtghgiefciijoeaaGreatDoor
namespace Go.Proofs.YtghgiefciijoeaaGreatDoor
open Go.RowKit
set_option linter.unusedVariables false
def bothB (xs ys : List Int) : Bool := okB xs && okB ys && decide (xs.length = ys.length)
def leqB (xs ys : List Int) : Bool := (List.range xs.length).all fun i => decide (xs.getD i 0 ≤ ys.getD i 0)
theorem leqB_iff (xs ys : List Int) : leqB xs ys = true ↔ ∀ i, i < xs.length → xs.getD i 0 ≤ ys.getD i 0 := by
 simp [leqB]
theorem leqB_bad (xs ys : List Int) (k : Nat) (hk : k < xs.length) (h : ¬ xs.getD k 0 ≤ ys.getD k 0) : leqB xs ys = false := by
 cases e : leqB xs ys with
 | false => rfl
 | true => exact absurd ((leqB_iff xs ys).1 e k hk) h
set_option maxHeartbeats 400000 in
theorem leqS_some (b off cap b' off' cap' n m : Nat) (xs ys : List Int) (w : World) (hn : xs.length = n) (hm : ys.length = n) (hl : n ≤ 9223372036854775807)
  (hc : ∀ i, i < n → w.cell? ⟨b, off + i, none⟩ = some (.int .i64 (xs.getD i 0))) (hc' : ∀ i, i < n → w.cell? ⟨b', off' + i, none⟩ = some (.int .i64 (ys.getD i 0))) :
  Calls Tryz.prog 47 #[.slice (some ⟨b, off, none⟩) n cap, .slice (some ⟨b', off', none⟩) n cap'] w fun e w' =>
   e = .returned (.bool (leqB xs ys)) ∧ ∃ q, w' = w.drewN q := by
 have HN := Lib.hid hn
 have HM := Lib.hid hm
 clear hn hm
 go_enter Tryz.func47, Tryz.ntmps47
 go_wp2
 go_loopw [5] (fun i wr => ∃ k q : Nat, k ≤ n ∧ i = .int .i64 k ∧ Hid (∀ j, j < k → xs.getD j 0 ≤ ys.getD j 0) ∧ wr = w.drewN q) (fun i _ => n - (intOf i).toNat)
 case atStart => exact ⟨0, 0, Nat.zero_le _, rfl, by simp [Hid], rfl⟩
 case round =>
  obtain ⟨k, q, hk, rfl, hg, rfl⟩ := hrel
  by_cases hlt : k < n
  ·have hc1 := hc k hlt
   have hc2 := hc' k hlt
   clear hc hc'
   obtain ⟨x, hx⟩ : ∃ x, xs.getD k 0 = x := ⟨_, rfl⟩
   obtain ⟨y, hy⟩ : ∃ y, ys.getD k 0 = y := ⟨_, rfl⟩
   rw [hx] at hc1
   rw [hy] at hc2
   have HX := Lib.hid hx
   have HY := Lib.hid hy
   clear hx hy
   have i0 : (0 : Int) ≤ k := by omega
   have i1 : (k : Int) < n := by omega
   by_cases hx0 : x ≤ y
   ·have e1 : decide (y < x) = false := by simp; omega
    have hstep : Hid (∀ j, j < k + 1 → xs.getD j 0 ≤ ys.getD j 0) := by
     intro j hj
     by_cases hjk : j < k
     ·exact hg.out j hjk
     ·have : j = k := by omega
      subst this
      rw [HX.out, HY.out]; exact hx0
    go_wp2
    go_quiet (fail)
    go_wp2
    go_roundw
    case rel => exact ⟨k + 1, _, by omega, by go_num, hstep, rfl⟩
    case measure => simp [intOf]; omega
   ·have e1 : decide (y < x) = true := by simp; omega
    go_wp2
    go_quiet (fail)
    go_wp2
    go_ret
    exact ⟨ret_bool (leqB_bad xs ys k (by rw [HN.out]; exact hlt) (by rw [HX.out, HY.out]; omega)).symm, _, World.drewN_drewN ..⟩
  ·go_wp2
   go_ret
   exact ⟨ret_bool ((leqB_iff xs ys).2 (fun i hi => hg.out i (by rw [HN.out] at hi; omega))).symm, q, rfl⟩
theorem leqS_any (v v' : Value) (xs ys : List Int) (w : World) (h : Ints w v xs) (h' : Ints w v' ys) (hb : bothB xs ys = true) :
  Calls Tryz.prog 47 #[v, v'] w fun e w' => e = .returned (.bool (leqB xs ys)) ∧ ∃ q, w' = w.drewN q := by
 simp only [bothB, Bool.and_eq_true, decide_eq_true_eq] at hb
 have k1 := (okB_iff xs).1 hb.1.1
 rcases h with ⟨a, cap, rfl, rfl⟩ | ⟨b, off, cap, rfl, h1, h2, h3, h4⟩
 ·simp at k1
 ·rcases h' with ⟨a', cap', rfl, rfl⟩ | ⟨b', off', cap', rfl, h1', h2', h3', h4'⟩
  ·have := hb.2
   simp only [List.length_nil] at this
   omega
  ·rw [← hb.2]
   exact leqS_some _ _ _ _ _ _ _ 0 xs ys w rfl hb.2.symm (by unfold maxLen at h3; omega) h4 (by rw [hb.2]; exact h4')
def spLeq (xs ys : List Int) : Bool := bothB xs ys && leqB xs ys
def spBeside (xs ys : List Int) : Bool := bothB xs ys && !leqB xs ys && !leqB ys xs
theorem bothB_symm (xs ys : List Int) : bothB xs ys = bothB ys xs := by
 have h : decide (xs.length = ys.length) = decide (ys.length = xs.length) := by rw [Bool.eq_iff_iff]; simp; omega
 simp only [bothB]
 rw [Bool.and_comm (okB xs), h]
end Go.Proofs.YtghgiefciijoeaaGreatDoor
