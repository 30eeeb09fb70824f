/- sameInts (from W). -/
import Derived.Test.YtcjoecjijmkbaaaGreatMC
import Derived.Test.YtcjoecjijmkbaaaGreatMB

namespace Go.Proofs.YtcjoecjijmkbaaaGreat
open Go.RowKit
set_option linter.unusedVariables false
set_option maxHeartbeats 400000 in
theorem sameInts_some (b off cap b' off' cap' n m : Nat) (xs ys : List Int) (w : World) (hn : xs.length = n) (hm : ys.length = m) (hl : n ≤ 9223372036854775807) (hl' : m ≤ 9223372036854775807)
  (hc : ∀ i, i < n → w.cell? ⟨b, off + i, none⟩ = some (.int .i64 (xs.getD i 0))) (hc' : ∀ i, i < m → w.cell? ⟨b', off' + i, none⟩ = some (.int .i64 (ys.getD i 0))) :
  Calls Tryz.prog 34 #[.slice (some ⟨b, off, none⟩) n cap, .slice (some ⟨b', off', none⟩) m cap'] w fun e w' =>
   e = .returned (.bool (eqB xs ys)) ∧ ∃ q, w' = w.drewN q := by
 have HN := Lib.hid hn
 have HM := Lib.hid hm
 clear hn hm
 by_cases h1 : n = m
 ·subst h1
  go_enter Tryz.func34, Tryz.ntmps34
  go_wp2
  go_loopw [5] (fun i wr => ∃ k q : Nat, k ≤ n ∧ i = .int .i64 k ∧ Hid (xs.take k = ys.take k) ∧ wr = w.drewN q) (fun i _ => n - (intOf i).toNat)
  case atStart => exact ⟨0, 0, Nat.zero_le _, rfl, by simp [Hid], rfl⟩
  case round =>
   obtain ⟨k, q, hk, rfl, hg, rfl⟩ := hrel
   by_cases hlt : k < n
   ·have hc1 := hc k hlt
    have hc2 := hc' k hlt
    clear hc hc'
    obtain ⟨x, hx⟩ : ∃ x, xs.getD k 0 = x := ⟨_, rfl⟩
    obtain ⟨y, hy⟩ : ∃ y, ys.getD k 0 = y := ⟨_, rfl⟩
    rw [hx] at hc1
    rw [hy] at hc2
    have HX := Lib.hid hx
    have HY := Lib.hid hy
    clear hx hy
    have i0 : (0 : Int) ≤ k := by omega
    have i1 : (k : Int) < n := by omega
    by_cases hx0 : x = y
    ·subst hx0
     go_wp2
     go_quiet (fail)
     go_wp2
     go_roundw
     case rel => exact ⟨k + 1, _, by omega, by go_num, take_eq_step xs ys k (by rw [HN.out]; omega) (by rw [HM.out]; omega) hg.out (by rw [HX.out, HY.out]), rfl⟩
     case measure => simp [intOf]; omega
    ·have e1 : (x == y) = false := by simpa using hx0
     have e2 : (x != y) = true := by simpa using hx0
     go_wp2
     go_quiet (fail)
     go_wp2
     go_ret
     exact ⟨ret_bool (eqB_bad xs ys k (by rw [HX.out, HY.out]; exact hx0)).symm, _, World.drewN_drewN ..⟩
   ·go_wp2
    go_ret
    exact ⟨ret_bool (eqB_all xs ys k (by rw [HN.out]; omega) (by rw [HM.out]; omega) hg.out).symm, q, rfl⟩
 ·have hb : ((n : Int) == (m : Int)) = false := by simp; omega
  have hb' : ((n : Int) != (m : Int)) = true := by simp; omega
  go_enter Tryz.func34, Tryz.ntmps34
  go_wp2
  go_ret
  exact ⟨ret_bool (eqB_len xs ys (by rw [HN.out, HM.out]; exact h1)).symm, 0, rfl⟩
theorem sameInts_nil_nil (a a' : Option Addr) (c c' : Nat) (w : World) : Calls Tryz.prog 34 #[.slice a 0 c, .slice a' 0 c'] w fun e w' => e = .returned (.bool (eqB [] [])) ∧ ∃ q, w' = w.drewN q := by
 go_enter Tryz.func34, Tryz.ntmps34
 go_wp2
 go_loop [5] (fun i => i = .int .i64 0) (fun _ => 0)
 case atStart => rfl
 case round =>
  obtain rfl := hrel
  go_wp2
  go_ret
  exact ⟨rfl, 0, rfl⟩
theorem sameInts_nil_some (a : Option Addr) (c b off cap n : Nat) (xs : List Int) (w : World) (hn : xs.length = n) (hl : n ≤ 9223372036854775807) :
  Calls Tryz.prog 34 #[.slice a 0 c, .slice (some ⟨b, off, none⟩) n cap] w fun e w' => e = .returned (.bool (eqB [] xs)) ∧ ∃ q, w' = w.drewN q := by
 by_cases h : n = 0
 ·subst h
  obtain rfl := List.eq_nil_of_length_eq_zero hn
  clear hn
  go_enter Tryz.func34, Tryz.ntmps34
  go_wp2
  go_loop [5] (fun i => i = .int .i64 0) (fun _ => 0)
  case atStart => rfl
  case round =>
   obtain rfl := hrel
   go_wp2
   go_ret
   exact ⟨rfl, 0, rfl⟩
 ·have HN := Lib.hid hn
  clear hn
  have hb : ((0 : Int) == (n : Int)) = false := by simp; omega
  have hb' : ((0 : Int) != (n : Int)) = true := by simp; omega
  go_enter Tryz.func34, Tryz.ntmps34
  go_wp2
  go_ret
  exact ⟨ret_bool (eqB_len [] xs (by rw [HN.out]; simp; omega)).symm, 0, rfl⟩
theorem sameInts_some_nil (a : Option Addr) (c b off cap n : Nat) (xs : List Int) (w : World) (hn : xs.length = n) (hl : n ≤ 9223372036854775807) :
  Calls Tryz.prog 34 #[.slice (some ⟨b, off, none⟩) n cap, .slice a 0 c] w fun e w' => e = .returned (.bool (eqB xs [])) ∧ ∃ q, w' = w.drewN q := by
 by_cases h : n = 0
 ·subst h
  obtain rfl := List.eq_nil_of_length_eq_zero hn
  clear hn
  go_enter Tryz.func34, Tryz.ntmps34
  go_wp2
  go_loop [5] (fun i => i = .int .i64 0) (fun _ => 0)
  case atStart => rfl
  case round =>
   obtain rfl := hrel
   go_wp2
   go_ret
   exact ⟨rfl, 0, rfl⟩
 ·have HN := Lib.hid hn
  clear hn
  have hb : ((n : Int) == 0) = false := by simp; omega
  have hb' : ((n : Int) != 0) = true := by simp; omega
  go_enter Tryz.func34, Tryz.ntmps34
  go_wp2
  go_ret
  exact ⟨ret_bool (eqB_len xs [] (by rw [HN.out]; simp; omega)).symm, 0, rfl⟩
theorem sameInts_any (v v' : Value) (xs ys : List Int) (w : World) (h : Ints w v xs) (h' : Ints w v' ys) :
  Calls Tryz.prog 34 #[v, v'] w fun e w' => e = .returned (.bool (eqB xs ys)) ∧ ∃ q, w' = w.drewN q := by
 rcases h with ⟨a, cap, rfl, rfl⟩ | ⟨b, off, cap, rfl, h1, h2, h3, h4⟩ <;> rcases h' with ⟨a', cap', rfl, rfl⟩ | ⟨b', off', cap', rfl, h1', h2', h3', h4'⟩
 ·exact sameInts_nil_nil _ _ _ _ w
 ·exact sameInts_nil_some _ _ _ _ _ _ _ w rfl (by unfold maxLen at h3'; omega)
 ·exact sameInts_some_nil _ _ _ _ _ _ _ w rfl (by unfold maxLen at h3; omega)
 ·exact sameInts_some _ _ _ _ _ _ _ _ xs ys w rfl rfl (by unfold maxLen at h3; omega) (by unfold maxLen at h3'; omega) h4 h4'
theorem ints_lit2 (w : World) (a b : Int) : Ints (w.alloc (.cells #[.int .i64 a, .int .i64 b] 3)) (.slice (some ⟨w.heap.size, 0, none⟩) 2 2) [a, b] := by
 refine .inr ⟨w.heap.size, 0, 2, rfl, by simp, by simp, by unfold maxLen; omega, fun i hi => ?_⟩
 match i, hi with
 | 0, _ => simp
 | 1, _ => simp
 | i + 2, h => simp at h; omega
end Go.Proofs.YtcjoecjijmkbaaaGreat
