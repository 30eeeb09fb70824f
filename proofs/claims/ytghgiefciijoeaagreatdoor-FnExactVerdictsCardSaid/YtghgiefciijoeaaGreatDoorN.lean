/- Slices that the call owns; markIntS, heldIntS. -/
import Derived.Test.YtghgiefciijoeaaGreatDoorMA

namespace Go.Proofs.YtghgiefciijoeaaGreatDoor
open Go.RowKit
set_option linter.unusedVariables false
set_option maxHeartbeats 400000 in
theorem mark_some (g cap n : Nat) (k : Int) (xs : List Int) (w : World) (hn : xs.length = n) (hk : 0 ≤ k) (hs : k + n ≤ 4000000000) (ho : w.ownsRow g 3 1 (.slice (some ⟨g, 0, none⟩) n cap) n (vi xs)) :
  Calls Tryz.prog 61 #[.slice (some ⟨g, 0, none⟩) n cap, .int .i64 k] w fun e w' => e = .returned (.int .i64 (k + n)) ∧ w'.ownsRow g 3 1 (.slice (some ⟨g, 0, none⟩) n cap) n (vi (iota k n)) ∧ w.grownBy w' (some g) := by
 have HN := Lib.hid hn
 have HO := Lib.hid ho
 clear hn ho
 go_enter Tryz.func61, Tryz.ntmps61
 go_wp2
 go_loopw [1, 5] (fun t i wr => ∃ j : Nat, j ≤ n ∧ i = .int .i64 j ∧ t = .int .i64 (k + j) ∧ Hid (wr.ownsRow g 3 1 (.slice (some ⟨g, 0, none⟩) n cap) n (vi (iota k j ++ xs.drop j))) ∧ Hid (w.grownBy wr (some g))) (fun _ i _ => n - (intOf i).toNat)
 case atStart => exact ⟨0, Nat.zero_le _, rfl, by simp, by simpa [iota, Hid] using HO.out, ⟨rfl, rfl, rfl, Nat.le_refl _, fun _ _ _ => rfl⟩⟩
 case round =>
  obtain ⟨j, hj, rfl, rfl, h1, h2⟩ := hrel
  by_cases hlt : j < n
  ·have q := (h1.out.cellAt j (by omega))
   have hlen : (vi (iota k j ++ xs.drop j)).length = n := by simp [vi, iota_length, HN.out]; omega
   rw [List.getElem?_eq_getElem (by rw [hlen]; exact hlt)] at q
   generalize (vi (iota k j ++ xs.drop j))[j]'(by rw [hlen]; exact hlt) = z at q
   have f := h1.out.frozenAt j
   have st := h1.out.stored j (.int .i64 (k + j))
   rw [mark_set xs k j (by rw [HN.out]; exact hlt)] at st
   have ST := Lib.hid st
   clear st hlen
   go_wp2
   go_roundw
   case rel => exact ⟨j + 1, by omega, by go_num, by go_num, ST.out.1, h2.out.trans ST.out.2⟩
   case measure => simp [intOf]; omega
  ·have : j = n := by omega
   subst this
   have hd : Hid (vi (iota k j ++ xs.drop j) = vi (iota k j)) := by
    show _ = _
    rw [List.drop_of_length_le (by rw [HN.out]; omega), List.append_nil]
   go_wp2
   go_ret
   refine ⟨rfl, ?_, h2.out⟩
   have := h1.out
   rw [hd.out] at this
   exact this
theorem mark_empty (a : Option Addr) (cap : Nat) (k : Int) (w : World) (hk : 0 ≤ k) (hs : k ≤ 4000000000) :
  Calls Tryz.prog 61 #[.slice a 0 cap, .int .i64 k] w fun e w' => e = .returned (.int .i64 k) ∧ w' = w := by
 go_enter Tryz.func61, Tryz.ntmps61
 go_wp2
 go_loop [1, 5] (fun t i => t = .int .i64 k ∧ i = .int .i64 0) (fun _ _ => 0)
 case atStart => exact ⟨rfl, rfl⟩
 case round =>
  obtain ⟨rfl, rfl⟩ := hrel
  go_wp2
  go_ret
  exact ⟨rfl, rfl⟩
theorem mark_any (g : Nat) (v : Value) (k : Int) (xs : List Int) (w : World) (h : Own w g v xs) (hk : 0 ≤ k) (hs : k + xs.length ≤ 4000000000) :
  Calls Tryz.prog 61 #[v, .int .i64 k] w fun e w' => e = .returned (.int .i64 (k + xs.length)) ∧ Own w' g v (iota k xs.length) ∧ w.grownBy w' (some g) := by
 rcases h with ⟨a, cap, rfl, rfl⟩ | ⟨hp, cap, rfl, ho⟩
 ·refine (mark_empty a cap k w hk (by simp at hs; exact hs)).mono ?_
  rintro e w' ⟨rfl, rfl⟩
  exact ⟨by simp, .inl ⟨_, _, rfl, rfl⟩, grown_refl _ _⟩
 ·refine (mark_some g cap _ k xs w rfl hk hs ho).mono ?_
  rintro e w' ⟨rfl, h1, h2⟩
  exact ⟨rfl, .inr ⟨by rw [iota_length]; exact hp, cap, by rw [iota_length], by rw [iota_length]; exact h1⟩, h2⟩
set_option maxHeartbeats 400000 in
theorem held_some (b off cap n : Nat) (k : Int) (w : World) (hk : 0 ≤ k) (hs : k + n ≤ 4000000000) (hc : ∀ i, i < n → w.cell? ⟨b, off + i, none⟩ = some (.int .i64 ((iota k n).getD i 0))) :
  Calls Tryz.prog 70 #[.slice (some ⟨b, off, none⟩) n cap, .int .i64 k] w fun e w' => e = .returned (.int .i64 (k + n)) ∧ w' = w := by
 have HC := Lib.hid hc
 clear hc
 go_enter Tryz.func70, Tryz.ntmps70
 go_wp2
 go_loop [1, 5] (fun t i => ∃ j : Nat, j ≤ n ∧ i = .int .i64 j ∧ t = .int .i64 (k + j)) (fun _ i => n - (intOf i).toNat)
 case atStart => exact ⟨0, Nat.zero_le _, rfl, by simp⟩
 case round =>
  obtain ⟨j, hj, rfl, rfl⟩ := hrel
  by_cases hlt : j < n
  ·have q := HC.out j hlt
   rw [iota_getD k n j hlt] at q
   go_wp2
   go_round
   case rel => exact ⟨j + 1, by omega, by go_num, by go_num⟩
   case measure => simp [intOf]; omega
  ·have : j = n := by omega
   subst this
   go_wp2
   go_ret
   exact ⟨rfl, rfl⟩
theorem held_empty (a : Option Addr) (cap : Nat) (k : Int) (w : World) (hk : 0 ≤ k) (hs : k ≤ 4000000000) :
  Calls Tryz.prog 70 #[.slice a 0 cap, .int .i64 k] w fun e w' => e = .returned (.int .i64 k) ∧ w' = w := by
 go_enter Tryz.func70, Tryz.ntmps70
 go_wp2
 go_loop [1, 5] (fun t i => t = .int .i64 k ∧ i = .int .i64 0) (fun _ _ => 0)
 case atStart => exact ⟨rfl, rfl⟩
 case round =>
  obtain ⟨rfl, rfl⟩ := hrel
  go_wp2
  go_ret
  exact ⟨rfl, rfl⟩
theorem held_any (v : Value) (k : Int) (n : Nat) (w : World) (h : Ints w v (iota k n)) (hk : 0 ≤ k) (hs : k + n ≤ 4000000000) :
  Calls Tryz.prog 70 #[v, .int .i64 k] w fun e w' => e = .returned (.int .i64 (k + n)) ∧ w' = w := by
 rcases h with ⟨a, cap, rfl, h0⟩ | ⟨b, off, cap, rfl, h1, h2, h3, h4⟩
 ·have hn : n = 0 := by rw [← iota_length k n, h0]; rfl
  subst hn
  simpa using held_empty a cap k w hk (by simp at hs; exact hs)
 ·rw [iota_length] at h4 ⊢
  exact held_some b off cap n k w hk hs h4
theorem toOwn (v : Value) (xs : List Int) (w : World) (h : Ints w v xs) (hl : xs.length ≤ 1048576) :
  Calls Tryz.prog 66 #[v] w fun e w' => e = .returned (.slice (some ⟨w.heap.size, 0, none⟩) xs.length xs.length) ∧ Own w' w.heap.size (.slice (some ⟨w.heap.size, 0, none⟩) xs.length xs.length) xs ∧ Below w.heap.size w w' :=
 (toIntS_any v xs w h hl).mono fun e w' ⟨h1, h2, h3⟩ => ⟨h1, by
  by_cases hp : 0 < xs.length
  ·exact .inr ⟨hp, _, rfl, (own_at h2).1⟩
  ·have : xs = [] := List.eq_nil_of_length_eq_zero (by omega)
   subst this
   exact .inl ⟨_, _, rfl, rfl⟩, h3⟩
end Go.Proofs.YtghgiefciijoeaaGreatDoor
