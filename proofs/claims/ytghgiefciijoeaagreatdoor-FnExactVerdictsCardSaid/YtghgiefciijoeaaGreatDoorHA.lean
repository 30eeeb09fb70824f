/- markUpS, heldUpS; lists of ups and acts as they are marked. -/
import Derived.Test.YtghgiefciijoeaaGreatDoorN
import Derived.Test.YtghgiefciijoeaaGreatDoorMC

namespace Go.Proofs.YtghgiefciijoeaaGreatDoor
open Go.RowKit
set_option linter.unusedVariables false
def mkU (k : Int) : List UpM → List UpM
 | [] => []
 | _ :: us => ⟨k, k + 1, k + 1 + 1, k + 1 + 1 + 1⟩ :: mkU (k + 4) us
theorem mkU_length : ∀ (k : Int) (us : List UpM), (mkU k us).length = us.length
 | _, [] => rfl
 | k, u :: us => by simp [mkU, mkU_length (k + 4) us]
theorem mkU_getD : ∀ (k : Int) (us : List UpM) (i : Nat), i < us.length → (mkU k us).getD i up0 = ⟨k + 4 * i, k + 4 * i + 1, k + 4 * i + 1 + 1, k + 4 * i + 1 + 1 + 1⟩
 | k, [], i, h => by simp at h
 | k, u :: us, 0, _ => by simp [mkU]
 | k, u :: us, i + 1, h => by
  rw [mkU, List.getD_cons_succ, mkU_getD (k + 4) us i (by simpa using h)]
  have e : k + 4 + 4 * (i : Int) = k + 4 * ((i + 1 : Nat) : Int) := by omega
  rw [e]
theorem mkU_step (k : Int) (us : List UpM) (j : Nat) (h : j < us.length) : ((mkU k us).take j ++ us.drop j).set j ⟨k + 4 * j, k + 4 * j + 1, k + 4 * j + 1 + 1, k + 4 * j + 1 + 1 + 1⟩ = (mkU k us).take (j + 1) ++ us.drop (j + 1) := by
 have hl := mkU_length k us
 have hg := mkU_getD k us j h
 rw [List.set_append_right _ _ (by simp; omega), List.length_take, Nat.min_eq_left (by omega), Nat.sub_self, List.drop_eq_getElem_cons h, List.set_cons_zero, List.take_succ_eq_append_getElem (by omega), List.append_assoc]
 congr 1
 simp only [List.getD, List.getElem?_eq_getElem (show j < (mkU k us).length by omega), Option.getD_some] at hg
 rw [hg]
 rfl
set_option maxRecDepth 100000 in
set_option maxHeartbeats 3200000 in
theorem markU_some (g cap n : Nat) (k : Int) (us : List UpM) (w : World) (hn : us.length = n) (hk : 0 ≤ k) (hs : k + 4 * n ≤ 4000000000) (ho : w.ownsRow g 116 4 (.slice (some ⟨g, 0, none⟩) n cap) n (vu us)) :
  Calls Tryz.prog 62 #[.slice (some ⟨g, 0, none⟩) n cap, .int .i64 k] w fun e w' => e = .returned (.int .i64 (k + 4 * n)) ∧ w'.ownsRow g 116 4 (.slice (some ⟨g, 0, none⟩) n cap) n (vu (mkU k us)) ∧ w.grownBy w' (some g) := by
 have HN := Lib.hid hn
 have HO := Lib.hid ho
 clear hn ho
 go_enter Tryz.func62, Tryz.ntmps62
 go_wp2
 go_loopw [1, 5] (fun t i wr => ∃ j : Nat, j ≤ n ∧ i = .int .i64 j ∧ t = .int .i64 (k + 4 * j) ∧ Hid (wr.ownsRow g 116 4 (.slice (some ⟨g, 0, none⟩) n cap) n (vu ((mkU k us).take j ++ us.drop j))) ∧ Hid (w.grownBy wr (some g))) (fun _ i _ => n - (intOf i).toNat)
 case atStart => exact ⟨0, Nat.zero_le _, rfl, by simp, by simpa [Hid] using HO.out, ⟨rfl, rfl, rfl, Nat.le_refl _, fun _ _ _ => rfl⟩⟩
 case round =>
  obtain ⟨j, hj, rfl, rfl, h1, h2⟩ := hrel
  by_cases hlt : j < n
  ·have hlen : ((mkU k us).take j ++ us.drop j).length = n := by simp [mkU_length, HN.out]; omega
   obtain ⟨u, hu⟩ : ∃ u, u = ((mkU k us).take j ++ us.drop j).getD j up0 := ⟨_, rfl⟩
   obtain ⟨q0, q1, q2, q3⟩ := vu_at ((mkU k us).take j ++ us.drop j) j (by rw [hlen]; exact hlt)
   rw [← hu] at q0 q1 q2 q3
   have c0 := (h1.out.cellAt (j * 4) (by omega)).trans q0
   have c1 := (h1.out.cellAt (j * 4 + 1) (by omega)).trans q1
   have c2 := (h1.out.cellAt (j * 4 + 2) (by omega)).trans q2
   have c3 := (h1.out.cellAt (j * 4 + 3) (by omega)).trans q3
   have f0 := h1.out.frozenAt (j * 4)
   have f1 := h1.out.frozenAt (j * 4 + 1)
   have f2 := h1.out.frozenAt (j * 4 + 2)
   have f3 := h1.out.frozenAt (j * 4 + 3)
   have st := row_set4 h1.out j hlen hlt ⟨k + 4 * j, k + 4 * j + 1, k + 4 * j + 1 + 1, k + 4 * j + 1 + 1 + 1⟩
   rw [mkU_step k us j (by rw [HN.out]; exact hlt)] at st
   have ST := Lib.hid (And.intro st ((grown_set (w := wr) g (j * 4) (.int .i64 (k + 4 * j))).trans ((grown_set g (j * 4 + 1) (.int .i64 (k + 4 * j + 1))).trans ((grown_set g (j * 4 + 2) (.int .i64 (k + 4 * j + 1 + 1))).trans (grown_set g (j * 4 + 3) (.int .i64 (k + 4 * j + 1 + 1 + 1)))))))
   clear st hlen hu q0 q1 q2 q3
   go_wp2
   go_roundw
   case rel => exact ⟨j + 1, by omega, by go_num, by go_num, ST.out.1, h2.out.trans ST.out.2⟩
   case measure => simp [intOf]; omega
  ·have : j = n := by omega
   subst this
   have hd : Hid (vu ((mkU k us).take j ++ us.drop j) = vu (mkU k us)) := by
    show _ = _
    rw [List.drop_of_length_le (by rw [HN.out]; omega), List.append_nil, List.take_of_length_le (by rw [mkU_length, HN.out]; omega)]
   go_wp2
   go_ret
   refine ⟨rfl, ?_, h2.out⟩
   have := h1.out
   rw [hd.out] at this
   exact this
theorem markU_empty (a : Option Addr) (cap : Nat) (k : Int) (w : World) (hk : 0 ≤ k) (hs : k ≤ 4000000000) :
  Calls Tryz.prog 62 #[.slice a 0 cap, .int .i64 k] w fun e w' => e = .returned (.int .i64 k) ∧ w' = w := by
 go_enter Tryz.func62, Tryz.ntmps62
 go_wp2
 go_loop [1, 5] (fun t i => t = .int .i64 k ∧ i = .int .i64 0) (fun _ _ => 0)
 case atStart => exact ⟨rfl, rfl⟩
 case round =>
  obtain ⟨rfl, rfl⟩ := hrel
  go_wp2
  go_ret
  exact ⟨rfl, rfl⟩
theorem markU_any (g : Nat) (v : Value) (k : Int) (us : List UpM) (w : World) (h : OwnU w g v us) (hk : 0 ≤ k) (hs : k + 4 * us.length ≤ 4000000000) :
  Calls Tryz.prog 62 #[v, .int .i64 k] w fun e w' => e = .returned (.int .i64 (k + 4 * us.length)) ∧ OwnU w' g v (mkU k us) ∧ w.grownBy w' (some g) := by
 rcases h with ⟨a, cap, rfl, rfl⟩ | ⟨hp, cap, rfl, ho⟩
 ·refine (markU_empty a cap k w hk (by simp at hs; exact hs)).mono ?_
  rintro e w' ⟨rfl, rfl⟩
  exact ⟨by simp, .inl ⟨_, _, rfl, rfl⟩, grown_refl _ _⟩
 ·refine (markU_some g cap _ k us w rfl hk hs ho).mono ?_
  rintro e w' ⟨rfl, h1, h2⟩
  exact ⟨rfl, .inr ⟨by rw [mkU_length]; exact hp, cap, by rw [mkU_length], by rw [mkU_length]; exact h1⟩, h2⟩
set_option maxRecDepth 100000 in
set_option maxHeartbeats 3200000 in
theorem heldU_some (b off cap n : Nat) (k : Int) (us : List UpM) (w : World) (hn : us.length = n) (hk : 0 ≤ k) (hs : k + 4 * n ≤ 4000000000) (hc : ∀ i, i < n → UpAt w b (off + i * 4) ((mkU k us).getD i up0)) :
  Calls Tryz.prog 71 #[.slice (some ⟨b, off, none⟩) n cap, .int .i64 k] w fun e w' => e = .returned (.int .i64 (k + 4 * n)) ∧ w' = w := by
 have HC := Lib.hid hc
 have HN := Lib.hid hn
 clear hc hn
 go_enter Tryz.func71, Tryz.ntmps71
 go_wp2
 go_loop [1, 5] (fun t i => ∃ j : Nat, j ≤ n ∧ i = .int .i64 j ∧ t = .int .i64 (k + 4 * j)) (fun _ i => n - (intOf i).toNat)
 case atStart => exact ⟨0, Nat.zero_le _, rfl, by simp⟩
 case round =>
  obtain ⟨j, hj, rfl, rfl⟩ := hrel
  by_cases hlt : j < n
  ·have q := HC.out j hlt
   rw [mkU_getD k us j (by rw [HN.out]; exact hlt)] at q
   obtain ⟨c0, c1, c2, c3⟩ := q
   simp only at c0 c1 c2 c3
   go_wp2
   go_round
   case rel => exact ⟨j + 1, by omega, by go_num, by go_num⟩
   case measure => simp [intOf]; omega
  ·have : j = n := by omega
   subst this
   go_wp2
   go_ret
   exact ⟨rfl, rfl⟩
theorem heldU_empty (a : Option Addr) (cap : Nat) (k : Int) (w : World) (hk : 0 ≤ k) (hs : k ≤ 4000000000) :
  Calls Tryz.prog 71 #[.slice a 0 cap, .int .i64 k] w fun e w' => e = .returned (.int .i64 k) ∧ w' = w := by
 go_enter Tryz.func71, Tryz.ntmps71
 go_wp2
 go_loop [1, 5] (fun t i => t = .int .i64 k ∧ i = .int .i64 0) (fun _ _ => 0)
 case atStart => exact ⟨rfl, rfl⟩
 case round =>
  obtain ⟨rfl, rfl⟩ := hrel
  go_wp2
  go_ret
  exact ⟨rfl, rfl⟩
theorem heldU_any (v : Value) (k : Int) (us : List UpM) (w : World) (h : Ups w v (mkU k us)) (hk : 0 ≤ k) (hs : k + 4 * us.length ≤ 4000000000) :
  Calls Tryz.prog 71 #[v, .int .i64 k] w fun e w' => e = .returned (.int .i64 (k + 4 * us.length)) ∧ w' = w := by
 have hl := mkU_length k us
 rcases h with ⟨a, cap, rfl, h0⟩ | ⟨b, off, cap, rfl, h1, h2, h3, h4⟩
 ·have hz : us.length = 0 := by rw [← hl, h0]; rfl
  rw [hz]
  simpa using heldU_empty a cap k w hk (by rw [hz] at hs; simpa using hs)
 ·rw [hl] at h4 ⊢
  exact heldU_some b off cap _ k us w rfl hk hs h4
end Go.Proofs.YtghgiefciijoeaaGreatDoor
