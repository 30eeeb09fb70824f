/- heldActS at lists of acts that bear their marks. -/
import Derived.Test.YtghgiefciijoeaaGreatDoorHC

namespace Go.Proofs.YtghgiefciijoeaaGreatDoor
open Go.RowKit
set_option linter.unusedVariables false
theorem mkL_getD : ∀ (k : Int) (l : List ActM) (i : Nat), i < l.length → (mkL k l).getD i act0 = mkA (k + szL (l.take i)) (l.getD i act0)
 | k, [], i, h => by simp at h
 | k, a :: l, 0, _ => by simp [mkL, szL]
 | k, a :: l, i + 1, h => by
  rw [mkL, List.getD_cons_succ, mkL_getD (k + szA a) l i (by simpa using h), List.getD_cons_succ, List.take_succ_cons, szL]
  congr 1
  omega
theorem szL_take (l : List ActM) (i : Nat) (h : i < l.length) : szL (l.take (i + 1)) = szL (l.take i) + szA (l.getD i act0) := by
 rw [List.take_succ_eq_append_getElem h, szL_app]
 simp [szL, List.getD, h]
theorem szL_le (l : List ActM) (i : Nat) : szL (l.take i) ≤ szL l := by
 have : szL l = szL (l.take i) + szL (l.drop i) := by rw [← szL_app, List.take_append_drop]
 omega
set_option maxRecDepth 100000 in
set_option maxHeartbeats 6400000 in
theorem heldL_some (b off n cap : Nat) (k : Int) (l : List ActM) (ts : List ActT) (w : World) (hn : ts.length = n) (hl : ts.map ActT.a = mkL k l) (hk : 0 ≤ k) (hs : k + szL l ≤ 4000000000) (hr : ∀ t ∈ ts, t.Reads w)
  (hc : ∀ i, i < n → ActAt w b (off + i * 11) (ts.getD i t0)) :
  Calls Tryz.prog 37 #[.slice (some ⟨b, off, none⟩) n cap, .int .i64 k] w fun e w' => e = .returned (.int .i64 (k + szL l)) ∧ w' = w := by
 have hln : l.length = n := by
  have := congrArg List.length hl
  rw [List.length_map, mkL_length, hn] at this
  omega
 obtain ⟨F, hF⟩ : ∃ F, F = szL l := ⟨_, rfl⟩
 have hnF : n ≤ F := by rw [hF, ← hln]; exact szL_len l
 rw [← hF] at hs ⊢
 have HN := Lib.hid hn
 have HL := Lib.hid hl
 have HR := Lib.hid hr
 have HC := Lib.hid hc
 have HF := Lib.hid hF
 have HLN := Lib.hid hln
 clear hn hl hr hc hF hln
 go_enter Tryz.func37, Tryz.ntmps37
 go_wp2
 go_loop [1, 5] (fun t i => ∃ (j z : Nat), j ≤ n ∧ i = .int .i64 j ∧ t = .int .i64 (k + z) ∧ z ≤ F ∧ Hid (z = szL (l.take j))) (fun _ i => n - (intOf i).toNat)
 case atStart => exact ⟨0, 0, Nat.zero_le _, rfl, by simp, Nat.zero_le _, rfl⟩
 case round =>
  obtain ⟨j, z, hj, rfl, rfl, hz, hzz⟩ := hrel
  by_cases hlt : j < n
  ·have hm := getD_mem (ts := ts) (i := j) (by rw [HN.out]; exact hlt)
   have hrd := HR.out _ hm
   have hat := HC.out j hlt
   have hta : (ts.getD j t0).a = mkA (k + z) (l.getD j act0) := by
    rw [← getD_map (by rw [HN.out]; exact hlt), HL.out, mkL_getD k l j (by rw [HLN.out]; exact hlt), ← hzz.out]
   have hst := szL_take l j (by rw [HLN.out]; exact hlt)
   rw [← hzz.out] at hst
   have hle := szL_le l (j + 1)
   rw [hst, ← HF.out] at hle
   obtain ⟨u, hu⟩ : ∃ u, u = l.getD j act0 := ⟨_, rfl⟩
   rw [← hu] at hta hst hle
   obtain ⟨t, ht⟩ : ∃ t, t = ts.getD j t0 := ⟨_, rfl⟩
   rw [← ht] at hta hrd hat
   clear ht hu hm
   obtain ⟨ta, vd, vs⟩ := t
   simp only at hta
   subst hta
   obtain ⟨r1, r2⟩ := hrd
   simp only [mkA] at r1 r2
   have hsd := ints_len r1
   have hsu := ups_len r2
   rw [iota_length] at hsd
   rw [mkU_length] at hsu
   obtain ⟨da, dc, rfl⟩ := hsd
   obtain ⟨ua, uc, rfl⟩ := hsu
   have c0 := hat.c0
   have c1 := hat.c1
   have c2 := hat.c2
   have c3 := hat.c3
   have c4 := hat.c4
   have c5 := hat.c5
   have c6 := hat.c6
   have c7 := hat.c7
   have c8 := hat.c8
   have c9 := hat.c9
   have c10 := hat.c10
   simp only [mkA, mkD] at c0 c1 c2 c3 c4 c5 c6 c7 c8 c9 c10
   simp only [mkD] at r2
   have hsz : szA u = 9 + u.dep.length + 4 * u.ups.length := rfl
   have HST := Lib.hid hst
   have HSZ := Lib.hid hsz
   have hbd : z + 9 + u.dep.length + 4 * u.ups.length ≤ F := by omega
   have HH1 := Lib.hid (held_any _ _ _ _ r1 (by omega) (by omega))
   have HH2 := Lib.hid (heldU_any _ _ _ _ r2 (by omega) (by omega))
   clear hat hst hsz r1 r2 hle
   obtain ⟨d, hd⟩ : ∃ d, d = u.dep.length := ⟨_, rfl⟩
   obtain ⟨q, hq⟩ : ∃ q, q = u.ups.length := ⟨_, rfl⟩
   rw [← hd, ← hq] at HSZ hbd HH2
   rw [← hd] at HH1 c2 c3 c4 c5 c6 c7 c8 c9
   rw [← hq] at c10
   clear hd hq
   go_wp2_with fail
   refine HH1.out.mono ?_
   rintro e w1 ⟨rfl, rfl⟩
   have n1 : decide (k + (z : Int) + 1 + 1 + (d : Int) < 0) = false := by simp; omega
   go_wp2_with fail
   refine HH2.out.mono ?_
   rintro e w2 ⟨rfl, rfl⟩
   have n2 : decide (k + (z : Int) + 1 + 1 + (d : Int) + 1 + 1 + 1 + 1 + 1 + 1 + 1 + 4 * (q : Int) < 0) = false := by simp; omega
   go_wp2_with fail
   go_round
   case rel =>
    refine ⟨j + 1, z + szA u, by omega, by go_num, ?_, by rw [HSZ.out]; omega, HST.out.symm⟩
    rw [HSZ.out]; congr 1; push_cast; omega
   case measure => simp [intOf]; omega
  ·have hjn : j = n := by omega
   subst hjn
   have hzf : z = F := by rw [hzz.out, List.take_of_length_le (by rw [HLN.out]; exact Nat.le_refl _), HF.out]
   subst hzf
   go_wp2
   go_ret
   exact ⟨rfl, rfl⟩
theorem heldL_empty (a : Option Addr) (cap : Nat) (k : Int) (w : World) (hk : 0 ≤ k) (hs : k ≤ 4000000000) :
  Calls Tryz.prog 37 #[.slice a 0 cap, .int .i64 k] w fun e w' => e = .returned (.int .i64 k) ∧ w' = w := by
 go_enter Tryz.func37, Tryz.ntmps37
 go_wp2
 go_loop [1, 5] (fun t i => t = .int .i64 k ∧ i = .int .i64 0) (fun _ _ => 0)
 case atStart => exact ⟨rfl, rfl⟩
 case round =>
  obtain ⟨rfl, rfl⟩ := hrel
  go_wp2
  go_ret
  exact ⟨rfl, rfl⟩
theorem heldL_any {w : World} {v : Value} {l : List ActM} {k : Int} (h : Acts w v (mkL k l)) (hk : 0 ≤ k) (hs : k + szL l ≤ 4000000000) :
  Calls Tryz.prog 37 #[v, .int .i64 k] w fun e w' => e = .returned (.int .i64 (k + szL l)) ∧ w' = w := by
 obtain ⟨ts, hl, ht⟩ := h
 rcases ht.2 with ⟨a, cap, rfl, rfl⟩ | ⟨b, off, cap, rfl, h1, h2, h3, h4⟩
 ·have hz : l = [] := by
   have := congrArg List.length hl
   rw [mkL_length] at this
   exact List.eq_nil_of_length_eq_zero (by simpa using this)
  subst hz
  simpa [szL] using heldL_empty a cap k w hk (by simpa [szL] using hs)
 ·exact heldL_some b off _ cap k l ts w rfl hl.symm hk hs ht.1 h4
end Go.Proofs.YtghgiefciijoeaaGreatDoor
