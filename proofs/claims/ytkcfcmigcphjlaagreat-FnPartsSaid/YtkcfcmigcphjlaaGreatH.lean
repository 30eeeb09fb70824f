/- The method sum of a clock; the method list. -/
import Derived.Test.YtkcfcmigcphjlaaGreatGC

namespace Go.Proofs.YtkcfcmigcphjlaaGreat
open Go.RowKit
set_option linter.unusedVariables false

def smk (c0 c1 c2 c3 : Int) (k : Nat) : Int := (if 0 < k then c0 else 0) + (if 1 < k then c1 else 0) + (if 2 < k then c2 else 0) + (if 3 < k then c3 else 0)
theorem smk_step (n c0 c1 c2 c3 : Int) (k : Nat) (hk : k < 4) : ∃ x, (vi [n, c0, c1, c2, c3])[1 + k]? = some (.int .i64 x) ∧ smk c0 c1 c2 c3 (k + 1) = smk c0 c1 c2 c3 k + x ∧ (x = c0 ∨ x = c1 ∨ x = c2 ∨ x = c3) := by
  match k, hk with
  | 0, _ => exact ⟨c0, rfl, by simp [smk], .inl rfl⟩
  | 1, _ => exact ⟨c1, rfl, by simp [smk], .inr (.inl rfl)⟩
  | 2, _ => exact ⟨c2, rfl, by simp [smk], .inr (.inr (.inl rfl))⟩
  | 3, _ => exact ⟨c3, rfl, by simp [smk], .inr (.inr (.inr rfl))⟩
  | k + 4, h => omega

set_option maxHeartbeats 400000 in
theorem sum_any (n c0 c1 c2 c3 : Int) (w : World) (h0 : 0 ≤ n) (h4 : n ≤ 4) (z0 : 0 ≤ c0 ∧ c0 ≤ 100000) (z1 : 0 ≤ c1 ∧ c1 ≤ 100000) (z2 : 0 ≤ c2 ∧ c2 ≤ 100000) (z3 : 0 ≤ c3 ∧ c3 ≤ 100000) :
    Calls Tryz.prog 48 #[.agg #[.int .i64 n, .int .i64 c0, .int .i64 c1, .int .i64 c2, .int .i64 c3]] w fun e w' =>
      e = .returned (.int .i64 (smk c0 c1 c2 c3 n.toNat)) ∧ Below w.heap.size w w' := by
  have b1 : Blk (w.alloc (.cells #[.int .i64 n, .int .i64 c0, .int .i64 c1, .int .i64 c2, .int .i64 c3] 55)) w.heap.size (vi [n, c0, c1, c2, c3]) := by simpa [vi] using Blk.new w #[.int .i64 n, .int .i64 c0, .int .i64 c1, .int .i64 c2, .int .i64 c3] 55
  have B1 := Lib.hid b1
  have bb := Lib.hid ((Below.refl w.heap.size w).alloc (Nat.le_refl _) (.cells #[.int .i64 n, .int .i64 c0, .int .i64 c1, .int .i64 c2, .int .i64 c3] 55))
  have ZZ := Lib.hid (And.intro z0 (And.intro z1 (And.intro z2 z3)))
  clear b1 z0 z1 z2 z3
  go_enter Tryz.func48, Tryz.ntmps48
  go_wp2
  go_loop [3, 7] (fun t i => ∃ k : Nat, (k : Int) ≤ n ∧ i = .int .i64 k ∧ ∃ s : Int, t = .int .i64 s ∧ Hid (s = smk c0 c1 c2 c3 k) ∧ 0 ≤ s ∧ s ≤ k * 100000) (fun _ i => n.toNat - (intOf i).toNat)
  case atStart => exact ⟨0, h0, rfl, 0, rfl, by simp [Hid, smk], by omega, by omega⟩
  case round =>
    obtain ⟨k, hk, rfl, s, rfl, hs, s0, s1⟩ := hrel
    by_cases hlt : (k : Int) < n
    · obtain ⟨x, hx, hst, hxx⟩ := smk_step n c0 c1 c2 c3 k (by omega)
      have q2 := (B1.out.cell (1 + k)).trans hx
      have hb : 0 ≤ x ∧ x ≤ 100000 := by
        obtain ⟨z0, z1, z2, z3⟩ := ZZ.out
        rcases hxx with e | e | e | e <;> (rw [e]; assumption)
      obtain ⟨x0, x1⟩ := hb
      have HS := Lib.hid hst
      clear hx hst hxx
      have k4 : (k : Int) < 4 := by omega
      go_wp2
      go_round
      case rel => exact ⟨k + 1, by omega, by go_num, s + x, rfl, by show _ = _; rw [HS.out, hs.out], by omega, by omega⟩
      case measure => simp [intOf]; omega
    · have hkn : n = k := by omega
      subst hkn
      go_wp2
      go_ret
      exact ⟨ret_int (by rw [hs.out]), bb.out⟩
end Go.Proofs.YtkcfcmigcphjlaaGreat
