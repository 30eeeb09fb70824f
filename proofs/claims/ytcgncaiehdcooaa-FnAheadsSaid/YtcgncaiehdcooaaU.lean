/- The reference's draws: l1New, l1pair, DrawClockMax, DrawClockLeq. -/
import Derived.Test.YtcgncaiehdcooaaT
namespace Go.Proofs.Ytcgncaiehdcooaa
open Go.RowKit
set_option linter.unusedVariables false

def NewCur (w : World) (e : Ending) (w' : World) : Prop := ∃ B, e = .returned (.pointer (some ⟨B, 0, none⟩)) ∧ w.heap.size ≤ B ∧ Cur w' B ∧ Below w.heap.size w w'

theorem newCur_mk (w : World) (a : Option Addr) (len cap : Nat) (h : Int) (hm : len ≤ 9223372036854775807) (hc : Code w w.heap.size a len) :
    NewCur w (.returned (.pointer (some ⟨w.heap.size, 0, none⟩))) (w.alloc (.cells #[.slice a len cap, .int .i64 0, .int .i64 h] 111)) :=
  ⟨w.heap.size, rfl, Nat.le_refl _, ⟨a, len, cap, 0, h, Blk.new w #[.slice a len cap, .int .i64 0, .int .i64 h] 111, by omega, by omega, hm, hc.other fun b o hb => World.cell?_alloc_old (h := by show b ≠ _; omega) ..⟩, (Below.refl _ _).alloc (Nat.le_refl _) _⟩

set_option maxHeartbeats 400000 in
set_option maxRecDepth 100000 in
theorem new_any (a : Option Addr) (len cap : Nat) (w : World) (hm : len ≤ 9223372036854775807) (hc : Code w w.heap.size a len) : Calls Try.prog 52 #[.slice a len cap] w (NewCur w) := by
  have HC := Lib.hid hc
  clear hc
  go_enter Try.func52, Try.ntmps52
  go_wp2
  go_loop [3, 4] (fun t i => ∃ (k : Nat) (h : Int), k ≤ len ∧ k ≤ 4000 ∧ i = .int .i64 k ∧ t = .int .i64 h) (fun _ i => len - (intOf i).toNat)
  case atStart => exact ⟨0, _, Nat.zero_le _, by omega, rfl, rfl⟩
  case round =>
    obtain ⟨k, h, hk, hk4, rfl, rfl⟩ := hrel
    by_cases hlt : k < len
    · by_cases hl4 : k < 4000
      · obtain ⟨b, off, x, ha, hb, hx, hx0, hx1⟩ := HC.out k hlt
        subst ha
        go_wp2
        go_round
        case rel => exact ⟨k + 1, _, by omega, by omega, by go_num, rfl⟩
        case measure => simp [intOf]; omega
      · go_wp2
        go_ret
        exact newCur_mk w a len cap h hm HC.out
    · go_wp2
      go_ret
      exact newCur_mk w a len cap h hm HC.out
end Go.Proofs.Ytcgncaiehdcooaa
