/- The reference's draws: l1clock. -/
import Derived.Test.YtkcfcmigcphjlaaGreatGK

namespace Go.Proofs.YtkcfcmigcphjlaaGreat
open Go.RowKit
set_option linter.unusedVariables false

/-- a slice of n ints from 0 to 3 in new cells, by a call that writes into the cursor alone -/
def DrawnInts (w : World) (B : Nat) (n : Nat) (e : Ending) (w' : World) : Prop := ∃ g v xs, e = .returned v ∧ Own w' g v xs ∧ w.heap.size ≤ g ∧ xs.length = n ∧ (∀ x ∈ xs, 0 ≤ x ∧ x ≤ 3) ∧ Cur w' B ∧ w.grownBy w' (some B)

set_option maxHeartbeats 800000 in
theorem clock_any (B n : Nat) (w : World) (h : Cur w B) (hn : n ≤ 5) : Calls Tryz.prog 93 #[.pointer (some ⟨B, 0, none⟩), .int .i64 n] w (DrawnInts w B n) := by
  obtain ⟨i0, hi, hz0, hz1, hz2⟩ := info_parts Tryz.info3
  have HC := Lib.hid h
  have hB := h.lt
  clear h
  go_enter Tryz.func93, Tryz.ntmps93
  go_wp2
  go_loopw [5, 6] (fun sv i wr => ∃ (k : Nat) (l : List Int) (v : Value), v = sv ∧ k ≤ n ∧ i = .int .i64 k ∧ Hid (l.length = k) ∧ Hid (∀ x ∈ l, 0 ≤ x ∧ x ≤ 3) ∧ Hid (wr.ownsRow w.heap.size 3 1 v k (vi l)) ∧ Hid (Cur wr B) ∧ Hid (w.grownBy wr (some B))) (fun _ i _ => n - (intOf i).toNat)
  case atStart => exact ⟨0, [], _, rfl, Nat.zero_le _, rfl, rfl, (by intro x hx; cases hx), ⟨rfl, .inl ⟨rfl, rfl⟩⟩, HC.out, grown_refl _ _⟩
  case round =>
    obtain ⟨k, l, v, hv, hk, rfl, hl, hr, ho, hc, hg⟩ := hrel
    subst hv
    by_cases hlt : k < n
    · go_wp2_with fail
      refine (below_any B 4 _ hc.out (by omega)).mono ?_
      rintro e w1 ⟨x, rfl, x0, _, x1, hc1, hg1⟩
      have H1 : Hid (w1.ownsRow w.heap.size 3 1 v k (vi l)) := row_grown ho.out hg1 (fun g e => by cases e; exact hB)
      have hs1 := hg.out.size
      have hs2 := hg1.size
      have HC1 := Lib.hid hc1
      have HG1 := Lib.hid (hg.out.trans hg1)
      have X1 := Lib.hid (x1 (by omega))
      clear hc1 hg1 x1 hc hg ho
      go_wp2_with (at_builtin; refine wpList_append_own _ rfl (.tmp 12) (.tmp 15) 27 rfl w.heap.size 3 i0 (.int .i64 0) 1 8 Tryz.underlying27 hi hz0 hz1 hz2 rfl (by decide) _ k (vi l) rfl (H1.out.alloc _) ⟨w1.heap.size, 0, none⟩ 1 1 [.int .i64 x] rfl rfl ?c1 ?c2 ?c3 ?c4 ?c5 ?_)
      case c1 => exact cell_one_new _ _ _
      case c2 => simp [Value.oneCell']
      case c3 => unfold maxLen; omega
      case c4 => omega
      case c5 => simp; omega
      intro v2 w2 hown2 hgrow2 _
      have G2 := Lib.hid (grown_then (grown_then HG1.out (grown_alloc w1 (.cells #[.int .i64 x] 3) none) (fun g hg => by cases hg)) hgrow2 (fun g hg => .inr (own_block_ge H1.out g hg)))
      have C2 := Lib.hid ((HC1.out.grown (grown_alloc w1 (.cells #[.int .i64 x] 3) none) (fun g hg => by cases hg)).grown hgrow2 (fun g hg => by have := own_block_ge H1.out g hg; omega))
      have O2 : Hid (w2.ownsRow w.heap.size 3 1 v2 (k + 1) (vi (l ++ [x]))) := by
        show World.ownsRow _ _ _ _ _ _ _
        simpa [vi] using hown2
      clear hown2 hgrow2
      go_wp2
      go_roundw
      case rel => exact ⟨k + 1, l ++ [x], _, rfl, by omega, by go_num, by show _ = _; rw [List.length_append, hl.out]; rfl, (fun y hy => by
          rcases List.mem_append.1 hy with h | h
          · exact hr.out y h
          · simp only [List.mem_singleton] at h; subst h; have := X1.out; omega), O2.out, C2.out, G2.out⟩
      case measure => simp [intOf]; omega
    · go_wp2
      go_ret
      obtain ⟨g, hge, hown⟩ := own_of_row hl.out ho.out
      have : k = n := by omega
      subst this
      exact ⟨g, _, l, rfl, hown, hge, hl.out, hr.out, hc.out, hg.out⟩

end Go.Proofs.YtkcfcmigcphjlaaGreat
