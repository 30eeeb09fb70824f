/- The reference's draws: l1clock, l1PickInt. -/
import Derived.Test.YtiacnlnibapgpaaS
namespace Go.Proofs.Ytiacnlnibapgpaa
open Go.RowKit
set_option linter.unusedVariables false

/-- a slice of n ints from 0 to 3 in new cells, by a call that writes into the cursor alone -/
def DrawnInts (w : World) (B : Nat) (n : Nat) (e : Ending) (w' : World) : Prop := ∃ g v xs, e = .returned v ∧ Own w' g v xs ∧ w.heap.size ≤ g ∧ xs.length = n ∧ (∀ x ∈ xs, 0 ≤ x ∧ x ≤ 3) ∧ Cur w' B ∧ w.grownBy w' (some B)

theorem own_of_row {w : World} {K n : Nat} {v : Value} {xs : List Int} (hn : xs.length = n) (h : w.ownsRow K 3 1 v n (vi xs)) : ∃ g, K ≤ g ∧ Own w g v xs := by
  subst hn
  have h0 := h
  rcases h.2 with ⟨hv, hz⟩ | ⟨g, cap, cur, hv, hg, _⟩
  · have : xs = [] := List.eq_nil_of_length_eq_zero hz
    subst this
    exact ⟨K, Nat.le_refl _, .inl ⟨_, _, hv, rfl⟩⟩
  · refine ⟨g, hg, ?_⟩
    subst hv
    by_cases hp : 0 < xs.length
    · exact .inr ⟨hp, cap, rfl, (own_at h0).1⟩
    · have : xs = [] := List.eq_nil_of_length_eq_zero (by omega)
      subst this
      exact .inl ⟨_, _, rfl, rfl⟩

theorem row_grown {w w' : World} {K : Nat} {e size n : Nat} {v : Value} {xs : List Value} {r : Option Nat} (h : w.ownsRow K e size v n xs) (hg : w.grownBy w' r) (hr : ∀ g, r = some g → g < K) : w'.ownsRow K e size v n xs := by
  obtain ⟨h1, h2⟩ := h
  refine ⟨h1, ?_⟩
  rcases h2 with h2 | ⟨g, cap, cur, hv, hk, hh, r'⟩
  · exact .inl h2
  · refine .inr ⟨g, cap, cur, hv, hk, ?_, r'⟩
    rw [hg.block g (Array.getElem?_eq_some_iff.1 hh).1 (fun e => by have := hr g e.symm; omega)]
    exact hh
theorem grown_then {w w1 w2 : World} {r r2 : Option Nat} (h : w.grownBy w1 r) (h2 : w1.grownBy w2 r2) (hr : ∀ g, r2 = some g → r = some g ∨ w.heap.size ≤ g) : w.grownBy w2 r :=
  ⟨h2.os.trans h.os, h2.tape.trans h.tape, h2.output.trans h.output, Nat.le_trans h.size h2.size, fun k hk hn => (h2.block k (by have := h.size; omega) (fun e => by
    rcases hr k e.symm with h' | h'
    · exact hn h'.symm
    · omega)).trans (h.block k hk hn)⟩
theorem own_block_ge {w : World} {K e size n : Nat} {v : Value} {xs : List Value} (h : w.ownsRow K e size v n xs) : ∀ g, v.ownBlock = some g → K ≤ g := by
  intro g hg
  rcases h.2 with ⟨rfl, _⟩ | ⟨g', cap, cur, rfl, hk, _⟩
  · cases hg
  · cases hg; exact hk

set_option maxHeartbeats 800000 in
theorem clock_any (B n : Nat) (w : World) (h : Cur w B) (hn : n ≤ 4) : Calls Try.prog 43 #[.pointer (some ⟨B, 0, none⟩), .int .i64 n] w (DrawnInts w B n) := by
  obtain ⟨i0, hi, hz0, hz1, hz2⟩ := info_parts Try.info3
  have HC := Lib.hid h
  have hB := h.lt
  clear h
  go_enter Try.func43, Try.ntmps43
  go_wp2
  go_loopw [5, 6] (fun sv i wr => ∃ (k : Nat) (l : List Int) (v : Value), v = sv ∧ k ≤ n ∧ i = .int .i64 k ∧ Hid (l.length = k) ∧ Hid (∀ x ∈ l, 0 ≤ x ∧ x ≤ 3) ∧ Hid (wr.ownsRow w.heap.size 3 1 v k (vi l)) ∧ Hid (Cur wr B) ∧ Hid (w.grownBy wr (some B))) (fun _ i _ => n - (intOf i).toNat)
  case atStart => exact ⟨0, [], _, rfl, Nat.zero_le _, rfl, rfl, (by intro x hx; cases hx), ⟨rfl, .inl ⟨rfl, rfl⟩⟩, HC.out, grown_refl _ _⟩
  case round =>
    obtain ⟨k, l, v, hv, hk, rfl, hl, hr, ho, hc, hg⟩ := hrel
    subst hv
    by_cases hlt : k < n
    · go_wp2_with fail
      refine (below_any B 4 _ hc.out (by omega)).mono ?_
      rintro e w1 ⟨x, rfl, x0, _, x1, hc1, hg1⟩
      have H1 : Hid (w1.ownsRow w.heap.size 3 1 v k (vi l)) := row_grown ho.out hg1 (fun g e => by cases e; exact hB)
      have hs1 := hg.out.size
      have hs2 := hg1.size
      have HC1 := Lib.hid hc1
      have HG1 := Lib.hid (hg.out.trans hg1)
      have X1 := Lib.hid (x1 (by omega))
      clear hc1 hg1 x1 hc hg ho
      go_wp2_with (at_builtin; refine wpList_append_own _ rfl (.tmp 12) (.tmp 15) 23 rfl w.heap.size 3 i0 (.int .i64 0) 1 8 Try.underlying23 hi hz0 hz1 hz2 rfl (by decide) _ k (vi l) rfl (H1.out.alloc _) ⟨w1.heap.size, 0, none⟩ 1 1 [.int .i64 x] rfl rfl ?c1 ?c2 ?c3 ?c4 ?c5 ?_)
      case c1 => exact cell_one_new _ _ _
      case c2 => simp [Value.oneCell']
      case c3 => unfold maxLen; omega
      case c4 => omega
      case c5 => simp; omega
      intro v2 w2 hown2 hgrow2 _
      have G2 := Lib.hid (grown_then (grown_then HG1.out (grown_alloc w1 (.cells #[.int .i64 x] 3) none) (fun g hg => by cases hg)) hgrow2 (fun g hg => .inr (own_block_ge H1.out g hg)))
      have C2 := Lib.hid ((HC1.out.grown (grown_alloc w1 (.cells #[.int .i64 x] 3) none) (fun g hg => by cases hg)).grown hgrow2 (fun g hg => by have := own_block_ge H1.out g hg; omega))
      have O2 : Hid (w2.ownsRow w.heap.size 3 1 v2 (k + 1) (vi (l ++ [x]))) := by
        show World.ownsRow _ _ _ _ _ _ _
        simpa [vi] using hown2
      clear hown2 hgrow2
      go_wp2
      go_roundw
      case rel => exact ⟨k + 1, l ++ [x], _, rfl, by omega, by go_num, by show _ = _; rw [List.length_append, hl.out]; rfl, (fun y hy => by
          rcases List.mem_append.1 hy with h | h
          · exact hr.out y h
          · simp only [List.mem_singleton] at h; subst h; have := X1.out; omega), O2.out, C2.out, G2.out⟩
      case measure => simp [intOf]; omega
    · go_wp2
      go_ret
      obtain ⟨g, hge, hown⟩ := own_of_row hl.out ho.out
      have : k = n := by omega
      subst this
      exact ⟨g, _, l, rfl, hown, hge, hl.out, hr.out, hc.out, hg.out⟩

set_option maxHeartbeats 400000 in
/-- l1PickInt of a list that is not empty: one of its ints -/
theorem pick_any (B g cap n : Nat) (xs : List Int) (w : World) (hnn : xs.length = n) (h : Cur w B) (hn : 0 < n) (hm : n ≤ 256) (hg : B < g) (hgl : g < w.heap.size) (hc : ∀ i, i < n → w.cell? ⟨g, i, none⟩ = some (.int .i64 (xs.getD i 0))) :
    Calls Try.prog 44 #[.pointer (some ⟨B, 0, none⟩), .slice (some ⟨g, 0, none⟩) n cap] w fun e w' => ∃ x, e = .returned (.int .i64 x) ∧ x ∈ xs ∧ Cur w' B ∧ w.grownBy w' (some B) := by
  have HC := Lib.hid h
  have HX := Lib.hid hc
  have HN := Lib.hid hnn
  have hB := h.lt
  clear h hc hnn
  go_enter Try.func44, Try.ntmps44
  go_wp2_with fail
  refine (below_any B n _ HC.out (by omega)).mono ?_
  rintro e w1 ⟨x, rfl, x0, _, x1, hc1, hg1⟩
  have x2 := x1 (by omega)
  obtain ⟨j, rfl⟩ := Int.eq_ofNat_of_zero_le x0
  have q : w1.cell? ⟨g, j, none⟩ = some (.int .i64 (xs.getD j 0)) := (World.cell?_of_block (a := ⟨g, j, none⟩) (hg1.block g hgl (fun e => by cases e; omega))).trans (HX.out j (by omega))
  have hj : j < xs.length := by rw [HN.out]; omega
  have hmem : Hid (xs.getD j 0 ∈ xs) := by
    show _ ∈ _
    simp [List.getD, hj]
  have HC1 := Lib.hid hc1
  have HG1 := Lib.hid hg1
  clear hc1 hg1 x1 hj
  generalize xs.getD j 0 = z at *
  go_wp2
  go_ret
  exact ⟨z, rfl, hmem.out, HC1.out, HG1.out⟩
end Go.Proofs.Ytiacnlnibapgpaa
