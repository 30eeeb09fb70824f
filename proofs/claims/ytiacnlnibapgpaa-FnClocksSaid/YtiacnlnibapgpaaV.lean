/- The reference's draws: l1pair, DrawClockMax, DrawClockLeq. -/
import Derived.Test.YtiacnlnibapgpaaU
namespace Go.Proofs.Ytiacnlnibapgpaa
open Go.RowKit
set_option linter.unusedVariables false

/-- two slices of ints -/
def DrawnPair (w : World) (e : Ending) (w' : World) : Prop := ∃ v v' xs ys, e = .returned (.tuple #[v, v']) ∧ Ints w' v xs ∧ Ints w' v' ys ∧ Below w.heap.size w w'
theorem own_open {w : World} {g : Nat} {v : Value} {xs : List Int} (h : Own w g v xs) (hp : 0 < xs.length) : ∃ cap, v = .slice (some ⟨g, 0, none⟩) xs.length cap ∧ w.ownsRow g 3 1 (.slice (some ⟨g, 0, none⟩) xs.length cap) xs.length (vi xs) := by
  rcases h with ⟨a, cap, rfl, rfl⟩ | ⟨_, h⟩
  · simp at hp
  · exact h

set_option maxHeartbeats 1600000 in
theorem pair_any (a : Option Addr) (len cap : Nat) (w : World) (hm : len ≤ 9223372036854775807) (hc : Code w w.heap.size a len) : Calls Try.prog 31 #[.slice a len cap] w (DrawnPair w) := by
  obtain ⟨i0, hi, hz0, hz1, hz2⟩ := info_parts Try.info3
  have HC := Lib.hid hc
  clear hc
  go_enter Try.func31, Try.ntmps31
  go_wp2_with fail
  refine (new_any a len cap w hm HC.out).mono ?_
  rintro e w1 ⟨B, rfl, hB, hc1, hb1⟩
  have C1 := Lib.hid hc1
  have L1 := Lib.hid hc1.lt
  have B1 := Lib.hid hb1
  clear hc1 hb1
  go_wp2_with fail
  refine (below_any B 4 _ C1.out (by omega)).mono ?_
  rintro e w2 ⟨x, rfl, x0, _, x1, hc2, hg2⟩
  have x2 := x1 (by omega)
  obtain ⟨j, rfl⟩ := Int.eq_ofNat_of_zero_le x0
  have C2 := Lib.hid hc2
  have L2 := Lib.hid hg2.size
  have B2 := Lib.hid (B1.out.grown hg2 B1.out.size (fun k hk => by cases hk; exact hB))
  clear hc2 hg2 x1 x0
  obtain ⟨n, hn⟩ : ∃ n : Nat, n = 1 + j := ⟨_, rfl⟩
  have hn1 : (1 : Int) + (j : Int) = (n : Int) := by omega
  have HN1 := Lib.hid hn1
  have n1 : 1 ≤ n := by omega
  have n4 : n ≤ 4 := by omega
  clear hn1 hn
  have j0 : (0 : Int) ≤ j := by omega
  go_wp2_with fail
  rw [HN1.out]
  refine (clock_any B n _ C2.out n4).mono ?_
  rintro e w3 ⟨ga, va, xs, rfl, ho3, hga, hxl, _, hc3, hg3⟩
  have C3 := Lib.hid hc3
  have O3 := Lib.hid ho3
  have GA := Lib.hid hga
  have XL := Lib.hid hxl
  have L3 := Lib.hid hg3.size
  have B3 := Lib.hid (B2.out.grown hg3 B2.out.size (fun k hk => by cases hk; exact hB))
  clear hc3 hg3 ho3 hga hxl
  go_wp2_with fail
  refine (clock_any B n _ C3.out n4).mono ?_
  rintro e w4 ⟨gb, vb, ys, rfl, ho4, hgb, hyl, _, hc4, hg4⟩
  have C4 := Lib.hid hc4
  have O4 := Lib.hid (O3.out.other hg4 (fun _ => by have := GA.out; have := L1.out; have := L2.out; omega))
  have Q4 := Lib.hid ho4
  have GB := Lib.hid hgb
  have YL := Lib.hid hyl
  have L4 := Lib.hid hg4.size
  have B4 := Lib.hid (B3.out.grown hg4 B3.out.size (fun k hk => by cases hk; exact hB))
  clear hc4 hg4 ho4 hgb hyl
  go_wp2_with fail
  refine (below_any B 12 _ C4.out (by omega)).mono ?_
  rintro e w5 ⟨t, rfl, t0, _, t1, hc5, hg5⟩
  have C5 := Lib.hid hc5
  have O5 := Lib.hid (O4.out.other hg5 (fun _ => by have := GA.out; have := L1.out; have := L2.out; omega))
  have Q5 := Lib.hid (Q4.out.other hg5 (fun _ => by have := GB.out; have := L3.out; have := L1.out; have := L2.out; omega))
  have L5 := Lib.hid hg5.size
  have B5 := Lib.hid (B4.out.grown hg5 B4.out.size (fun k hk => by cases hk; exact hB))
  clear hc5 hg5 t1 t0
  obtain ⟨ca, hva, hoa⟩ := own_open O5.out (by rw [XL.out]; omega)
  obtain ⟨cb, hvb, hob⟩ := own_open Q5.out (by rw [YL.out]; omega)
  have HVA := Lib.hid hva
  have HVB := Lib.hid hvb
  have HOA := Lib.hid hoa
  have HOB := Lib.hid hob
  rw [XL.out] at HOA HVA
  rw [YL.out] at HOB HVB
  clear hva hvb hoa hob
  have IA := Lib.hid (own_ints O5.out)
  have IB := Lib.hid (own_ints Q5.out)
  by_cases t0 : t = 0
  · subst t0
    rw [HVA.out]
    have bel6 := Lib.hid (B5.out.alloc B5.out.size (.cells #[.int .i64 1] 3))
    go_wp2_with (at_builtin; refine wpList_append_own _ rfl (.tmp 23) (.tmp 24) 23 rfl ga 3 i0 (.int .i64 0) 1 8 Try.underlying23 hi hz0 hz1 hz2 rfl (by decide) _ n (vi xs) rfl (HOA.out.alloc _) ⟨w5.heap.size, 0, none⟩ 1 1 [.int .i64 1] rfl rfl ?c1 ?c2 ?c3 ?c4 ?c5 ?_)
    case c1 => exact cell_one_new _ _ _
    case c2 => simp [Value.oneCell']
    case c3 => unfold maxLen; omega
    case c4 => omega
    case c5 => have := (own_at HOA.out).2.2; simp; omega
    intro v2 w2' hown2 hgrow2 _
    have hown3 : w2'.ownsRow ga 3 1 v2 (n + 1) (vi (xs ++ [1])) := by simpa [vi] using hown2
    obtain ⟨g2, _, hw2⟩ := own_of_row (by rw [List.length_append, XL.out]; rfl) hown3
    have I2 := Lib.hid (own_ints hw2)
    have B6 := Lib.hid (bel6.out.grown hgrow2 bel6.out.size (fun k hk => by cases hk; have := GA.out; have := B1.out.size; have := L2.out; show w.heap.size ≤ ga; omega))
    have Q6 := Lib.hid (own_ints (Own.other (g' := ga) ((Own.block (w' := w5.alloc (.cells #[.int .i64 1] 3)) Q5.out (fun hp => (grown_alloc w5 _ none).block _ (own_lt Q5.out hp) (by simp)))) hgrow2 (fun hp => by have := GB.out; have := (own_lt O3.out (by rw [XL.out]; omega)); omega)))
    clear hown2 hgrow2 hown3 hw2
    go_wp2
    go_ret2
    exact ⟨_, _, _, ys, rfl, I2.out, Q6.out, B6.out⟩
  · by_cases t1 : t = 1
    · subst t1
      rw [HVA.out]
      have hq5 := Q5.out
      go_wp2_with fail
      refine (pick_any B w5.heap.size 3 3 [-1, 100000, 100001] _ rfl (C5.out.grown (grown_alloc w5 (.cells #[.int .i64 (-1), .int .i64 100000, .int .i64 100001] 3) none) (fun g hg => by cases hg)) (by omega) (by omega) C5.out.lt (by simp) (by
        intro i hi
        match i, hi with
        | 0, _ => simp
        | 1, _ => simp
        | 2, _ => simp
        | i + 3, h => omega)).mono ?_
      rintro e w6 ⟨z, rfl, _, hc6, hg6⟩
      have HO6 := Lib.hid (row_block (HOA.out.alloc (.cells #[.int .i64 (-1), .int .i64 100000, .int .i64 100001] 3)) (hg6.block ga (by have := (own_at HOA.out).2.2; simp; omega) (by intro e; cases e; have := GA.out; have := GB.out; have := L1.out; have := L2.out; have := L3.out; omega)))
      have HQ6 := Lib.hid (((hq5.block (w' := w5.alloc (.cells #[.int .i64 (-1), .int .i64 100000, .int .i64 100001] 3)) (fun hp => (grown_alloc w5 _ none).block _ (own_lt hq5 hp) (by simp)))).other hg6 (fun _ => by have := GA.out; have := GB.out; have := L1.out; have := L2.out; have := L3.out; omega))
      have B6 := Lib.hid ((B5.out.alloc B5.out.size (.cells #[.int .i64 (-1), .int .i64 100000, .int .i64 100001] 3)).grown hg6 (by have := B5.out.size; simp; omega) (fun k hk => by cases hk; exact hB))
      clear hc6 hg6 hq5
      have q6 : w6.cell? ⟨ga, 0, none⟩ = some (.int .i64 (xs.getD 0 0)) := by
        have hl : 0 < xs.length := by rw [XL.out]; omega
        rw [HO6.out.cellAt 0 (by omega), vi, List.getElem?_map, List.getElem?_eq_getElem hl]
        simp [List.getD, hl]
      have f6 := HO6.out.frozenAt 0
      have S6 := Lib.hid (HO6.out.stored 0 (.int .i64 z))
      generalize xs.getD 0 0 = y0 at *
      go_wp2
      go_ret2
      have hrow : (w6.setCell ⟨ga, 0, none⟩ (.int .i64 z)).ownsRow ga 3 1 (.slice (some ⟨ga, 0, none⟩) n ca) n (vi (xs.set 0 z)) := by
        simpa [vi, List.map_set] using S6.out.1
      have hints := ints_own (by rw [List.length_set, XL.out]) hrow
      have hoth := HQ6.out.other S6.out.2 (fun hp => by have := GA.out; have := GB.out; have := L1.out; have := L2.out; have := (own_lt O3.out (by rw [XL.out]; omega)); omega)
      exact ⟨_, _, _, _, rfl, hints, own_ints hoth, B6.out.grown S6.out.2 B6.out.size (fun k hk => by cases hk; have := GA.out; have := B1.out.size; have := L2.out; omega)⟩
    · by_cases t2 : t = 2
      · subst t2
        go_wp2
        go_ret2
        exact ⟨_, _, [], ys, rfl, .inl ⟨_, _, rfl, rfl⟩, IB.out, B5.out⟩
      · by_cases t3 : t = 3
        · subst t3
          rw [HVA.out]
          have HO0 : Hid ((w5.alloc (.cells #[] 3)).ownsRow w5.heap.size 3 1 (.slice (some ⟨w5.heap.size, 0, none⟩) 0 0) 0 []) := World.ownsRow_lit w5 #[] 0 (Nat.le_refl _) (by unfold maxLen; omega) rfl
          have bel6 := Lib.hid (B5.out.alloc B5.out.size (.cells #[] 3))
          have HOX := Lib.hid (HOA.out.alloc (.cells #[] 3))
          go_wp2_with (at_builtin; refine wpList_append_own _ rfl (.tmp 37) (.tmp 38) 23 rfl w5.heap.size 3 i0 (.int .i64 0) 1 8 Try.underlying23 hi hz0 hz1 hz2 rfl (by decide) _ 0 [] rfl HO0.out ⟨ga, 0, none⟩ n ca (vi xs) rfl ?c1 ?c2 ?c3 ?c4 ?c5 ?c6 ?_)
          case c1 => simp [vi, XL.out]
          case c2 =>
            intro j u hu
            have hj : j < n := by
              have := (List.getElem?_eq_some_iff.1 hu).1
              simpa [vi, XL.out] using this
            have ha : (Addr.add ⟨ga, 0, none⟩ j) = ⟨ga, j, none⟩ := by
              unfold Addr.add; split
              · subst j; rfl
              · simp
            rw [ha, ← hu]
            exact HOX.out.cellAt j (by omega)
          case c3 =>
            intro u hu
            simp only [vi, List.mem_map] at hu
            obtain ⟨x, _, rfl⟩ := hu
            rfl
          case c4 => unfold maxLen; omega
          case c5 => omega
          case c6 => simp
          intro v2 w2' hown2 hgrow2 _
          have hown3 : w2'.ownsRow w5.heap.size 3 1 v2 n (vi xs) := by simpa using hown2
          obtain ⟨g2, hge2, hw2⟩ := own_of_row XL.out hown3
          have I2 := Lib.hid (own_ints hw2)
          have B6 := Lib.hid (bel6.out.grown hgrow2 bel6.out.size (fun k hk => by cases hk; exact B5.out.size))
          have O6 := Lib.hid (own_ints (Own.other (g' := w5.heap.size) (Own.block (w' := w5.alloc (.cells #[] 3)) O5.out (fun hp => (grown_alloc w5 _ none).block _ (own_lt O5.out hp) (by simp))) hgrow2 (fun hp => by have := own_lt O5.out hp; omega)))
          rw [HVA.out] at O6
          clear hown2 hgrow2 hown3 hw2
          go_wp2
          go_ret2
          exact ⟨_, _, xs, xs, rfl, O6.out, I2.out, B6.out⟩
        · by_cases t4 : t = 4
          · subst t4
            rw [HVB.out]
            have hq5 := O5.out
            go_wp2_with fail
            refine (pick_any B w5.heap.size 2 2 [-1, 100001] _ rfl (C5.out.grown (grown_alloc w5 (.cells #[.int .i64 (-1), .int .i64 100001] 3) none) (fun g hg => by cases hg)) (by omega) (by omega) C5.out.lt (by simp) (by
              intro i hi
              match i, hi with
              | 0, _ => simp
              | 1, _ => simp
              | i + 2, h => omega)).mono ?_
            rintro e w6 ⟨z, rfl, _, hc6, hg6⟩
            have HO6 := Lib.hid (row_block (HOB.out.alloc (.cells #[.int .i64 (-1), .int .i64 100001] 3)) (hg6.block gb (by have := (own_at HOB.out).2.2; simp; omega) (by intro e; cases e; have := GA.out; have := GB.out; have := L1.out; have := L2.out; have := L3.out; omega)))
            have HQ6 := Lib.hid (((hq5.block (w' := w5.alloc (.cells #[.int .i64 (-1), .int .i64 100001] 3)) (fun hp => (grown_alloc w5 _ none).block _ (own_lt hq5 hp) (by simp)))).other hg6 (fun _ => by have := GA.out; have := GB.out; have := L1.out; have := L2.out; have := L3.out; omega))
            have B6 := Lib.hid ((B5.out.alloc B5.out.size (.cells #[.int .i64 (-1), .int .i64 100001] 3)).grown hg6 (by have := B5.out.size; simp; omega) (fun k hk => by cases hk; exact hB))
            clear hc6 hg6 hq5
            have q6 : w6.cell? ⟨gb, 0, none⟩ = some (.int .i64 (ys.getD 0 0)) := by
              have hl : 0 < ys.length := by rw [YL.out]; omega
              rw [HO6.out.cellAt 0 (by omega), vi, List.getElem?_map, List.getElem?_eq_getElem hl]
              simp [List.getD, hl]
            have f6 := HO6.out.frozenAt 0
            have S6 := Lib.hid (HO6.out.stored 0 (.int .i64 z))
            generalize ys.getD 0 0 = y0 at *
            go_wp2
            go_ret2
            have hrow : (w6.setCell ⟨gb, 0, none⟩ (.int .i64 z)).ownsRow gb 3 1 (.slice (some ⟨gb, 0, none⟩) n cb) n (vi (ys.set 0 z)) := by
              simpa [vi, List.map_set] using S6.out.1
            have hints := ints_own (by rw [List.length_set, YL.out]) hrow
            have hoth := HQ6.out.other S6.out.2 (fun hp => by have := GA.out; have := GB.out; have := L1.out; have := L2.out; have := (own_lt O3.out (by rw [XL.out]; omega)); omega)
            exact ⟨_, _, _, _, rfl, own_ints hoth, hints, B6.out.grown S6.out.2 B6.out.size (fun k hk => by cases hk; have := GB.out; have := B1.out.size; have := L2.out; have := L3.out; omega)⟩
          · have b0 : (t == 0) = false := by simpa using t0
            have b1 : (t == 1) = false := by simpa using t1
            have b2 : (t == 2) = false := by simpa using t2
            have b3 : (t == 3) = false := by simpa using t3
            have b4 : (t == 4) = false := by simpa using t4
            clear t0 t1 t2 t3 t4
            go_wp2
            go_ret2
            exact ⟨_, _, xs, ys, rfl, IA.out, IB.out, B5.out⟩

theorem drawMax_any (a : Option Addr) (len cap : Nat) (w : World) (hm : len ≤ 9223372036854775807) (hc : Code w w.heap.size a len) : Calls Try.prog 11 #[.slice a len cap] w (DrawnPair w) := by
  have HP := Lib.hid (pair_any a len cap w hm hc)
  clear hc
  go_enter Try.func11, Try.ntmps11
  go_wp2_with fail
  refine HP.out.mono ?_
  rintro e w1 ⟨v, v', xs, ys, rfl, h1, h2, h3⟩
  have H := Lib.hid (And.intro h1 (And.intro h2 h3))
  clear h1 h2 h3
  go_wp2
  go_ret2
  exact ⟨_, _, xs, ys, rfl, H.out.1, H.out.2.1, H.out.2.2⟩
theorem drawLeq_any (a : Option Addr) (len cap : Nat) (w : World) (hm : len ≤ 9223372036854775807) (hc : Code w w.heap.size a len) : Calls Try.prog 19 #[.slice a len cap] w (DrawnPair w) := by
  have HP := Lib.hid (pair_any a len cap w hm hc)
  clear hc
  go_enter Try.func19, Try.ntmps19
  go_wp2_with fail
  refine HP.out.mono ?_
  rintro e w1 ⟨v, v', xs, ys, rfl, h1, h2, h3⟩
  have H := Lib.hid (And.intro h1 (And.intro h2 h3))
  clear h1 h2 h3
  go_wp2
  go_ret2
  exact ⟨_, _, xs, ys, rfl, H.out.1, H.out.2.1, H.out.2.2⟩
end Go.Proofs.Ytiacnlnibapgpaa
