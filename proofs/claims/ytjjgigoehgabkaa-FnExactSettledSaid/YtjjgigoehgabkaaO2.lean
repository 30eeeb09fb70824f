/- The reference's ClockMin. -/
import Derived.Test.YtjjgigoehgabkaaN
import Derived.Test.YtjjgigoehgabkaaMA2
import Derived.Test.YtjjgigoehgabkaaF2
namespace Go.Proofs.Ytjjgigoehgabkaa
open Go.RowKit
set_option linter.unusedVariables false

/-- a call that gives a slice that reads as xs in cells of its own and writes nothing that was there -/
def Made (w : World) (xs : List Int) (e : Ending) (w' : World) : Prop := ∃ g v, e = .returned v ∧ w.heap.size ≤ g ∧ Own w' g v xs ∧ Below w.heap.size w w'

def spMin (xs ys : List Int) : List Int := if bothB xs ys = true then List.zipWith mn xs ys else []
/-- behind k rounds -/
def mnTo (xs ys : List Int) (k : Nat) : List Int := List.zipWith mn (xs.take k) (ys.take k) ++ xs.drop k
theorem mnTo_length (xs ys : List Int) (k : Nat) (h : xs.length = ys.length) : (mnTo xs ys k).length = xs.length := by
  simp [mnTo]; omega
theorem mnTo_at (xs ys : List Int) (k : Nat) (h : xs.length = ys.length) (hk : k < xs.length) : (vi (mnTo xs ys k))[k]? = some (.int .i64 (xs.getD k 0)) := by
  unfold vi mnTo
  rw [List.getElem?_map, List.getElem?_append_right (by simp; omega)]
  have : k - (List.zipWith mn (xs.take k) (ys.take k)).length = 0 := by simp; omega
  rw [this]
  simp [List.getElem?_drop, hk, List.getD]
theorem mnTo_step (xs ys : List Int) (k : Nat) (h : xs.length = ys.length) (hk : k < xs.length) : mnTo xs ys (k + 1) = (mnTo xs ys k).set k (mn (xs.getD k 0) (ys.getD k 0)) := by
  have hl : (List.zipWith mn (xs.take k) (ys.take k)).length = k := by simp; omega
  unfold mnTo
  rw [List.set_append_right _ _ (by omega), hl, Nat.sub_self, List.drop_eq_getElem_cons hk, List.set_cons_zero, List.take_succ_eq_append_getElem hk, List.take_succ_eq_append_getElem (by omega : k < ys.length),
    List.zipWith_append (by simp; omega)]
  simp [List.getD, hk, show k < ys.length by omega]
theorem mnTo_all (xs ys : List Int) (k : Nat) (h : xs.length = ys.length) (hk : k = xs.length) : mnTo xs ys k = List.zipWith mn xs ys := by
  subst hk
  simp only [mnTo, List.take_length, List.drop_length, List.append_nil]
  rw [h, List.take_length]
theorem mnTo_same (xs ys : List Int) (k : Nat) (h : xs.length = ys.length) (hk : k < xs.length) (hm : mn (xs.getD k 0) (ys.getD k 0) = xs.getD k 0) : mnTo xs ys (k + 1) = mnTo xs ys k := by
  rw [mnTo_step xs ys k h hk, hm]
  apply List.ext_getElem?
  intro i
  by_cases e : i = k
  · subst e
    have := mnTo_at xs ys i h hk
    unfold vi at this
    rw [List.getElem?_map] at this
    rw [List.getElem?_set_self (by rw [mnTo_length xs ys i h]; exact hk)]
    cases hh : (mnTo xs ys i)[i]? with
    | none => rw [hh] at this; simp at this
    | some z => rw [hh] at this; simp at this; rw [this]; simp [List.getD]
  · rw [List.getElem?_set_ne (by omega)]

set_option maxHeartbeats 800000 in
theorem specMin_some (b off cap b' off' cap' n : Nat) (xs ys : List Int) (w : World) (hn : xs.length = n) (hm : ys.length = n) (hb : b < w.heap.size) (hb' : b' < w.heap.size) (h1 : 1 ≤ n) (h4 : n ≤ 4)
    (hbo : Calls Try.prog 195 #[.slice (some ⟨b, off, none⟩) n cap, .slice (some ⟨b', off', none⟩) n cap'] w fun e w' => e = .returned (.bool true) ∧ w' = w)
    (hc : ∀ i, i < n → w.cell? ⟨b, off + i, none⟩ = some (.int .i64 (xs.getD i 0))) (hc' : ∀ i, i < n → w.cell? ⟨b', off' + i, none⟩ = some (.int .i64 (ys.getD i 0))) :
    Calls Try.prog 173 #[.slice (some ⟨b, off, none⟩) n cap, .slice (some ⟨b', off', none⟩) n cap'] w (Made w (List.zipWith mn xs ys)) := by
  obtain ⟨i0, hi, hz0, hz1, hz2⟩ := info_parts Try.info3
  have HB := Lib.hid hbo
  have HN := Lib.hid hn
  have HM := Lib.hid hm
  have HC := Lib.hid hc
  have HC' := Lib.hid hc'
  clear hbo hn hm hc hc'
  go_enter Try.func173, Try.ntmps173
  go_wp2_with fail
  refine HB.out.mono ?_
  rintro e w1 ⟨rfl, rfl⟩
  have hown0 : (w1.alloc (.cells #[] 3)).ownsRow w1.heap.size 3 1 (.slice (some ⟨w1.heap.size, 0, none⟩) 0 0) 0 [] := World.ownsRow_lit w1 #[] 0 (Nat.le_refl _) (by unfold maxLen; omega) rfl
  have HO0 := Lib.hid hown0
  have bel0 := Lib.hid ((Below.refl w1.heap.size w1).alloc (Nat.le_refl _) (.cells #[] 3))
  clear hown0
  go_wp2_with (at_builtin; refine wpList_append_own _ rfl (.tmp 11) (.tmp 12) 29 rfl w1.heap.size 3 i0 (.int .i64 0) 1 8 Try.underlying29 hi hz0 hz1 hz2 rfl (by decide) _ 0 [] rfl HO0.out ⟨b, off, none⟩ n cap (vi xs) rfl ?c1 ?c2 ?c3 ?c4 ?c5 ?c6 ?_)
  case c1 => simp [vi, HN.out]
  case c2 =>
    intro j u hu
    have hj : j < n := by
      have := (List.getElem?_eq_some_iff.1 hu).1
      simpa [vi, HN.out] using this
    have hu' : u = .int .i64 (xs.getD j 0) := by
      have hj' : j < xs.length := by rw [HN.out]; exact hj
      simp only [vi, List.getElem?_map, List.getElem?_eq_getElem hj', Option.map_some, Option.some.injEq] at hu
      rw [← hu]; simp [List.getD, hj']
    have ha : (Addr.add ⟨b, off, none⟩ j) = ⟨b, off + j, none⟩ := by
      unfold Addr.add; split
      · subst j; rfl
      · rfl
    rw [ha, hu', ← HC.out j hj]
    exact bel0.out.cell (p := ⟨b, off + j, none⟩) hb
  case c3 =>
    intro u hu
    simp only [vi, List.mem_map] at hu
    obtain ⟨x, _, rfl⟩ := hu
    rfl
  case c4 => unfold maxLen; omega
  case c5 => omega
  case c6 => simp
  intro v2 w2 hown hgrow hnil
  obtain ⟨g, cap2, hv2⟩ : ∃ g cap2, v2 = .slice (some ⟨g, 0, none⟩) n cap2 := by
    rcases hown.2 with ⟨_, h0⟩ | ⟨g, cap2, cur, h0, _⟩
    · omega
    · exact ⟨g, cap2, by simpa using h0⟩
  rw [hv2] at hown
  have hg := own_at hown
  have bel2 := Lib.hid (bel0.out.grown hgrow (Nat.le_of_lt (by simp)) (fun k hk => by cases hk; exact Nat.le_refl _))
  have HW := Lib.hid hown
  have HG := Lib.hid hg
  have HV := Lib.hid hv2
  clear hown hgrow hnil hg hv2
  rw [HV.out]
  go_wp2
  go_loopw [6] (fun i wr => ∃ k : Nat, k ≤ n ∧ i = .int .i64 k ∧ Hid (wr.ownsRow g 3 1 (.slice (some ⟨g, 0, none⟩) n cap2) n (vi (mnTo xs ys k))) ∧ Hid (Below w1.heap.size w1 wr)) (fun i _ => n - (intOf i).toNat)
  case atStart =>
    refine ⟨0, Nat.zero_le _, rfl, ?_, bel2.out⟩
    have := HG.out.1
    show World.ownsRow _ _ _ _ _ _ _
    rw [show mnTo xs ys 0 = xs by simp [mnTo]]
    exact this
  case round =>
    obtain ⟨k, hk, rfl, ho, hb2⟩ := hrel
    have hxy : xs.length = ys.length := by rw [HN.out, HM.out]
    have HXY := Lib.hid hxy
    clear hxy
    by_cases hlt : k < n
    · have q1 : wr.cell? ⟨g, k, none⟩ = some (.int .i64 (xs.getD k 0)) := (ho.out.cellAt k (by omega)).trans (mnTo_at xs ys k HXY.out (by rw [HN.out]; exact hlt))
      have q2 : wr.cell? ⟨b', off' + k, none⟩ = some (.int .i64 (ys.getD k 0)) := (hb2.out.cell (p := ⟨b', off' + k, none⟩) hb').trans (HC'.out k hlt)
      have f := ho.out.frozenAt k
      have st := mnTo_step xs ys k HXY.out (by rw [HN.out]; exact hlt)
      have sm := mnTo_same xs ys k HXY.out (by rw [HN.out]; exact hlt)
      have sto := (ho.out.stored k (.int .i64 (ys.getD k 0))).1
      generalize xs.getD k 0 = x at *
      generalize ys.getD k 0 = y at *
      have i0 : (0 : Int) ≤ k := by omega
      have i1 : (k : Int) < n := by omega
      by_cases hxy : y < x
      · have e1 : decide (y < x) = true := by simp; exact hxy
        rw [show mn x y = y by unfold mn; split <;> omega] at st
        have hst : wr.ownsRow g 3 1 (.slice (some ⟨g, 0, none⟩) n cap2) n (vi (mnTo xs ys k)) := ho.out
        have ST : Hid ((wr.setCell ⟨g, k, none⟩ (.int .i64 y)).ownsRow g 3 1 (.slice (some ⟨g, 0, none⟩) n cap2) n (vi (mnTo xs ys (k + 1)))) := by
          show World.ownsRow _ _ _ _ _ _ _
          rw [st]
          simpa [vi, List.map_set] using sto
        clear st sm sto hst
        go_wp2
        go_quiet (fail)
        go_wp2
        go_roundw
        case rel => exact ⟨k + 1, by omega, by go_num, ST.out, (below_drewN hb2.out _).setCell (p := ⟨g, k, none⟩) HG.out.2.1 _⟩
        case measure => simp [intOf]; omega
      · have e1 : decide (y < x) = false := by simp; omega
        have SM := Lib.hid (sm (by unfold mn; split <;> omega))
        clear st sm sto
        go_wp2
        go_quiet (fail)
        go_wp2
        go_roundw
        case rel => exact ⟨k + 1, by omega, by go_num, by show World.ownsRow _ _ _ _ _ _ _; rw [SM.out]; exact ho.out, below_drewN hb2.out _⟩
        case measure => simp [intOf]; omega
    · have hkn : k = n := by omega
      subst hkn
      have AL := Lib.hid (mnTo_all xs ys k HXY.out HN.out.symm)
      have LN := Lib.hid (mnTo_length xs ys k HXY.out)
      go_wp2
      go_ret
      refine ⟨g, _, rfl, HG.out.2.1, .inr ?_, hb2.out⟩
      have hl : (List.zipWith mn xs ys).length = k := by rw [← AL.out, LN.out, HN.out]
      rw [hl, ← AL.out]
      exact ⟨by omega, cap2, rfl, ho.out⟩

theorem specMin_any (v v' : Value) (xs ys : List Int) (w : World) (h : Ints w v xs) (h' : Ints w v' ys) :
    Calls Try.prog 173 #[v, v'] w (Made w (spMin xs ys)) := by
  have hb := both_any v v' xs ys w h h'
  cases b : bothB xs ys with
  | false =>
    rw [b] at hb
    have HR := Lib.hid (show spMin xs ys = [] by rw [spMin, if_neg (by simp [b])])
    have HB := Lib.hid hb
    rw [HR.out]
    clear b hb h h'
    go_enter Try.func173, Try.ntmps173
    go_wp2_with fail
    refine HB.out.mono ?_
    rintro e w' ⟨rfl, rfl⟩
    go_wp2
    go_ret
    exact ⟨_, _, rfl, Nat.le_refl _, .inl ⟨_, _, rfl, rfl⟩, Below.refl _ _⟩
  | true =>
    rw [b] at hb
    rw [show spMin xs ys = List.zipWith mn xs ys by rw [spMin, if_pos b]]
    simp only [bothB, Bool.and_eq_true, decide_eq_true_eq] at b
    have k1 := (okB_iff xs).1 b.1.1
    rcases h with ⟨a, cap, rfl, rfl⟩ | ⟨b1, off, cap, rfl, h1, h2, h3, h4⟩
    · simp at k1
    · rcases h' with ⟨a', cap', rfl, rfl⟩ | ⟨b', off', cap', rfl, h1', h2', h3', h4'⟩
      · have := b.2; simp only [List.length_nil] at this; omega
      · rw [← b.2] at hb ⊢
        exact specMin_some _ _ _ _ _ _ _ xs ys w rfl b.2.symm h1 h1' (by omega) (by omega) hb h4 (by rw [b.2]; exact h4')
end Go.Proofs.Ytjjgigoehgabkaa
