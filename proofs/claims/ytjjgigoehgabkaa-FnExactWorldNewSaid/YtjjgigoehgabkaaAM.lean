/- The reference's l2mask, l2ups. -/
import Derived.Test.YtjjgigoehgabkaaMB
import Derived.BigQuiet
import Derived.Deep.QuietTactic
namespace Go.Proofs.Ytjjgigoehgabkaa
open Go.RowKit
set_option linter.unusedVariables false

set_option maxHeartbeats 800000 in
theorem mask_any (r n actor kind to bucket mask gr gn : Int) (dep : List Int) (ups : List UpM) (vd vs : Value) (w : World) :
    Calls Try.prog 176 #[.agg #[.int .i64 r, .int .i64 n, vd, .int .i64 actor, .int .i64 kind, .int .i64 to, .int .i64 bucket, .int .i64 mask, .int .i64 gr, .int .i64 gn, vs]] w fun e w' => e = .returned (.bool (maskM ⟨r, n, dep, actor, kind, to, bucket, mask, gr, gn, ups⟩)) ∧ Below w.heap.size w w' := by
  have bb := Lib.hid ((Below.refl w.heap.size w).alloc (Nat.le_refl _) (.cells #[.int .i64 r, .int .i64 n, vd, .int .i64 actor, .int .i64 kind, .int .i64 to, .int .i64 bucket, .int .i64 mask, .int .i64 gr, .int .i64 gn, vs] 42))
  obtain ⟨R, hR⟩ : ∃ R, R = maskM ⟨r, n, dep, actor, kind, to, bucket, mask, gr, gn, ups⟩ := ⟨_, rfl⟩
  rw [← hR]
  simp only [maskM] at hR
  by_cases h0 : 0 ≤ bucket
  · have d0 : decide (0 ≤ bucket) = true := by simpa using h0
    by_cases h1 : bucket < 3
    · have d1 : decide (bucket < 3) = true := by simpa using h1
      by_cases h2 : 0 ≤ mask
      · have d2 : decide (0 ≤ mask) = true := by simpa using h2
        have HR := Lib.hid (show R = decide (mask ≤ 15) by rw [hR]; simp [d0, d1, d2])
        clear hR
        go_enter Try.func176, Try.ntmps176
        go_wp2
        go_ret
        exact ⟨ret_bool HR.out.symm, bb.out⟩
      · have d2 : decide (0 ≤ mask) = false := by simp; omega
        have HR := Lib.hid (show R = false by rw [hR]; simp [d2])
        clear hR
        go_enter Try.func176, Try.ntmps176
        go_wp2
        go_ret
        exact ⟨ret_bool HR.out.symm, bb.out⟩
    · have d1 : decide (bucket < 3) = false := by simp; omega
      have HR := Lib.hid (show R = false by rw [hR]; simp [d1])
      clear hR
      go_enter Try.func176, Try.ntmps176
      go_wp2
      go_ret
      exact ⟨ret_bool HR.out.symm, bb.out⟩
  · have d0 : decide (0 ≤ bucket) = false := by simp; omega
    have HR := Lib.hid (show R = false by rw [hR]; simp [d0])
    clear hR
    go_enter Try.func176, Try.ntmps176
    go_wp2
    go_ret
    exact ⟨ret_bool HR.out.symm, bb.out⟩

theorem okUp_iff (u : UpM) : okUp u = true ↔ 1 ≤ u.kind ∧ u.kind ≤ 4 ∧ 0 ≤ u.bucket ∧ u.bucket < 3 ∧ 0 ≤ u.key ∧ u.key < 4 := by
  simp [okUp, and_assoc]
theorem okUps_bad (l : List UpM) (k : Nat) (hk : k < l.length) (h : okUp (l.getD k up0) = false) : okUps l = false := by
  simp only [List.getD, List.getElem?_eq_getElem hk, Option.getD_some] at h
  simp only [okUps, Bool.and_eq_false_iff]
  refine .inr ?_
  rw [List.all_eq_false]
  exact ⟨l[k], List.getElem_mem _, by simp [h]⟩
theorem okUps_step (l : List UpM) (k : Nat) (hk : k < l.length) (h : (l.take k).all okUp = true) (h' : okUp (l.getD k up0) = true) : (l.take (k + 1)).all okUp = true := by
  simp only [List.getD, List.getElem?_eq_getElem hk, Option.getD_some] at h'
  rw [List.take_succ_eq_append_getElem hk, List.all_append, h]
  simp [h']

set_option maxHeartbeats 1600000 in
theorem ups_some (b off cap len : Nat) (ups : List UpM) (w : World) (h1 : ups.length = len) (hl : len ≤ 9223372036854775807) (hb : b < w.heap.size)
    (hc : ∀ i, i < len → UpAt w b (off + i * 4) (ups.getD i up0)) :
    Calls Try.prog 177 #[.slice (some ⟨b, off, none⟩) len cap] w fun e w' => e = .returned (.bool (okUps ups)) ∧ Below w.heap.size w w' := by
  have N1 := Lib.hid h1
  have HC := Lib.hid hc
  obtain ⟨R, hR⟩ : ∃ R, R = okUps ups := ⟨_, rfl⟩
  rw [← hR]
  have HR := Lib.hid hR
  clear h1 hc hR
  by_cases h5 : len ≤ 5
  · go_enter Try.func177, Try.ntmps177
    go_wp2
    go_loopw [3] (fun i wr => ∃ k : Nat, k ≤ len ∧ i = .int .i64 k ∧ Hid ((ups.take k).all okUp = true) ∧ Hid (Below w.heap.size w wr)) (fun i _ => len - (intOf i).toNat)
    case atStart => exact ⟨0, Nat.zero_le _, rfl, by simp [Hid], Below.refl _ _⟩
    case round =>
      obtain ⟨k, hk, rfl, hg, hbel⟩ := hrel
      by_cases hlt : k < len
      · obtain ⟨q0, q1, q2, q3⟩ := HC.out k hlt
        have c0 := (hbel.out.cell (p := ⟨b, off + k * 4, none⟩) hb).trans q0
        have c1 := (hbel.out.cell (p := ⟨b, off + k * 4 + 1, none⟩) hb).trans q1
        have c2 := (hbel.out.cell (p := ⟨b, off + k * 4 + 2, none⟩) hb).trans q2
        have c3 := (hbel.out.cell (p := ⟨b, off + k * 4 + 3, none⟩) hb).trans q3
        clear q0 q1 q2 q3
        obtain ⟨u, hu⟩ : ∃ u, ups.getD k up0 = u := ⟨_, rfl⟩
        rw [hu] at c0 c1 c2 c3
        have HU := Lib.hid hu
        clear hu
        have hlw : wr.heap.size < wr.heap.size + 1 := by omega
        by_cases hok : okUp u = true
        · have hs := Lib.hid (okUps_step ups k (by rw [N1.out]; exact hlt) hg.out (by rw [HU.out]; exact hok))
          obtain ⟨p0, p1, p2, p3, p4, p5⟩ := (okUp_iff u).1 hok
          obtain ⟨u0, u1, u2, u3⟩ := u
          simp only at c0 c1 c2 c3 p0 p1 p2 p3 p4 p5
          clear hok
          go_wp2
          go_roundw
          case rel => exact ⟨k + 1, by omega, by go_num, hs.out, hbel.out.alloc hbel.out.size _⟩
          case measure => simp [intOf]; omega
        · have hno : okUp u = false := by simpa using hok
          have HRF := Lib.hid (show R = false by rw [HR.out]; exact okUps_bad ups k (by rw [N1.out]; exact hlt) (by rw [HU.out]; exact hno))
          have hbad : ¬ (1 ≤ u.kind ∧ u.kind ≤ 4 ∧ 0 ≤ u.bucket ∧ u.bucket < 3 ∧ 0 ≤ u.key ∧ u.key < 4) := fun h => hok ((okUp_iff u).2 h)
          clear hok hno HU
          obtain ⟨u0, u1, u2, u3⟩ := u
          simp only at c0 c1 c2 c3 hbad
          have hcase : u0 < 1 ∨ (1 ≤ u0 ∧ 4 < u0) ∨ (1 ≤ u0 ∧ u0 ≤ 4 ∧ u1 < 0) ∨ (1 ≤ u0 ∧ u0 ≤ 4 ∧ 0 ≤ u1 ∧ 3 ≤ u1) ∨ (1 ≤ u0 ∧ u0 ≤ 4 ∧ 0 ≤ u1 ∧ u1 < 3 ∧ u2 < 0) ∨ (1 ≤ u0 ∧ u0 ≤ 4 ∧ 0 ≤ u1 ∧ u1 < 3 ∧ 0 ≤ u2 ∧ 4 ≤ u2) := by omega
          clear hbad
          rcases hcase with p | ⟨p, p'⟩ | ⟨p, p', p2⟩ | ⟨p, p', p2, p3⟩ | ⟨p, p', p2, p3, p4⟩ | ⟨p, p', p2, p3, p4, p5⟩
          all_goals
            go_wp2
            go_ret
            exact ⟨ret_bool HRF.out.symm, hbel.out.alloc hbel.out.size _⟩
      · have HRT := Lib.hid (show R = true by
          have := hg.out
          rw [List.take_of_length_le (by rw [N1.out]; omega)] at this
          rw [HR.out]
          simp only [okUps, this, Bool.and_true, decide_eq_true_eq, N1.out]
          exact h5)
        go_wp2
        go_ret
        exact ⟨ret_bool HRT.out.symm, hbel.out⟩
  · have HRF := Lib.hid (show R = false by
      rw [HR.out]
      simp only [okUps, Bool.and_eq_false_iff, decide_eq_false_iff_not, N1.out]
      exact .inl h5)
    go_enter Try.func177, Try.ntmps177
    go_wp2
    go_ret
    exact ⟨ret_bool HRF.out.symm, Below.refl _ _⟩
theorem ups_nil (a : Option Addr) (cap : Nat) (w : World) :
    Calls Try.prog 177 #[.slice a 0 cap] w fun e w' => e = .returned (.bool (okUps [])) ∧ Below w.heap.size w w' := by
  go_enter Try.func177, Try.ntmps177
  go_wp2
  go_loop [3] (fun i => i = .int .i64 0) (fun _ => 0)
  case atStart => rfl
  case round =>
    obtain rfl := hrel
    go_wp2
    go_ret
    exact ⟨rfl, Below.refl _ _⟩
theorem ups_any (v : Value) (ups : List UpM) (w : World) (h : Ups w v ups) :
    Calls Try.prog 177 #[v] w fun e w' => e = .returned (.bool (okUps ups)) ∧ Below w.heap.size w w' := by
  have hm := ups_max h
  rcases h with ⟨a, cap, rfl, rfl⟩ | ⟨b, off, cap, rfl, h1, h2, h3, h4⟩
  · exact ups_nil _ _ w
  · exact ups_some b off cap _ ups w rfl hm h1 h4
end Go.Proofs.Ytjjgigoehgabkaa
