/- The program's upsFit, total, commonOf, actOf, knows. -/
import Derived.Test.YtcgncaiehdcooaaBA
import Derived.Test.YtcgncaiehdcooaaAM
namespace Go.Proofs.Ytcgncaiehdcooaa
open Go.RowKit
set_option linter.unusedVariables false

set_option maxHeartbeats 1600000 in
theorem upsFit_some (b off cap len : Nat) (ups : List UpM) (w : World) (h1 : ups.length = len) (hl : len ≤ 9223372036854775807) (hb : b < w.heap.size)
    (hc : ∀ i, i < len → UpAt w b (off + i * 4) (ups.getD i up0)) :
    Calls Try.prog 163 #[.slice (some ⟨b, off, none⟩) len cap] w fun e w' => e = .returned (.bool (okUps ups)) ∧ Below w.heap.size w w' := by
  have N1 := Lib.hid h1
  have HC := Lib.hid hc
  obtain ⟨R, hR⟩ : ∃ R, R = okUps ups := ⟨_, rfl⟩
  rw [← hR]
  have HR := Lib.hid hR
  clear h1 hc hR
  go_enter Try.func163, Try.ntmps163
  go_wp2
  go_loopw [7] (fun i wr => ∃ k : Nat, k ≤ len ∧ i = .int .i64 k ∧ Hid ((ups.take k).all okUp = true) ∧ Hid (Below w.heap.size w wr)) (fun i _ => len - (intOf i).toNat)
  case atStart => exact ⟨0, Nat.zero_le _, rfl, by simp [Hid], Below.refl _ _⟩
  case round =>
    obtain ⟨k, hk, rfl, hg, hbel⟩ := hrel
    by_cases hlt : k < len
    · obtain ⟨q0, q1, q2, q3⟩ := HC.out k hlt
      have c0 := (hbel.out.cell (p := ⟨b, off + k * 4, none⟩) hb).trans q0
      have c1 := (hbel.out.cell (p := ⟨b, off + k * 4 + 1, none⟩) hb).trans q1
      have c2 := (hbel.out.cell (p := ⟨b, off + k * 4 + 2, none⟩) hb).trans q2
      have c3 := (hbel.out.cell (p := ⟨b, off + k * 4 + 3, none⟩) hb).trans q3
      clear q0 q1 q2 q3
      obtain ⟨u, hu⟩ : ∃ u, ups.getD k up0 = u := ⟨_, rfl⟩
      rw [hu] at c0 c1 c2 c3
      have HU := Lib.hid hu
      clear hu
      have hlw : wr.heap.size < wr.heap.size + 1 := by omega
      cases hok : okUp u
      · have HRF := Lib.hid (show R = false by rw [HR.out]; exact okUps_bad ups k (by rw [N1.out]; exact hlt) (by rw [HU.out]; exact hok))
        obtain ⟨u0, u1, u2, u3⟩ := u
        simp only at c0 c1 c2 c3
        have HOK := Lib.hid hok
        clear hok
        have BA := Lib.hid (hbel.out.alloc hbel.out.size (.cells #[.int .i64 u0, .int .i64 u1, .int .i64 u2, .int .i64 u3] 37))
        go_wp2_with fail
        refine (upFits_any _ _ _ _ _).mono ?_
        rintro e w1 ⟨rfl, b1⟩
        rw [HOK.out]
        have B1 := Lib.hid (BA.out.trans (b1.mono BA.out.size))
        clear b1
        go_wp2_with fail
        go_ret
        exact ⟨ret_bool HRF.out.symm, B1.out⟩
      · have hs := Lib.hid (okUps_step ups k (by rw [N1.out]; exact hlt) hg.out (by rw [HU.out]; exact hok))
        obtain ⟨u0, u1, u2, u3⟩ := u
        simp only at c0 c1 c2 c3
        have HOK := Lib.hid hok
        clear hok
        have BA := Lib.hid (hbel.out.alloc hbel.out.size (.cells #[.int .i64 u0, .int .i64 u1, .int .i64 u2, .int .i64 u3] 37))
        go_wp2_with fail
        refine (upFits_any _ _ _ _ _).mono ?_
        rintro e w1 ⟨rfl, b1⟩
        rw [HOK.out]
        have B1 := Lib.hid (BA.out.trans (b1.mono BA.out.size))
        clear b1
        go_wp2_with fail
        go_roundw
        case rel => exact ⟨k + 1, by omega, by go_num, hs.out, B1.out⟩
        case measure => simp [intOf]; omega
    · have hall := Lib.hid (show ups.all okUp = true by
        have := hg.out
        rwa [List.take_of_length_le (by rw [N1.out]; omega)] at this)
      by_cases h5 : len ≤ 5
      · have HRT := Lib.hid (show R = true by
          rw [HR.out]
          simp only [okUps, hall.out, Bool.and_true, decide_eq_true_eq, N1.out]
          exact h5)
        go_wp2
        go_ret
        exact ⟨ret_bool (by rw [HRT.out]; simp; omega), hbel.out⟩
      · have HRF := Lib.hid (show R = false by
          rw [HR.out]
          simp only [okUps, Bool.and_eq_false_iff, decide_eq_false_iff_not, N1.out]
          exact .inl h5)
        go_wp2
        go_ret
        exact ⟨ret_bool (by rw [HRF.out]; simp; omega), hbel.out⟩
theorem upsFit_nil (a : Option Addr) (cap : Nat) (w : World) :
    Calls Try.prog 163 #[.slice a 0 cap] w fun e w' => e = .returned (.bool (okUps [])) ∧ Below w.heap.size w w' := by
  go_enter Try.func163, Try.ntmps163
  go_wp2
  go_loop [7] (fun i => i = .int .i64 0) (fun _ => 0)
  case atStart => rfl
  case round =>
    obtain rfl := hrel
    go_wp2
    go_ret
    exact ⟨rfl, Below.refl _ _⟩
theorem upsFit_any (v : Value) (ups : List UpM) (w : World) (h : Ups w v ups) :
    Calls Try.prog 163 #[v] w fun e w' => e = .returned (.bool (okUps ups)) ∧ Below w.heap.size w w' := by
  have hm := ups_max h
  rcases h with ⟨a, cap, rfl, rfl⟩ | ⟨b, off, cap, rfl, h1, h2, h3, h4⟩
  · exact upsFit_nil _ _ w
  · exact upsFit_some b off cap _ ups w rfl hm h1 h4

set_option maxHeartbeats 400000 in
theorem total_some (b off cap n : Nat) (xs : List Int) (w : World) (hn : xs.length = n) (hl : n ≤ 9223372036854775807)
    (hc : ∀ i, i < n → w.cell? ⟨b, off + i, none⟩ = some (.int .i64 (xs.getD i 0))) :
    Calls Try.prog 64 #[.slice (some ⟨b, off, none⟩) n cap] w fun e w' => e = .returned (.int .i64 (sumW xs)) ∧ w' = w := by
  have HN := Lib.hid hn
  have HC := Lib.hid hc
  clear hn hc
  go_enter Try.func64, Try.ntmps64
  go_wp2
  go_loop [3, 8] (fun t i => ∃ (k : Nat) (s : Int), k ≤ n ∧ i = .int .i64 k ∧ t = .int .i64 s ∧ Hid (s = sumW (xs.take k))) (fun _ i => n - (intOf i).toNat)
  case atStart => exact ⟨0, 0, Nat.zero_le _, rfl, rfl, by simp [Hid, sumW]⟩
  case round =>
    obtain ⟨k, s, hk, rfl, rfl, hs⟩ := hrel
    by_cases hlt : k < n
    · have hc1 := HC.out k hlt
      have hst := sumW_step xs k (by rw [HN.out]; exact hlt)
      generalize xs.getD k 0 = x at *
      have HS := Lib.hid hst
      clear hst
      go_wp2
      go_round
      case rel => exact ⟨k + 1, _, by omega, by go_num, rfl, by show _ = _; rw [HS.out, hs.out]⟩
      case measure => simp [intOf]; omega
    · have : k = n := by omega
      subst this
      go_wp2
      go_ret
      exact ⟨ret_int (by rw [hs.out, List.take_of_length_le (by rw [HN.out]; omega)]), rfl⟩
theorem total_nil (a : Option Addr) (cap : Nat) (w : World) :
    Calls Try.prog 64 #[.slice a 0 cap] w fun e w' => e = .returned (.int .i64 (sumW [])) ∧ w' = w := by
  go_enter Try.func64, Try.ntmps64
  go_wp2
  go_loop [3, 8] (fun t i => t = .int .i64 0 ∧ i = .int .i64 0) (fun _ _ => 0)
  case atStart => exact ⟨rfl, rfl⟩
  case round =>
    obtain ⟨rfl, rfl⟩ := hrel
    go_wp2
    go_ret
    exact ⟨rfl, rfl⟩
theorem total_any (v : Value) (xs : List Int) (w : World) (h : Ints w v xs) :
    Calls Try.prog 64 #[v] w fun e w' => e = .returned (.int .i64 (sumW xs)) ∧ w' = w := by
  rcases h with ⟨a, cap, rfl, rfl⟩ | ⟨b, off, cap, rfl, h1, h2, h3, h4⟩
  · exact total_nil _ _ w
  · exact total_some b off cap _ xs w rfl (by unfold maxLen at h3; omega) h4

/-- the cells of an act -/
def actV (r n : Int) (vd : Value) (actor kind to bucket mask gr gn : Int) (vs : Value) : Value := .agg #[.int .i64 r, .int .i64 n, vd, .int .i64 actor, .int .i64 kind, .int .i64 to, .int .i64 bucket, .int .i64 mask, .int .i64 gr, .int .i64 gn, vs]
set_option maxHeartbeats 400000 in
theorem commonOf_any (r n actor kind to bucket mask gr gn : Int) (a c : Nat) (x : Option Addr) (vs : Value) (w : World) :
    Calls Try.prog 54 #[.agg #[.int .i64 r, .int .i64 n, .slice x a c, .int .i64 actor, .int .i64 kind, .int .i64 to, .int .i64 bucket, .int .i64 mask, .int .i64 gr, .int .i64 gn, vs]] w fun e w' =>
      e = .returned (.agg #[.int .i64 r, .int .i64 n, .slice x a c, .int .i64 actor]) ∧ Below w.heap.size w w' := by
  go_enter Try.func54, Try.ntmps54
  go_wp2
  refine bodyPost_ret (v := .agg #[.int .i64 r, .int .i64 n, .slice x a c, .int .i64 actor]) (by simp [results, Try.results54, go_sem]) rfl ⟨rfl, ?_⟩
  exact ((Below.refl _ _).alloc (Nat.le_refl _) _).alloc (by simp) _

set_option maxHeartbeats 400000 in
theorem actOf_any (r n actor kind : Int) (a c : Nat) (x : Option Addr) (w : World) :
    Calls Try.prog 155 #[.agg #[.int .i64 r, .int .i64 n, .slice x a c, .int .i64 actor], .int .i64 kind] w fun e w' =>
      e = .returned (.agg #[.int .i64 r, .int .i64 n, .slice x a c, .int .i64 actor, .int .i64 kind, .int .i64 0, .int .i64 0, .int .i64 0, .int .i64 0, .int .i64 0, .slice none 0 0]) ∧ Below w.heap.size w w' := by
  go_enter Try.func155, Try.ntmps155
  go_wp2
  refine bodyPost_ret (v := .agg #[.int .i64 r, .int .i64 n, .slice x a c, .int .i64 actor, .int .i64 kind, .int .i64 0, .int .i64 0, .int .i64 0, .int .i64 0, .int .i64 0, .slice none 0 0]) (by simp [results, Try.results155, go_sem]) rfl ⟨rfl, ?_⟩
  exact ((Below.refl _ _).alloc (Nat.le_refl _) _).alloc (by simp) _
end Go.Proofs.Ytcgncaiehdcooaa
