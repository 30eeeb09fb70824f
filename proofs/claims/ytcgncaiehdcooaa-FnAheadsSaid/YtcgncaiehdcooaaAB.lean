/- Acts: eqUp, eqUpS of what is the same; szAct. -/
import Derived.Test.YtcgncaiehdcooaaAA
import Derived.Deep.RegionWith
namespace Go.Proofs.Ytcgncaiehdcooaa
open Go.RowKit
set_option linter.unusedVariables false

set_option maxHeartbeats 400000 in
theorem eqUp_same (k b y v : Int) (w : World) :
    Calls Try.prog 118 #[.agg #[.int .i64 k, .int .i64 b, .int .i64 y, .int .i64 v], .agg #[.int .i64 k, .int .i64 b, .int .i64 y, .int .i64 v]] w fun e w' => e = .returned (.bool true) ∧ Below w.heap.size w w' := by
  go_enter Try.func118, Try.ntmps118
  go_wp2
  go_ret
  exact ⟨rfl, ((Below.refl _ _).alloc (Nat.le_refl _) _).alloc (by simp) _⟩

set_option maxHeartbeats 800000 in
theorem eqUpS_some (b off cap b' off' cap' n : Nat) (us : List UpM) (w : World) (hl : n ≤ 9223372036854775807) (hb : b < w.heap.size) (hb' : b' < w.heap.size)
    (hc : ∀ i, i < n → UpAt w b (off + i * 4) (us.getD i up0)) (hc' : ∀ i, i < n → UpAt w b' (off' + i * 4) (us.getD i up0)) :
    Calls Try.prog 88 #[.slice (some ⟨b, off, none⟩) n cap, .slice (some ⟨b', off', none⟩) n cap'] w fun e w' => e = .returned (.bool true) ∧ Below w.heap.size w w' := by
  have HC := Lib.hid hc
  have HC' := Lib.hid hc'
  clear hc hc'
  go_enter Try.func88, Try.ntmps88
  go_wp2
  go_loopw [5] (fun i wr => ∃ k : Nat, k ≤ n ∧ i = .int .i64 k ∧ Hid (Below w.heap.size w wr)) (fun i _ => n - (intOf i).toNat)
  case atStart => exact ⟨0, Nat.zero_le _, rfl, Below.refl _ _⟩
  case round =>
    obtain ⟨k, hk, rfl, hbel⟩ := hrel
    by_cases hlt : k < n
    · obtain ⟨q0, q1, q2, q3⟩ := HC.out k hlt
      have c0 := (hbel.out.cell (p := ⟨b, off + k * 4, none⟩) hb).trans q0
      have c1 := (hbel.out.cell (p := ⟨b, off + k * 4 + 1, none⟩) hb).trans q1
      have c2 := (hbel.out.cell (p := ⟨b, off + k * 4 + 2, none⟩) hb).trans q2
      have c3 := (hbel.out.cell (p := ⟨b, off + k * 4 + 3, none⟩) hb).trans q3
      clear q0 q1 q2 q3
      obtain ⟨q0, q1, q2, q3⟩ := HC'.out k hlt
      have d0 := (hbel.out.cell (p := ⟨b', off' + k * 4, none⟩) hb').trans q0
      have d1 := (hbel.out.cell (p := ⟨b', off' + k * 4 + 1, none⟩) hb').trans q1
      have d2 := (hbel.out.cell (p := ⟨b', off' + k * 4 + 2, none⟩) hb').trans q2
      have d3 := (hbel.out.cell (p := ⟨b', off' + k * 4 + 3, none⟩) hb').trans q3
      clear q0 q1 q2 q3
      generalize us.getD k up0 = u at *
      have i0 : (0 : Int) ≤ k := by omega
      have i1 : (k : Int) < n := by omega
      go_wp2_with fail
      go_region_with (go_at_call 118; refine (eqUp_same _ _ _ _ _).mono ?_; rintro e w1 ⟨rfl, b1⟩; have HB1 := Lib.hid b1; clear b1)
      all_goals go_wp2
      all_goals go_roundw
      case rel => exact ⟨k + 1, by omega, by go_num, hbel.out.drew.trans (HB1.out.mono hbel.out.size)⟩
      case measure => simp [intOf]; omega
      case rel => exact ⟨k + 1, by omega, by go_num, hbel.out.drew.trans (HB1.out.mono hbel.out.size)⟩
      case measure => simp [intOf]; omega
    · go_wp2
      go_ret
      exact ⟨rfl, hbel.out⟩

theorem eqUpS_nil (a a' : Option Addr) (c c' : Nat) (w : World) : Calls Try.prog 88 #[.slice a 0 c, .slice a' 0 c'] w fun e w' => e = .returned (.bool true) ∧ Below w.heap.size w w' := by
  go_enter Try.func88, Try.ntmps88
  go_wp2
  go_loop [5] (fun i => i = .int .i64 0) (fun _ => 0)
  case atStart => rfl
  case round =>
    obtain rfl := hrel
    go_wp2
    go_ret
    exact ⟨rfl, Below.refl _ _⟩
theorem eqUpS_same (v v' : Value) (us : List UpM) (w : World) (h : Ups w v us) (h' : Ups w v' us) :
    Calls Try.prog 88 #[v, v'] w fun e w' => e = .returned (.bool true) ∧ Below w.heap.size w w' := by
  rcases h with ⟨a, cap, rfl, rfl⟩ | ⟨b, off, cap, rfl, h1, h2, h3, h4⟩
  · rcases h' with ⟨a', cap', rfl, _⟩ | ⟨b', off', cap', rfl, h1', h2', h3', h4'⟩
    · exact eqUpS_nil _ _ _ _ w
    · exact eqUpS_nil _ _ _ _ w
  · rcases h' with ⟨a', cap', rfl, rfl⟩ | ⟨b', off', cap', rfl, h1', h2', h3', h4'⟩
    · exact eqUpS_nil _ _ _ _ w
    · exact eqUpS_some _ _ _ _ _ _ _ us w (by unfold maxLen at h3; omega) h1 h1' h4 h4'

set_option maxHeartbeats 800000 in
theorem eqAct_same (v v' : Value) (a : ActM) (w : World) (h : ActIs w v a) (h' : ActIs w v' a) :
    Calls Try.prog 43 #[v, v'] w fun e w' => e = .returned (.bool true) ∧ Below w.heap.size w w' := by
  obtain ⟨vd, vs, rfl, hd, hs⟩ := h
  obtain ⟨vd', vs', rfl, hd', hs'⟩ := h'
  have HD := Lib.hid hd
  have HD' := Lib.hid hd'
  have HS := Lib.hid hs
  have HS' := Lib.hid hs'
  clear hd hd' hs hs'
  have ee : eqB a.dep a.dep = true := by simp [eqB]
  have EE := Lib.hid ee
  clear ee
  obtain ⟨r, n, dep, actor, kind, to, bucket, mask, gr, gn, ups⟩ := a
  have B0 := Lib.hid (((Below.refl w.heap.size w).alloc (Nat.le_refl _) (.cells #[.int .i64 r, .int .i64 n, vd, .int .i64 actor, .int .i64 kind, .int .i64 to, .int .i64 bucket, .int .i64 mask, .int .i64 gr, .int .i64 gn, vs] 26)).alloc (by simp) (.cells #[.int .i64 r, .int .i64 n, vd', .int .i64 actor, .int .i64 kind, .int .i64 to, .int .i64 bucket, .int .i64 mask, .int .i64 gr, .int .i64 gn, vs'] 26))
  go_enter Try.func43, Try.ntmps43
  go_wp2_with fail
  refine (eqIntS_any _ _ dep dep _ (HD.out.below (B := 0) B0.out) (HD'.out.below (B := 0) B0.out)).mono ?_
  rintro e w1 ⟨rfl, q, rfl⟩
  rw [EE.out]
  have B1 := Lib.hid (below_drewN B0.out q)
  go_wp2_with fail
  refine (eqUpS_same _ _ ups _ (HS.out.below B1.out) (HS'.out.below B1.out)).mono ?_
  rintro e w2 ⟨rfl, b2⟩
  have B2 := Lib.hid (B1.out.trans (b2.mono B1.out.size))
  clear b2
  go_wp2
  go_ret
  exact ⟨rfl, B2.out⟩

/-! szAct: -1 where the lists are longer than left -/
def szM (d u : Nat) (left : Int) : Int := if left - d < 0 then -1 else if left - d - u < 0 then -1 else left - d - u
theorem szIntS_any (a : Option Addr) (n cap : Nat) (left : Int) (w : World) (h0 : 0 ≤ left) (h1 : left ≤ 1048576) (hn : n ≤ 9223372036854775807) :
    Calls Try.prog 76 #[.slice a n cap, .int .i64 left] w fun e w' => e = .returned (.int .i64 (if left - n < 0 then -1 else left - n)) ∧ w' = w := by
  by_cases h : left - n < 0
  · rw [if_pos h]
    go_enter Try.func76, Try.ntmps76
    go_wp2
    go_ret
    exact ⟨rfl, rfl⟩
  · rw [if_neg h]
    go_enter Try.func76, Try.ntmps76
    go_wp2
    go_ret
    exact ⟨rfl, rfl⟩
theorem szUpS_any (a : Option Addr) (n cap : Nat) (left : Int) (w : World) (h0 : 0 ≤ left) (h1 : left ≤ 1048576) (hn : n ≤ 9223372036854775807) :
    Calls Try.prog 77 #[.slice a n cap, .int .i64 left] w fun e w' => e = .returned (.int .i64 (if left - n < 0 then -1 else left - n)) ∧ w' = w := by
  by_cases h : left - n < 0
  · rw [if_pos h]
    go_enter Try.func77, Try.ntmps77
    go_wp2
    go_ret
    exact ⟨rfl, rfl⟩
  · rw [if_neg h]
    go_enter Try.func77, Try.ntmps77
    go_wp2
    go_ret
    exact ⟨rfl, rfl⟩
end Go.Proofs.Ytcgncaiehdcooaa
