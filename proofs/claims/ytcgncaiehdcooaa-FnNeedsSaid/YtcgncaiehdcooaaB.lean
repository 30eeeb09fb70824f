/- Base: eqIntS, spec.ClockOk. -/
import Derived.Test.YtcgncaiehdcooaaA
import Derived.BigQuiet
import Derived.Deep.QuietTactic
namespace Go.Proofs.Ytcgncaiehdcooaa
open Go.RowKit
set_option linter.unusedVariables false

theorem ret_bool {a b : Bool} (h : a = b) : Ending.returned (.bool a) = .returned (.bool b) := by rw [h]
theorem ret_int {k : IntKind} {a b : Int} (h : a = b) : Ending.returned (.int k a) = .returned (.int k b) := by rw [h]

def good (x : Int) : Bool := decide (0 ≤ x) && decide (x ≤ 100000)
def okB (xs : List Int) : Bool := decide (1 ≤ xs.length) && decide (xs.length ≤ 4) && xs.all good

theorem good_iff (x : Int) : good x = true ↔ 0 ≤ x ∧ x ≤ 100000 := by simp [good]
theorem okB_iff (xs : List Int) : okB xs = true ↔ 1 ≤ xs.length ∧ xs.length ≤ 4 ∧ ∀ x ∈ xs, 0 ≤ x ∧ x ≤ 100000 := by
  simp [okB, good, and_assoc]
theorem good_step (xs : List Int) (k : Nat) (hk : k < xs.length) (h : (xs.take k).all good = true) (h0 : 0 ≤ xs.getD k 0) (h1 : xs.getD k 0 ≤ 100000) : (xs.take (k + 1)).all good = true := by
  rw [List.take_succ_eq_append_getElem hk, List.all_append, h]
  simp [List.getD, hk] at h0 h1
  simp [good, h0, h1]
theorem okB_bad (xs : List Int) (k : Nat) (hk : k < xs.length) (h : xs.getD k 0 < 0 ∨ 100000 < xs.getD k 0) : okB xs = false := by
  cases ho : okB xs with
  | false => rfl
  | true =>
    have := (okB_iff xs).1 ho
    have hm := this.2.2 xs[k] (List.getElem_mem _)
    simp [List.getD, hk] at h
    omega
theorem okB_len (xs : List Int) (h : xs.length < 1 ∨ 4 < xs.length) : okB xs = false := by
  cases ho : okB xs with
  | false => rfl
  | true => have := (okB_iff xs).1 ho; omega
theorem okB_all (xs : List Int) (k : Nat) (hk : k = xs.length) (h1 : 1 ≤ k) (h4 : k ≤ 4) (h : (xs.take k).all good = true) : okB xs = true := by
  subst hk
  rw [List.take_length] at h
  simp [okB, h]; omega

set_option maxHeartbeats 400000 in
theorem specOk_some (b off cap n : Nat) (xs : List Int) (w : World) (hn : xs.length = n) (hl : n ≤ 9223372036854775807)
    (hc : ∀ i, i < n → w.cell? ⟨b, off + i, none⟩ = some (.int .i64 (xs.getD i 0))) :
    Calls Try.prog 56 #[.slice (some ⟨b, off, none⟩) n cap] w fun e w' =>
      e = .returned (.bool (okB xs)) ∧ w' = w := by
  have HN := Lib.hid hn
  clear hn
  by_cases h1 : 1 ≤ n
  · by_cases h4 : n ≤ 4
    · go_enter Try.func56, Try.ntmps56
      go_wp2
      go_loop [3] (fun i => ∃ k : Nat, k ≤ n ∧ i = .int .i64 k ∧ Hid ((xs.take k).all good = true)) (fun i => n - (intOf i).toNat)
      case atStart => exact ⟨0, Nat.zero_le _, rfl, by simp [Hid]⟩
      case round =>
        obtain ⟨k, hk, rfl, hg⟩ := hrel
        by_cases hlt : k < n
        · have hc1 := hc k hlt
          clear hc
          obtain ⟨x, hx⟩ : ∃ x, xs.getD k 0 = x := ⟨_, rfl⟩
          rw [hx] at hc1
          have HX := Lib.hid hx
          clear hx
          by_cases hx0 : 0 ≤ x
          · by_cases hx1 : x ≤ 100000
            · go_wp2
              go_round
              case rel => exact ⟨k + 1, by omega, by go_num, good_step xs k (by rw [HN.out]; omega) hg.out (by rw [HX.out]; exact hx0) (by rw [HX.out]; exact hx1)⟩
              case measure => simp [intOf]; omega
            · go_wp2
              go_ret
              exact ⟨ret_bool (okB_bad xs k (by rw [HN.out]; omega) (.inr (by rw [HX.out]; omega))).symm, rfl⟩
          · go_wp2
            go_ret
            exact ⟨ret_bool (okB_bad xs k (by rw [HN.out]; omega) (.inl (by rw [HX.out]; omega))).symm, rfl⟩
        · go_wp2
          go_ret
          exact ⟨ret_bool (okB_all xs k (by rw [HN.out]; omega) (by omega) (by omega) hg.out).symm, rfl⟩
    · go_enter Try.func56, Try.ntmps56
      go_wp2
      go_ret
      exact ⟨ret_bool (okB_len xs (by rw [HN.out]; omega)).symm, rfl⟩
  · go_enter Try.func56, Try.ntmps56
    go_wp2
    go_ret
    exact ⟨ret_bool (okB_len xs (by rw [HN.out]; omega)).symm, rfl⟩

theorem specOk_nil (a : Option Addr) (cap : Nat) (w : World) :
    Calls Try.prog 56 #[.slice a 0 cap] w fun e w' => e = .returned (.bool (okB [])) ∧ w' = w := by
  go_enter Try.func56, Try.ntmps56
  go_wp2
  go_ret
  exact ⟨rfl, rfl⟩

theorem specOk_any (v : Value) (xs : List Int) (w : World) (h : Ints w v xs) :
    Calls Try.prog 56 #[v] w fun e w' => e = .returned (.bool (okB xs)) ∧ w' = w := by
  rcases h with ⟨a, cap, rfl, rfl⟩ | ⟨b, off, cap, rfl, h1, h2, h3, h4⟩
  · exact specOk_nil _ _ w
  · exact specOk_some b off cap _ xs w rfl (by unfold maxLen at h3; omega) h4

/-! ### eqIntS -/
def eqB (xs ys : List Int) : Bool := decide (xs = ys)
theorem eqB_len (xs ys : List Int) (h : xs.length ≠ ys.length) : eqB xs ys = false := by
  simp only [eqB, decide_eq_false_iff_not]; intro e; exact h (by rw [e])
theorem eqB_bad (xs ys : List Int) (k : Nat) (h : ¬ xs.getD k 0 = ys.getD k 0) : eqB xs ys = false := by
  simp only [eqB, decide_eq_false_iff_not]; intro e; exact h (by rw [e])
theorem take_eq_step (xs ys : List Int) (k : Nat) (hx : k < xs.length) (hy : k < ys.length) (h : xs.take k = ys.take k) (e : xs.getD k 0 = ys.getD k 0) : xs.take (k + 1) = ys.take (k + 1) := by
  rw [List.take_succ_eq_append_getElem hx, List.take_succ_eq_append_getElem hy, h]
  simp [List.getD, hx, hy] at e
  rw [e]
theorem eqB_all (xs ys : List Int) (k : Nat) (hx : k = xs.length) (hy : k = ys.length) (h : xs.take k = ys.take k) : eqB xs ys = true := by
  rw [hx, List.take_length, ← hx, hy, List.take_length] at h
  simp [eqB, h]

set_option maxHeartbeats 400000 in
theorem eqIntS_some (b off cap b' off' cap' n m : Nat) (xs ys : List Int) (w : World) (hn : xs.length = n) (hm : ys.length = m) (hl : n ≤ 9223372036854775807) (hl' : m ≤ 9223372036854775807)
    (hc : ∀ i, i < n → w.cell? ⟨b, off + i, none⟩ = some (.int .i64 (xs.getD i 0))) (hc' : ∀ i, i < m → w.cell? ⟨b', off' + i, none⟩ = some (.int .i64 (ys.getD i 0))) :
    Calls Try.prog 28 #[.slice (some ⟨b, off, none⟩) n cap, .slice (some ⟨b', off', none⟩) m cap'] w fun e w' =>
      e = .returned (.bool (eqB xs ys)) ∧ ∃ q, w' = w.drewN q := by
  have HN := Lib.hid hn
  have HM := Lib.hid hm
  clear hn hm
  by_cases h1 : n = m
  · subst h1
    go_enter Try.func28, Try.ntmps28
    go_wp2
    go_loopw [5] (fun i wr => ∃ k q : Nat, k ≤ n ∧ i = .int .i64 k ∧ Hid (xs.take k = ys.take k) ∧ wr = w.drewN q) (fun i _ => n - (intOf i).toNat)
    case atStart => exact ⟨0, 0, Nat.zero_le _, rfl, by simp [Hid], rfl⟩
    case round =>
      obtain ⟨k, q, hk, rfl, hg, rfl⟩ := hrel
      by_cases hlt : k < n
      · have hc1 := hc k hlt
        have hc2 := hc' k hlt
        clear hc hc'
        obtain ⟨x, hx⟩ : ∃ x, xs.getD k 0 = x := ⟨_, rfl⟩
        obtain ⟨y, hy⟩ : ∃ y, ys.getD k 0 = y := ⟨_, rfl⟩
        rw [hx] at hc1
        rw [hy] at hc2
        have HX := Lib.hid hx
        have HY := Lib.hid hy
        clear hx hy
        have i0 : (0 : Int) ≤ k := by omega
        have i1 : (k : Int) < n := by omega
        by_cases hx0 : x = y
        · subst hx0
          go_wp2
          go_quiet (fail)
          go_wp2
          go_roundw
          case rel => exact ⟨k + 1, _, by omega, by go_num, take_eq_step xs ys k (by rw [HN.out]; omega) (by rw [HM.out]; omega) hg.out (by rw [HX.out, HY.out]), rfl⟩
          case measure => simp [intOf]; omega
        · have e1 : (x == y) = false := by simpa using hx0
          have e2 : (x != y) = true := by simpa using hx0
          go_wp2
          go_quiet (fail)
          go_wp2
          go_ret
          exact ⟨ret_bool (eqB_bad xs ys k (by rw [HX.out, HY.out]; exact hx0)).symm, _, World.drewN_drewN ..⟩
      · go_wp2
        go_ret
        exact ⟨ret_bool (eqB_all xs ys k (by rw [HN.out]; omega) (by rw [HM.out]; omega) hg.out).symm, q, rfl⟩
  · have hb : ((n : Int) == (m : Int)) = false := by simp; omega
    have hb' : ((n : Int) != (m : Int)) = true := by simp; omega
    go_enter Try.func28, Try.ntmps28
    go_wp2
    go_ret
    exact ⟨ret_bool (eqB_len xs ys (by rw [HN.out, HM.out]; exact h1)).symm, 0, rfl⟩

theorem eqIntS_nil_nil (a a' : Option Addr) (c c' : Nat) (w : World) : Calls Try.prog 28 #[.slice a 0 c, .slice a' 0 c'] w fun e w' => e = .returned (.bool (eqB [] [])) ∧ ∃ q, w' = w.drewN q := by
  go_enter Try.func28, Try.ntmps28
  go_wp2
  go_loop [5] (fun i => i = .int .i64 0) (fun _ => 0)
  case atStart => rfl
  case round =>
    obtain rfl := hrel
    go_wp2
    go_ret
    exact ⟨rfl, 0, rfl⟩
theorem eqIntS_nil_some (a : Option Addr) (c b off cap n : Nat) (xs : List Int) (w : World) (hn : xs.length = n) (hl : n ≤ 9223372036854775807) :
    Calls Try.prog 28 #[.slice a 0 c, .slice (some ⟨b, off, none⟩) n cap] w fun e w' => e = .returned (.bool (eqB [] xs)) ∧ ∃ q, w' = w.drewN q := by
  by_cases h : n = 0
  · subst h
    obtain rfl := List.eq_nil_of_length_eq_zero hn
    clear hn
    go_enter Try.func28, Try.ntmps28
    go_wp2
    go_loop [5] (fun i => i = .int .i64 0) (fun _ => 0)
    case atStart => rfl
    case round =>
      obtain rfl := hrel
      go_wp2
      go_ret
      exact ⟨rfl, 0, rfl⟩
  · have HN := Lib.hid hn
    clear hn
    have hb : ((0 : Int) == (n : Int)) = false := by simp; omega
    have hb' : ((0 : Int) != (n : Int)) = true := by simp; omega
    go_enter Try.func28, Try.ntmps28
    go_wp2
    go_ret
    exact ⟨ret_bool (eqB_len [] xs (by rw [HN.out]; simp; omega)).symm, 0, rfl⟩
theorem eqIntS_some_nil (a : Option Addr) (c b off cap n : Nat) (xs : List Int) (w : World) (hn : xs.length = n) (hl : n ≤ 9223372036854775807) :
    Calls Try.prog 28 #[.slice (some ⟨b, off, none⟩) n cap, .slice a 0 c] w fun e w' => e = .returned (.bool (eqB xs [])) ∧ ∃ q, w' = w.drewN q := by
  by_cases h : n = 0
  · subst h
    obtain rfl := List.eq_nil_of_length_eq_zero hn
    clear hn
    go_enter Try.func28, Try.ntmps28
    go_wp2
    go_loop [5] (fun i => i = .int .i64 0) (fun _ => 0)
    case atStart => rfl
    case round =>
      obtain rfl := hrel
      go_wp2
      go_ret
      exact ⟨rfl, 0, rfl⟩
  · have HN := Lib.hid hn
    clear hn
    have hb : ((n : Int) == 0) = false := by simp; omega
    have hb' : ((n : Int) != 0) = true := by simp; omega
    go_enter Try.func28, Try.ntmps28
    go_wp2
    go_ret
    exact ⟨ret_bool (eqB_len xs [] (by rw [HN.out]; simp; omega)).symm, 0, rfl⟩

theorem eqIntS_any (v v' : Value) (xs ys : List Int) (w : World) (h : Ints w v xs) (h' : Ints w v' ys) :
    Calls Try.prog 28 #[v, v'] w fun e w' => e = .returned (.bool (eqB xs ys)) ∧ ∃ q, w' = w.drewN q := by
  rcases h with ⟨a, cap, rfl, rfl⟩ | ⟨b, off, cap, rfl, h1, h2, h3, h4⟩ <;> rcases h' with ⟨a', cap', rfl, rfl⟩ | ⟨b', off', cap', rfl, h1', h2', h3', h4'⟩
  · exact eqIntS_nil_nil _ _ _ _ w
  · exact eqIntS_nil_some _ _ _ _ _ _ _ w rfl (by unfold maxLen at h3'; omega)
  · exact eqIntS_some_nil _ _ _ _ _ _ _ w rfl (by unfold maxLen at h3; omega)
  · exact eqIntS_some _ _ _ _ _ _ _ _ xs ys w rfl rfl (by unfold maxLen at h3; omega) (by unfold maxLen at h3'; omega) h4 h4'

theorem toIntS_nil (a : Option Addr) (cap : Nat) (w : World) :
    Calls Try.prog 26 #[.slice a 0 cap] w fun e w' =>
      e = .returned (.slice (some ⟨w.heap.size, 0, none⟩) 0 0) ∧
      w'.ownsRow w.heap.size 3 1 (.slice (some ⟨w.heap.size, 0, none⟩) 0 0) 0 (([] : List Int).map (Value.int .i64)) ∧ Below w.heap.size w w' := by
  obtain ⟨i0, hi, hz0, hz1, hz2⟩ := info_parts Try.info3
  have hmk : ∀ w : World, (Instr.makeSlice 23 (.int .i64 0) (.int .i64 0)).run Try.prog w = .ok (.slice (some ⟨w.heap.size, 0, none⟩) 0 0) (w.alloc (.cells #[] 3)) := by
    intro w
    have h := run_make (P := Try.prog) w 23 3 i0 (.int .i64 0) Try.underlying23 hi hz0 .i64 .i64 (0:Nat) (0:Nat) (by omega) (by omega) (by rw [hz2]; omega) (by omega)
    rw [hz1] at h
    simp only [Int.toNat_natCast] at h
    rw [made] at h
    exact h
  clear hi hz0 hz1 hz2 i0
  go_enter Try.func26, Try.ntmps26
  go_wp2
  go_loop [4] (fun i => i = .int .i64 0) (fun _ => 0)
  case atStart => rfl
  case round =>
   obtain rfl := hrel
   go_wp2
   go_ret
   exact ⟨rfl, World.ownsRow_lit w #[] 0 (Nat.le_refl _) (by unfold maxLen; omega) rfl, (Below.refl _ _).alloc (Nat.le_refl _) _⟩

theorem toIntS_any (v : Value) (xs : List Int) (w : World) (h : Ints w v xs) (hl : xs.length ≤ 1048576) :
    Calls Try.prog 26 #[v] w fun e w' =>
      e = .returned (.slice (some ⟨w.heap.size, 0, none⟩) xs.length xs.length) ∧
      w'.ownsRow w.heap.size 3 1 (.slice (some ⟨w.heap.size, 0, none⟩) xs.length xs.length) xs.length (xs.map (Value.int .i64)) ∧ Below w.heap.size w w' := by
  rcases h with ⟨a, cap, rfl, rfl⟩ | ⟨b, off, cap, rfl, h1, h2, h3, h4⟩
  · exact toIntS_nil _ _ w
  · exact toIntS_some _ _ _ _ xs w rfl h1 hl h4

/-- what the call owns reads as ints -/
theorem ints_own {w : World} {B g n cap : Nat} {xs : List Int} (hn : n = xs.length) (h : w.ownsRow B 3 1 (.slice (some ⟨g, 0, none⟩) n cap) n (xs.map (Value.int .i64))) : Ints w (.slice (some ⟨g, 0, none⟩) n cap) xs := by
  subst hn
  have hb : g < w.heap.size := by
    rcases h.2 with ⟨h', _⟩ | ⟨g', cap', cur, h', hbg, hg, _⟩
    · simp at h'
    · simp only [Value.slice.injEq, Option.some.injEq, Addr.mk.injEq, and_true, true_and] at h'
      obtain ⟨rfl, rfl⟩ := h'
      exact (Array.getElem?_eq_some_iff.1 hg).1
  have hc : xs.length ≤ cap ∧ cap ≤ maxLen := by
    rcases h.2 with ⟨h', _⟩ | ⟨g', cap', cur, h', hbg, hg, hx, hy, _⟩
    · simp at h'
    · simp only [Value.slice.injEq, Option.some.injEq, Addr.mk.injEq, and_true, true_and] at h'
      obtain ⟨rfl, rfl⟩ := h'
      exact ⟨hx, hy⟩
  refine .inr ⟨g, 0, cap, rfl, hb, hc.1, hc.2, fun i hi => ?_⟩
  have := h.cellAt i (by omega)
  rw [Nat.zero_add, this, List.getElem?_map, List.getElem?_eq_getElem hi]
  simp [List.getD, hi]
end Go.Proofs.Ytcgncaiehdcooaa
