/- readClock. -/
import Derived.Test.YtcgncaiehdcooaaB
namespace Go.Proofs.Ytcgncaiehdcooaa
open Go.RowKit
set_option linter.unusedVariables false

/-- a clock as a value -/
def cv (xs : List Int) : Value := .agg #[.int .i64 xs.length, .int .i64 (xs.getD 0 0), .int .i64 (xs.getD 1 0), .int .i64 (xs.getD 2 0), .int .i64 (xs.getD 3 0)]
def cvOr (xs : List Int) : Value := if okB xs = true then cv xs else .agg #[.int .i64 0, .int .i64 0, .int .i64 0, .int .i64 0, .int .i64 0]
theorem cvOr_yes {xs : List Int} (h : okB xs = true) : cvOr xs = cv xs := if_pos h
theorem cvOr_no {xs : List Int} (h : okB xs = false) : cvOr xs = .agg #[.int .i64 0, .int .i64 0, .int .i64 0, .int .i64 0, .int .i64 0] := if_neg (by simp [h])
theorem ret_clk {xs : List Int} {v : Value} {b : Bool} (hv : cvOr xs = v) (hb : okB xs = b) : Ending.returned (.tuple #[v, .bool b]) = .returned (.tuple #[cvOr xs, .bool (okB xs)]) := by rw [hv, hb]
def pad (n : Nat) (ys : List Int) : List Int := [(n : Int), ys.getD 0 0, ys.getD 1 0, ys.getD 2 0, ys.getD 3 0]

theorem pad_set (xs : List Int) (n k : Nat) (hk : k < xs.length) (h4 : xs.length ≤ 4) : ((pad n (xs.take k)).map (Value.int .i64)).set (1 + k) (.int .i64 (xs.getD k 0)) = (pad n (xs.take (k + 1))).map (Value.int .i64) := by
  match xs, k, hk, h4 with
  | [a], 0, _, _ => rfl
  | [a, b], 0, _, _ => rfl
  | [a, b], 1, _, _ => rfl
  | [a, b, c], 0, _, _ => rfl
  | [a, b, c], 1, _, _ => rfl
  | [a, b, c], 2, _, _ => rfl
  | [a, b, c, d], 0, _, _ => rfl
  | [a, b, c, d], 1, _, _ => rfl
  | [a, b, c, d], 2, _, _ => rfl
  | [a, b, c, d], 3, _, _ => rfl
  | a :: b :: c :: d :: e :: r, k, _, h => simp at h
  | [], k, h, _ => simp at h
  | [a], k + 1, h, _ => simp at h
  | [a, b], k + 2, h, _ => simp at h; omega
  | [a, b, c], k + 3, h, _ => simp at h; omega
  | [a, b, c, d], k + 4, h, _ => simp at h; omega

set_option maxHeartbeats 400000 in
theorem readClock_len (a : Option Addr) (n cap : Nat) (w : World) (hn : n ≤ 9223372036854775807) (h : n < 1 ∨ 4 < n) :
    Calls Try.prog 107 #[.slice a n cap] w fun e w' => e = .returned (.tuple #[.agg #[.int .i64 0, .int .i64 0, .int .i64 0, .int .i64 0, .int .i64 0], .bool false]) ∧ Below w.heap.size w w' := by
  rcases h with h | h
  · go_enter Try.func107, Try.ntmps107
    go_wp2
    exact bodyPost_ret (v := .tuple #[.agg #[.int .i64 0, .int .i64 0, .int .i64 0, .int .i64 0, .int .i64 0], .bool false]) (by simp [results, Try.results107, go_sem]) rfl ⟨rfl, (Below.refl _ _).alloc (Nat.le_refl _) _⟩
  · have h' : ¬ n < 1 := by omega
    go_enter Try.func107, Try.ntmps107
    go_wp2
    exact bodyPost_ret (v := .tuple #[.agg #[.int .i64 0, .int .i64 0, .int .i64 0, .int .i64 0, .int .i64 0], .bool false]) (by simp [results, Try.results107, go_sem]) rfl ⟨rfl, (Below.refl _ _).alloc (Nat.le_refl _) _⟩

set_option maxHeartbeats 800000 in
theorem readClock_in (b off cap n : Nat) (xs : List Int) (w : World) (hn : xs.length = n) (h1 : 1 ≤ n) (h4 : n ≤ 4) (hb : b < w.heap.size)
    (hc : ∀ i, i < n → w.cell? ⟨b, off + i, none⟩ = some (.int .i64 (xs.getD i 0))) :
    Calls Try.prog 107 #[.slice (some ⟨b, off, none⟩) n cap] w fun e w' =>
      e = .returned (.tuple #[cvOr xs, .bool (okB xs)]) ∧ Below w.heap.size w w' := by
  have HN := Lib.hid hn
  clear hn
  go_enter Try.func107, Try.ntmps107
  go_wp2
  have hown0 : ((w.alloc (.cells #[.int .i64 0, .int .i64 0, .int .i64 0, .int .i64 0, .int .i64 0] 80)).alloc (.cells #[.int .i64 n, .int .i64 0, .int .i64 0, .int .i64 0, .int .i64 0] 80)).ownsRow (w.heap.size + 1) 80 5 (.slice (some ⟨w.heap.size + 1, 0, none⟩) 1 1) 1 ((pad n (xs.take 0)).map (Value.int .i64)) := by
    have := World.ownsRow_lit (size := 5) (e := 80) (base := w.heap.size + 1) (w.alloc (.cells #[.int .i64 0, .int .i64 0, .int .i64 0, .int .i64 0, .int .i64 0] 80)) #[.int .i64 n, .int .i64 0, .int .i64 0, .int .i64 0, .int .i64 0] 1 (by simp) (by unfold maxLen; omega) (by simp)
    simpa [pad] using this
  have hbel0 : Below (w.heap.size + 1) (w.alloc (.cells #[.int .i64 0, .int .i64 0, .int .i64 0, .int .i64 0, .int .i64 0] 80)) ((w.alloc (.cells #[.int .i64 0, .int .i64 0, .int .i64 0, .int .i64 0, .int .i64 0] 80)).alloc (.cells #[.int .i64 n, .int .i64 0, .int .i64 0, .int .i64 0, .int .i64 0] 80)) := (Below.refl _ _).alloc (by simp) _
  have hfirst : Hid (Below w.heap.size w (w.alloc (.cells #[.int .i64 0, .int .i64 0, .int .i64 0, .int .i64 0, .int .i64 0] 80))) := (Below.refl _ _).alloc (by simp) _
  have hcell0 : Hid (∀ j, (w.alloc (.cells #[.int .i64 0, .int .i64 0, .int .i64 0, .int .i64 0, .int .i64 0] 80)).cell? ⟨w.heap.size, j, none⟩ = ((pad 0 []).map (Value.int .i64))[j]?) := by
    intro j
    rw [World.cell?_alloc_new]
    simp [pad]
  have hfroz0 : Hid (∀ j, (w.alloc (.cells #[.int .i64 0, .int .i64 0, .int .i64 0, .int .i64 0, .int .i64 0] 80)).frozen? ⟨w.heap.size, j, none⟩ = false) := by
    intro j
    simp
  have H0 := Lib.hid hown0
  have H2 := Lib.hid hbel0
  clear hown0 hbel0
  go_loopw [20] (fun i wr => ∃ k : Nat, k ≤ n ∧ i = .int .i64 k ∧ Hid ((xs.take k).all good = true) ∧
      Hid (wr.ownsRow (w.heap.size + 1) 80 5 (.slice (some ⟨w.heap.size + 1, 0, none⟩) 1 1) 1 ((pad n (xs.take k)).map (Value.int .i64))) ∧
      Hid (Below (w.heap.size + 1) (w.alloc (.cells #[.int .i64 0, .int .i64 0, .int .i64 0, .int .i64 0, .int .i64 0] 80)) wr)) (fun i _ => n - (intOf i).toNat)
  case atStart => exact ⟨0, Nat.zero_le _, rfl, by simp [Hid], H0, H2⟩
  case round =>
    obtain ⟨k, hk, rfl, hg, ho, hbel⟩ := hrel
    clear H0 H2
    have hbel' : Below w.heap.size w wr := hfirst.out.trans (hbel.out.mono (by omega))
    by_cases hlt : k < n
    · have hc1 : wr.cell? ⟨b, off + k, none⟩ = some (.int .i64 (xs.getD k 0)) := (hbel'.cell (p := ⟨b, off + k, none⟩) hb).trans (hc k hlt)
      clear hc hbel'
      obtain ⟨x, hx⟩ : ∃ x, xs.getD k 0 = x := ⟨_, rfl⟩
      rw [hx] at hc1
      have HX := Lib.hid hx
      clear hx
      by_cases hx0 : 0 ≤ x
      · by_cases hx1 : x ≤ 100000
        · have hf := ho.out.frozenAt (1 + k)
          have hcc : ∃ z, wr.cell? ⟨w.heap.size + 1, 1 + k, none⟩ = some z := by
            refine ⟨_, (ho.out.cellAt (1 + k) (by omega)).trans (List.getElem?_eq_getElem (by simp [pad]; omega))⟩
          obtain ⟨z, hz⟩ := hcc
          have hst := (ho.out.stored (1 + k) (.int .i64 x)).1
          rw [← HX.out, pad_set xs n k (by rw [HN.out]; exact hlt) (by rw [HN.out]; exact h4), HX.out] at hst
          have HS := Lib.hid hst
          clear hst
          go_wp2
          go_roundw
          case rel => exact ⟨k + 1, by omega, by go_num, good_step xs k (by rw [HN.out]; omega) hg.out (by rw [HX.out]; exact hx0) (by rw [HX.out]; exact hx1), HS.out, hbel.out.setCell (by simp) _⟩
          case measure => simp [intOf]; omega
        · have hno := okB_bad xs k (by rw [HN.out]; omega) (.inr (by rw [HX.out]; omega))
          have r0 : ∀ j, wr.cell? ⟨w.heap.size, j, none⟩ = ((pad 0 []).map (Value.int .i64))[j]? := fun j => (hbel.out.cell (p := ⟨w.heap.size, j, none⟩) (by simp)).trans (hcell0.out j)
          have rf : ∀ j, wr.frozen? ⟨w.heap.size, j, none⟩ = false := fun j => (hbel.out.frozen (p := ⟨w.heap.size, j, none⟩) (by simp)).trans (hfroz0.out j)
          have q0 : wr.cell? ⟨w.heap.size, 0, none⟩ = some (.int .i64 0) := r0 0
          have q1 : wr.cell? ⟨w.heap.size, 1, none⟩ = some (.int .i64 0) := r0 1
          have q2 : wr.cell? ⟨w.heap.size, 2, none⟩ = some (.int .i64 0) := r0 2
          have q3 : wr.cell? ⟨w.heap.size, 3, none⟩ = some (.int .i64 0) := r0 3
          have q4 : wr.cell? ⟨w.heap.size, 4, none⟩ = some (.int .i64 0) := r0 4
          clear r0
          have hB := hfirst.out.trans (hbel.out.mono (B' := w.heap.size) (by omega))
          have HNO := Lib.hid hno
          have HB := Lib.hid hB
          clear hno hB
          go_wp2
          exact bodyPost_ret (v := .tuple #[.agg #[.int .i64 0, .int .i64 0, .int .i64 0, .int .i64 0, .int .i64 0], .bool false]) (by simp [results, Try.results107, go_sem, q0, q1, q2, q3, q4]) rfl ⟨ret_clk (cvOr_no HNO.out) HNO.out, ((((HB.out.setCell (by simp) _).setCell (by simp) _).setCell (by simp) _).setCell (by simp) _).setCell (by simp) _⟩
      · have hno := okB_bad xs k (by rw [HN.out]; omega) (.inl (by rw [HX.out]; omega))
        have r0 : ∀ j, wr.cell? ⟨w.heap.size, j, none⟩ = ((pad 0 []).map (Value.int .i64))[j]? := fun j => (hbel.out.cell (p := ⟨w.heap.size, j, none⟩) (by simp)).trans (hcell0.out j)
        have rf : ∀ j, wr.frozen? ⟨w.heap.size, j, none⟩ = false := fun j => (hbel.out.frozen (p := ⟨w.heap.size, j, none⟩) (by simp)).trans (hfroz0.out j)
        have q0 : wr.cell? ⟨w.heap.size, 0, none⟩ = some (.int .i64 0) := r0 0
        have q1 : wr.cell? ⟨w.heap.size, 1, none⟩ = some (.int .i64 0) := r0 1
        have q2 : wr.cell? ⟨w.heap.size, 2, none⟩ = some (.int .i64 0) := r0 2
        have q3 : wr.cell? ⟨w.heap.size, 3, none⟩ = some (.int .i64 0) := r0 3
        have q4 : wr.cell? ⟨w.heap.size, 4, none⟩ = some (.int .i64 0) := r0 4
        clear r0
        have hB := hfirst.out.trans (hbel.out.mono (B' := w.heap.size) (by omega))
        have HNO := Lib.hid hno
        have HB := Lib.hid hB
        clear hno hB
        go_wp2
        exact bodyPost_ret (v := .tuple #[.agg #[.int .i64 0, .int .i64 0, .int .i64 0, .int .i64 0, .int .i64 0], .bool false]) (by simp [results, Try.results107, go_sem, q0, q1, q2, q3, q4]) rfl ⟨ret_clk (cvOr_no HNO.out) HNO.out, ((((HB.out.setCell (by simp) _).setCell (by simp) _).setCell (by simp) _).setCell (by simp) _).setCell (by simp) _⟩
    · have hkn : k = n := by omega
      have hyes := okB_all xs k (by rw [HN.out]; omega) (by omega) (by omega) hg.out
      subst hkn
      have ht : xs.take k = xs := by rw [List.take_of_length_le (by rw [HN.out]; omega)]
      have c0 : ∀ j, wr.cell? ⟨w.heap.size + 1, j, none⟩ = ((pad k (xs.take k)).map (Value.int .i64))[j]? ∨ 5 ≤ j := fun j => by
        by_cases hj : j < 5
        · exact .inl (ho.out.cellAt j (by omega))
        · exact .inr (by omega)
      rw [ht] at c0
      have p0 : wr.cell? ⟨w.heap.size + 1, 0, none⟩ = some (.int .i64 k) := (c0 0).resolve_right (by omega)
      have p1 : wr.cell? ⟨w.heap.size + 1, 1, none⟩ = some (.int .i64 (xs.getD 0 0)) := (c0 1).resolve_right (by omega)
      have p2 : wr.cell? ⟨w.heap.size + 1, 2, none⟩ = some (.int .i64 (xs.getD 1 0)) := (c0 2).resolve_right (by omega)
      have p3 : wr.cell? ⟨w.heap.size + 1, 3, none⟩ = some (.int .i64 (xs.getD 2 0)) := (c0 3).resolve_right (by omega)
      have p4 : wr.cell? ⟨w.heap.size + 1, 4, none⟩ = some (.int .i64 (xs.getD 3 0)) := (c0 4).resolve_right (by omega)
      have r0 : ∀ j, wr.cell? ⟨w.heap.size, j, none⟩ = ((pad 0 []).map (Value.int .i64))[j]? := fun j => (hbel.out.cell (p := ⟨w.heap.size, j, none⟩) (by simp)).trans (hcell0.out j)
      have rf : ∀ j, wr.frozen? ⟨w.heap.size, j, none⟩ = false := fun j => (hbel.out.frozen (p := ⟨w.heap.size, j, none⟩) (by simp)).trans (hfroz0.out j)
      have q0 : wr.cell? ⟨w.heap.size, 0, none⟩ = some (.int .i64 0) := r0 0
      have q1 : wr.cell? ⟨w.heap.size, 1, none⟩ = some (.int .i64 0) := r0 1
      have q2 : wr.cell? ⟨w.heap.size, 2, none⟩ = some (.int .i64 0) := r0 2
      have q3 : wr.cell? ⟨w.heap.size, 3, none⟩ = some (.int .i64 0) := r0 3
      have q4 : wr.cell? ⟨w.heap.size, 4, none⟩ = some (.int .i64 0) := r0 4
      clear r0 c0
      have hB := hfirst.out.trans (hbel.out.mono (B' := w.heap.size) (by omega))
      have hcv : cvOr xs = .agg #[.int .i64 k, .int .i64 (xs.getD 0 0), .int .i64 (xs.getD 1 0), .int .i64 (xs.getD 2 0), .int .i64 (xs.getD 3 0)] := by rw [cvOr_yes hyes, cv, HN.out]
      have HC := Lib.hid hcv
      have HNO := Lib.hid hyes
      have HB := Lib.hid hB
      clear hyes hB hcv ht hc
      generalize xs.getD 0 0 = x0 at *
      generalize xs.getD 1 0 = x1 at *
      generalize xs.getD 2 0 = x2 at *
      generalize xs.getD 3 0 = x3 at *
      go_wp2
      exact bodyPost_ret (v := .tuple #[.agg #[.int .i64 k, .int .i64 x0, .int .i64 x1, .int .i64 x2, .int .i64 x3], .bool true]) (by simp [results, Try.results107, go_sem, q0, q1, q2, q3, q4]) rfl ⟨ret_clk HC.out HNO.out, ((((HB.out.setCell (by simp) _).setCell (by simp) _).setCell (by simp) _).setCell (by simp) _).setCell (by simp) _⟩

/-- the parts of the clock that readClock gives: those of xs, or zeros -/
def cn (xs : List Int) : Int := if okB xs = true then xs.length else 0
def cx (xs : List Int) (i : Nat) : Int := if okB xs = true then xs.getD i 0 else 0
theorem cvOr_eq (xs : List Int) : cvOr xs = .agg #[.int .i64 (cn xs), .int .i64 (cx xs 0), .int .i64 (cx xs 1), .int .i64 (cx xs 2), .int .i64 (cx xs 3)] := by
  unfold cvOr cn cx cv
  by_cases h : okB xs = true <;> simp [h]

theorem readClock_any (v : Value) (xs : List Int) (w : World) (h : Ints w v xs) :
    Calls Try.prog 107 #[v] w fun e w' => e = .returned (.tuple #[.agg #[.int .i64 (cn xs), .int .i64 (cx xs 0), .int .i64 (cx xs 1), .int .i64 (cx xs 2), .int .i64 (cx xs 3)], .bool (okB xs)]) ∧ Below w.heap.size w w' := by
  rw [← cvOr_eq]
  rcases h with ⟨a, cap, rfl, rfl⟩ | ⟨b, off, cap, rfl, h1, h2, h3, h4⟩
  · exact readClock_len _ _ _ w (by omega) (by omega)
  · by_cases hl : 1 ≤ xs.length ∧ xs.length ≤ 4
    · exact readClock_in b off cap _ xs w rfl hl.1 hl.2 h1 h4
    · have hno := okB_len xs (by omega)
      rw [cvOr_no hno, hno]
      exact readClock_len _ _ _ w (by unfold maxLen at h3; omega) (by omega)
end Go.Proofs.Ytcgncaiehdcooaa
