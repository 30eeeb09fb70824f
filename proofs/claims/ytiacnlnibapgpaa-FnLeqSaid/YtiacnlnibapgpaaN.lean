/- Slices that the call owns; markIntS, heldIntS. -/
import Derived.Test.YtiacnlnibapgpaaL
namespace Go.Proofs.Ytiacnlnibapgpaa
open Go.RowKit
set_option linter.unusedVariables false

/-- v reads as xs, in cells of block g alone, which may be written -/
def Own (w : World) (g : Nat) (v : Value) (xs : List Int) : Prop :=
  (∃ a cap, v = .slice a 0 cap ∧ xs = []) ∨ (0 < xs.length ∧ ∃ cap, v = .slice (some ⟨g, 0, none⟩) xs.length cap ∧ w.ownsRow g 3 1 (.slice (some ⟨g, 0, none⟩) xs.length cap) xs.length (vi xs))

theorem own_at {w : World} {B e size g n cap n' : Nat} {xs : List Value} (h : w.ownsRow B e size (.slice (some ⟨g, 0, none⟩) n cap) n' xs) : w.ownsRow g e size (.slice (some ⟨g, 0, none⟩) n cap) n' xs ∧ B ≤ g ∧ g < w.heap.size := by
  obtain ⟨h1, h2⟩ := h
  rcases h2 with ⟨h', _⟩ | ⟨g', cap', cur, h', hbg, hg, r⟩
  · simp at h'
  · have h0 := h'
    simp only [Value.slice.injEq, Option.some.injEq, Addr.mk.injEq, and_true] at h'
    obtain ⟨rfl, _⟩ := h'
    exact ⟨⟨h1, .inr ⟨g, cap', cur, h0, Nat.le_refl _, hg, r⟩⟩, hbg, (Array.getElem?_eq_some_iff.1 hg).1⟩
theorem own_ints {w : World} {g : Nat} {v : Value} {xs : List Int} (h : Own w g v xs) : Ints w v xs := by
  rcases h with ⟨a, cap, rfl, rfl⟩ | ⟨hp, cap, rfl, ho⟩
  · exact .inl ⟨_, _, rfl, rfl⟩
  · exact ints_own rfl ho
theorem own_lt {w : World} {g : Nat} {v : Value} {xs : List Int} (h : Own w g v xs) (hp : 0 < xs.length) : g < w.heap.size := by
  rcases h with ⟨a, cap, rfl, rfl⟩ | ⟨hp, cap, rfl, ho⟩
  · simp at hp
  · exact (own_at ho).2.2
theorem row_block {w w' : World} {g : Nat} {e size n cap : Nat} {xs : List Value} (h : w.ownsRow g e size (.slice (some ⟨g, 0, none⟩) n cap) n xs) (hb : w'.heap[g]? = w.heap[g]?) : w'.ownsRow g e size (.slice (some ⟨g, 0, none⟩) n cap) n xs := by
  obtain ⟨h1, h2⟩ := h
  refine ⟨h1, ?_⟩
  rcases h2 with h2 | ⟨g', cap', cur, hv, hg, hh, r⟩
  · exact .inl h2
  · have h0 := hv
    simp only [Value.slice.injEq, Option.some.injEq, Addr.mk.injEq, and_true] at hv
    obtain ⟨rfl, _⟩ := hv
    exact .inr ⟨g, cap', cur, h0, hg, by rw [hb]; exact hh, r⟩
theorem Own.block {w w' : World} {g : Nat} {v : Value} {xs : List Int} (h : Own w g v xs) (hb : 0 < xs.length → w'.heap[g]? = w.heap[g]?) : Own w' g v xs := by
  rcases h with h | ⟨hp, cap, rfl, ho⟩
  · exact .inl h
  · exact .inr ⟨hp, cap, rfl, row_block ho (hb hp)⟩
theorem Own.below {w w' : World} {g : Nat} {v : Value} {xs : List Int} (h : Own w g v xs) (hb : Below w.heap.size w w') : Own w' g v xs :=
  h.block fun hp => hb.block g (own_lt h hp)
theorem Own.drewN {w : World} {g : Nat} {v : Value} {xs : List Int} (h : Own w g v xs) (n : Nat) : Own (w.drewN n) g v xs := h
theorem Own.other {w w' : World} {g g' : Nat} {v : Value} {xs : List Int} (h : Own w g v xs) (hb : w.grownBy w' (some g')) (hn : 0 < xs.length → g ≠ g') : Own w' g v xs :=
  h.block fun hp => hb.block g (own_lt h hp) (fun e => hn hp (Option.some.inj e))

/-- k, k+1, .. -/
def iota (k : Int) : Nat → List Int
  | 0 => []
  | n + 1 => k :: iota (k + 1) n
theorem iota_length (k : Int) (n : Nat) : (iota k n).length = n := by
  induction n generalizing k with
  | zero => rfl
  | succ n ih => simp [iota, ih]
theorem iota_getD (k : Int) (n i : Nat) (h : i < n) : (iota k n).getD i 0 = k + i := by
  induction n generalizing k i with
  | zero => omega
  | succ n ih =>
    cases i with
    | zero => simp [iota]
    | succ i => simp only [iota, List.getD_cons_succ]; rw [ih (k + 1) i (by omega)]; omega
theorem iota_snoc (k : Int) (n : Nat) : iota k (n + 1) = iota k n ++ [k + n] := by
  induction n generalizing k with
  | zero => simp [iota]
  | succ n ih => rw [iota, ih (k + 1), iota, List.cons_append]; congr 3; omega
theorem mark_set (xs : List Int) (k : Int) (i : Nat) (h : i < xs.length) : (vi (iota k i ++ xs.drop i)).set i (.int .i64 (k + i)) = vi (iota k (i + 1) ++ xs.drop (i + 1)) := by
  unfold vi
  rw [List.map_append, List.set_append_right _ _ (by simp [iota_length]), List.length_map, iota_length, Nat.sub_self, List.drop_eq_getElem_cons h, List.map_cons, List.set_cons_zero, iota_snoc]
  simp

set_option maxHeartbeats 400000 in
theorem mark_some (g cap n : Nat) (k : Int) (xs : List Int) (w : World) (hn : xs.length = n) (hk : 0 ≤ k) (hs : k + n ≤ 4000000000) (ho : w.ownsRow g 3 1 (.slice (some ⟨g, 0, none⟩) n cap) n (vi xs)) :
    Calls Try.prog 27 #[.slice (some ⟨g, 0, none⟩) n cap, .int .i64 k] w fun e w' => e = .returned (.int .i64 (k + n)) ∧ w'.ownsRow g 3 1 (.slice (some ⟨g, 0, none⟩) n cap) n (vi (iota k n)) ∧ w.grownBy w' (some g) := by
  have HN := Lib.hid hn
  have HO := Lib.hid ho
  clear hn ho
  go_enter Try.func27, Try.ntmps27
  go_wp2
  go_loopw [1, 5] (fun t i wr => ∃ j : Nat, j ≤ n ∧ i = .int .i64 j ∧ t = .int .i64 (k + j) ∧ Hid (wr.ownsRow g 3 1 (.slice (some ⟨g, 0, none⟩) n cap) n (vi (iota k j ++ xs.drop j))) ∧ Hid (w.grownBy wr (some g))) (fun _ i _ => n - (intOf i).toNat)
  case atStart => exact ⟨0, Nat.zero_le _, rfl, by simp, by simpa [iota, Hid] using HO.out, ⟨rfl, rfl, rfl, Nat.le_refl _, fun _ _ _ => rfl⟩⟩
  case round =>
    obtain ⟨j, hj, rfl, rfl, h1, h2⟩ := hrel
    by_cases hlt : j < n
    · have q := (h1.out.cellAt j (by omega))
      have hlen : (vi (iota k j ++ xs.drop j)).length = n := by simp [vi, iota_length, HN.out]; omega
      rw [List.getElem?_eq_getElem (by rw [hlen]; exact hlt)] at q
      generalize (vi (iota k j ++ xs.drop j))[j]'(by rw [hlen]; exact hlt) = z at q
      have f := h1.out.frozenAt j
      have st := h1.out.stored j (.int .i64 (k + j))
      rw [mark_set xs k j (by rw [HN.out]; exact hlt)] at st
      have ST := Lib.hid st
      clear st hlen
      go_wp2
      go_roundw
      case rel => exact ⟨j + 1, by omega, by go_num, by go_num, ST.out.1, h2.out.trans ST.out.2⟩
      case measure => simp [intOf]; omega
    · have : j = n := by omega
      subst this
      have hd : Hid (vi (iota k j ++ xs.drop j) = vi (iota k j)) := by
        show _ = _
        rw [List.drop_of_length_le (by rw [HN.out]; omega), List.append_nil]
      go_wp2
      go_ret
      refine ⟨rfl, ?_, h2.out⟩
      have := h1.out
      rw [hd.out] at this
      exact this

theorem grown_refl (w : World) (r : Option Nat) : w.grownBy w r := ⟨rfl, rfl, rfl, Nat.le_refl _, fun _ _ _ => rfl⟩
theorem mark_empty (a : Option Addr) (cap : Nat) (k : Int) (w : World) (hk : 0 ≤ k) (hs : k ≤ 4000000000) :
    Calls Try.prog 27 #[.slice a 0 cap, .int .i64 k] w fun e w' => e = .returned (.int .i64 k) ∧ w' = w := by
  go_enter Try.func27, Try.ntmps27
  go_wp2
  go_loop [1, 5] (fun t i => t = .int .i64 k ∧ i = .int .i64 0) (fun _ _ => 0)
  case atStart => exact ⟨rfl, rfl⟩
  case round =>
    obtain ⟨rfl, rfl⟩ := hrel
    go_wp2
    go_ret
    exact ⟨rfl, rfl⟩
theorem mark_any (g : Nat) (v : Value) (k : Int) (xs : List Int) (w : World) (h : Own w g v xs) (hk : 0 ≤ k) (hs : k + xs.length ≤ 4000000000) :
    Calls Try.prog 27 #[v, .int .i64 k] w fun e w' => e = .returned (.int .i64 (k + xs.length)) ∧ Own w' g v (iota k xs.length) ∧ w.grownBy w' (some g) := by
  rcases h with ⟨a, cap, rfl, rfl⟩ | ⟨hp, cap, rfl, ho⟩
  · refine (mark_empty a cap k w hk (by simp at hs; exact hs)).mono ?_
    rintro e w' ⟨rfl, rfl⟩
    exact ⟨by simp, .inl ⟨_, _, rfl, rfl⟩, grown_refl _ _⟩
  · refine (mark_some g cap _ k xs w rfl hk hs ho).mono ?_
    rintro e w' ⟨rfl, h1, h2⟩
    exact ⟨rfl, .inr ⟨by rw [iota_length]; exact hp, cap, by rw [iota_length], by rw [iota_length]; exact h1⟩, h2⟩

set_option maxHeartbeats 400000 in
theorem held_some (b off cap n : Nat) (k : Int) (w : World) (hk : 0 ≤ k) (hs : k + n ≤ 4000000000) (hc : ∀ i, i < n → w.cell? ⟨b, off + i, none⟩ = some (.int .i64 ((iota k n).getD i 0))) :
    Calls Try.prog 28 #[.slice (some ⟨b, off, none⟩) n cap, .int .i64 k] w fun e w' => e = .returned (.int .i64 (k + n)) ∧ w' = w := by
  have HC := Lib.hid hc
  clear hc
  go_enter Try.func28, Try.ntmps28
  go_wp2
  go_loop [1, 5] (fun t i => ∃ j : Nat, j ≤ n ∧ i = .int .i64 j ∧ t = .int .i64 (k + j)) (fun _ i => n - (intOf i).toNat)
  case atStart => exact ⟨0, Nat.zero_le _, rfl, by simp⟩
  case round =>
    obtain ⟨j, hj, rfl, rfl⟩ := hrel
    by_cases hlt : j < n
    · have q := HC.out j hlt
      rw [iota_getD k n j hlt] at q
      go_wp2
      go_round
      case rel => exact ⟨j + 1, by omega, by go_num, by go_num⟩
      case measure => simp [intOf]; omega
    · have : j = n := by omega
      subst this
      go_wp2
      go_ret
      exact ⟨rfl, rfl⟩
theorem held_empty (a : Option Addr) (cap : Nat) (k : Int) (w : World) (hk : 0 ≤ k) (hs : k ≤ 4000000000) :
    Calls Try.prog 28 #[.slice a 0 cap, .int .i64 k] w fun e w' => e = .returned (.int .i64 k) ∧ w' = w := by
  go_enter Try.func28, Try.ntmps28
  go_wp2
  go_loop [1, 5] (fun t i => t = .int .i64 k ∧ i = .int .i64 0) (fun _ _ => 0)
  case atStart => exact ⟨rfl, rfl⟩
  case round =>
    obtain ⟨rfl, rfl⟩ := hrel
    go_wp2
    go_ret
    exact ⟨rfl, rfl⟩
theorem held_any (v : Value) (k : Int) (n : Nat) (w : World) (h : Ints w v (iota k n)) (hk : 0 ≤ k) (hs : k + n ≤ 4000000000) :
    Calls Try.prog 28 #[v, .int .i64 k] w fun e w' => e = .returned (.int .i64 (k + n)) ∧ w' = w := by
  rcases h with ⟨a, cap, rfl, h0⟩ | ⟨b, off, cap, rfl, h1, h2, h3, h4⟩
  · have hn : n = 0 := by rw [← iota_length k n, h0]; rfl
    subst hn
    simpa using held_empty a cap k w hk (by simp at hs; exact hs)
  · rw [iota_length] at h4 ⊢
    exact held_some b off cap n k w hk hs h4

theorem toOwn (v : Value) (xs : List Int) (w : World) (h : Ints w v xs) (hl : xs.length ≤ 1048576) :
    Calls Try.prog 25 #[v] w fun e w' => e = .returned (.slice (some ⟨w.heap.size, 0, none⟩) xs.length xs.length) ∧ Own w' w.heap.size (.slice (some ⟨w.heap.size, 0, none⟩) xs.length xs.length) xs ∧ Below w.heap.size w w' :=
  (toIntS_any v xs w h hl).mono fun e w' ⟨h1, h2, h3⟩ => ⟨h1, by
    by_cases hp : 0 < xs.length
    · exact .inr ⟨hp, _, rfl, (own_at h2).1⟩
    · have : xs = [] := List.eq_nil_of_length_eq_zero (by omega)
      subst this
      exact .inl ⟨_, _, rfl, rfl⟩, h3⟩
end Go.Proofs.Ytiacnlnibapgpaa
