/- ZI, ZJ, ZK. -/
import Derived.Test.YtghgiefciijoeaaGreatDoorHF
import Derived.Test.YtghgiefciijoeaaGreatDoorKA
import Derived.Test.YtghgiefciijoeaaGreatDoorZH
import Derived.Test.YtghgiefciijoeaaGreatDoorZG
import Derived.Test.YtghgiefciijoeaaGreatDoorNE
import Derived.Deep.DeepCutAuto

namespace Go.Proofs.YtghgiefciijoeaaGreatDoor
open Go.RowKit
set_option linter.unusedVariables false
set_option linter.unusedSimpArgs false
def b3 (k : Int) : Bool := k.tmod 3 == 0
def patB (k : Int) : Nat → List Bool
  | 0 => []
  | n + 1 => b3 k :: patB (k + 1) n
theorem patB_length (k : Int) (n : Nat) : (patB k n).length = n := by
  induction n generalizing k with
  | zero => rfl
  | succ n ih => simp [patB, ih]
theorem patB_getD (k : Int) (n i : Nat) (h : i < n) : (patB k n).getD i false = b3 (k + i) := by
  induction n generalizing k i with
  | zero => omega
  | succ n ih =>
    cases i with
    | zero => simp [patB]
    | succ i => simp only [patB, List.getD_cons_succ]; rw [ih (k + 1) i (by omega)]; congr 1; omega
theorem patB_snoc (k : Int) (n : Nat) : patB k (n + 1) = patB k n ++ [b3 (k + n)] := by
  induction n generalizing k with
  | zero => simp [patB]
  | succ n ih => rw [patB, ih (k + 1), patB, List.cons_append]; congr 4; omega
theorem mod3 (k : Int) (hk : 0 ≤ k) : b3 k = (k % 3 == 0) := by
  unfold b3
  rw [Int.tmod_eq_emod_of_nonneg hk]
def vb (l : List Bool) : List Value := l.map (Value.bool)
def Bools (w : World) (v : Value) (xs : List Bool) : Prop :=
  (∃ a cap, v = .slice a 0 cap ∧ xs = []) ∨
  ∃ b off cap, v = .slice (some ⟨b, off, none⟩) xs.length cap ∧ b < w.heap.size ∧ xs.length ≤ cap ∧ cap ≤ maxLen ∧
    ∀ i, i < xs.length → w.cell? ⟨b, off + i, none⟩ = some (.bool (xs.getD i false))
theorem Bools.below {w w' : World} {v : Value} {xs : List Bool} {B : Nat} (h : Bools w v xs) (hb : Below w.heap.size w w') : Bools w' v xs := by
  rcases h with h | ⟨b, off, cap, rfl, h1, h2, h3, h4⟩
  · exact .inl h
  · refine .inr ⟨b, off, cap, rfl, Nat.lt_of_lt_of_le h1 hb.size, h2, h3, fun i hi => ?_⟩
    rw [← h4 i hi]
    exact hb.cell (p := ⟨b, off + i, none⟩) h1
theorem bools_len {w : World} {v : Value} {xs : List Bool} (h : Bools w v xs) : ∃ a cap, v = .slice a xs.length cap := by
  rcases h with ⟨a, cap, rfl, rfl⟩ | ⟨b, off, cap, rfl, _⟩
  · exact ⟨a, cap, rfl⟩
  · exact ⟨_, cap, rfl⟩
theorem bools_max {w : World} {v : Value} {xs : List Bool} (h : Bools w v xs) : xs.length ≤ 9223372036854775807 := by
  rcases h with ⟨a, cap, rfl, rfl⟩ | ⟨b, off, cap, rfl, _, h2, h3, _⟩
  · simp
  · unfold maxLen at h3; omega
def eqBB (xs ys : List Bool) : Bool := decide (xs = ys)
theorem eqBB_len (xs ys : List Bool) (h : xs.length ≠ ys.length) : eqBB xs ys = false := by
  simp only [eqBB, decide_eq_false_iff_not]; intro e; exact h (by rw [e])
theorem eqBB_bad (xs ys : List Bool) (k : Nat) (h : ¬ xs.getD k false = ys.getD k false) : eqBB xs ys = false := by
  simp only [eqBB, decide_eq_false_iff_not]; intro e; exact h (by rw [e])
theorem takeB_step (xs ys : List Bool) (k : Nat) (hx : k < xs.length) (hy : k < ys.length) (h : xs.take k = ys.take k) (e : xs.getD k false = ys.getD k false) : xs.take (k + 1) = ys.take (k + 1) := by
  rw [List.take_succ_eq_append_getElem hx, List.take_succ_eq_append_getElem hy, h]
  simp [List.getD, hx, hy] at e
  rw [e]
theorem eqBB_all (xs ys : List Bool) (k : Nat) (hx : k = xs.length) (hy : k = ys.length) (h : xs.take k = ys.take k) : eqBB xs ys = true := by
  rw [hx, List.take_length, ← hx, hy, List.take_length] at h
  simp [eqBB, h]
set_option maxHeartbeats 400000 in
theorem eqBoolS_some (b off cap b' off' cap' n m : Nat) (xs ys : List Bool) (w : World) (hn : xs.length = n) (hm : ys.length = m) (hl : n ≤ 9223372036854775807) (hl' : m ≤ 9223372036854775807)
    (hc : ∀ i, i < n → w.cell? ⟨b, off + i, none⟩ = some (.bool (xs.getD i false))) (hc' : ∀ i, i < m → w.cell? ⟨b', off' + i, none⟩ = some (.bool (ys.getD i false))) :
    Calls Tryz.prog 27 #[.slice (some ⟨b, off, none⟩) n cap, .slice (some ⟨b', off', none⟩) m cap'] w fun e w' =>
      e = .returned (.bool (eqBB xs ys)) ∧ ∃ q, w' = w.drewN q := by
  have HN := Lib.hid hn
  have HM := Lib.hid hm
  clear hn hm
  by_cases h1 : n = m
  · subst h1
    go_enter Tryz.func27, Tryz.ntmps27
    go_wp2
    go_loopw [5] (fun i wr => ∃ k q : Nat, k ≤ n ∧ i = .int .i64 k ∧ Hid (xs.take k = ys.take k) ∧ wr = w.drewN q) (fun i _ => n - (intOf i).toNat)
    case atStart => exact ⟨0, 0, Nat.zero_le _, rfl, by simp [Hid], rfl⟩
    case round =>
      obtain ⟨k, q, hk, rfl, hg, rfl⟩ := hrel
      by_cases hlt : k < n
      · have hc1 := hc k hlt
        have hc2 := hc' k hlt
        clear hc hc'
        obtain ⟨x, hx⟩ : ∃ x, xs.getD k false = x := ⟨_, rfl⟩
        obtain ⟨y, hy⟩ : ∃ y, ys.getD k false = y := ⟨_, rfl⟩
        rw [hx] at hc1
        rw [hy] at hc2
        have HX := Lib.hid hx
        have HY := Lib.hid hy
        clear hx hy
        have i0 : (0 : Int) ≤ k := by omega
        have i1 : (k : Int) < n := by omega
        by_cases hx0 : x = y
        · subst hx0
          go_wp2
          go_quiet (fail)
          go_wp2
          go_roundw
          case rel => exact ⟨k + 1, _, by omega, by go_num, takeB_step xs ys k (by rw [HN.out]; omega) (by rw [HM.out]; omega) hg.out (by rw [HX.out, HY.out]), rfl⟩
          case measure => simp [intOf]; omega
        · have e1 : (x == y) = false := by simpa using hx0
          have e2 : (x != y) = true := by simpa using hx0
          go_wp2
          go_quiet (fail)
          go_wp2
          go_ret
          exact ⟨ret_bool (eqBB_bad xs ys k (by rw [HX.out, HY.out]; exact hx0)).symm, _, World.drewN_drewN ..⟩
      · go_wp2
        go_ret
        exact ⟨ret_bool (eqBB_all xs ys k (by rw [HN.out]; omega) (by rw [HM.out]; omega) hg.out).symm, q, rfl⟩
  · have hb : ((n : Int) == (m : Int)) = false := by simp; omega
    have hb' : ((n : Int) != (m : Int)) = true := by simp; omega
    go_enter Tryz.func27, Tryz.ntmps27
    go_wp2
    go_ret
    exact ⟨ret_bool (eqBB_len xs ys (by rw [HN.out, HM.out]; exact h1)).symm, 0, rfl⟩
theorem eqBoolS_nil_nil (a a' : Option Addr) (c c' : Nat) (w : World) : Calls Tryz.prog 27 #[.slice a 0 c, .slice a' 0 c'] w fun e w' => e = .returned (.bool (eqBB [] [])) ∧ ∃ q, w' = w.drewN q := by
  go_enter Tryz.func27, Tryz.ntmps27
  go_wp2
  go_loop [5] (fun i => i = .int .i64 0) (fun _ => 0)
  case atStart => rfl
  case round =>
    obtain rfl := hrel
    go_wp2
    go_ret
    exact ⟨rfl, 0, rfl⟩
theorem eqBoolS_nil_some (a : Option Addr) (c b off cap n : Nat) (xs : List Bool) (w : World) (hn : xs.length = n) (hl : n ≤ 9223372036854775807) :
    Calls Tryz.prog 27 #[.slice a 0 c, .slice (some ⟨b, off, none⟩) n cap] w fun e w' => e = .returned (.bool (eqBB [] xs)) ∧ ∃ q, w' = w.drewN q := by
  by_cases h : n = 0
  · subst h
    obtain rfl := List.eq_nil_of_length_eq_zero hn
    clear hn
    go_enter Tryz.func27, Tryz.ntmps27
    go_wp2
    go_loop [5] (fun i => i = .int .i64 0) (fun _ => 0)
    case atStart => rfl
    case round =>
      obtain rfl := hrel
      go_wp2
      go_ret
      exact ⟨rfl, 0, rfl⟩
  · have HN := Lib.hid hn
    clear hn
    have hb : ((0 : Int) == (n : Int)) = false := by simp; omega
    have hb' : ((0 : Int) != (n : Int)) = true := by simp; omega
    go_enter Tryz.func27, Tryz.ntmps27
    go_wp2
    go_ret
    exact ⟨ret_bool (eqBB_len [] xs (by rw [HN.out]; simp; omega)).symm, 0, rfl⟩
theorem eqBoolS_some_nil (a : Option Addr) (c b off cap n : Nat) (xs : List Bool) (w : World) (hn : xs.length = n) (hl : n ≤ 9223372036854775807) :
    Calls Tryz.prog 27 #[.slice (some ⟨b, off, none⟩) n cap, .slice a 0 c] w fun e w' => e = .returned (.bool (eqBB xs [])) ∧ ∃ q, w' = w.drewN q := by
  by_cases h : n = 0
  · subst h
    obtain rfl := List.eq_nil_of_length_eq_zero hn
    clear hn
    go_enter Tryz.func27, Tryz.ntmps27
    go_wp2
    go_loop [5] (fun i => i = .int .i64 0) (fun _ => 0)
    case atStart => rfl
    case round =>
      obtain rfl := hrel
      go_wp2
      go_ret
      exact ⟨rfl, 0, rfl⟩
  · have HN := Lib.hid hn
    clear hn
    have hb : ((n : Int) == 0) = false := by simp; omega
    have hb' : ((n : Int) != 0) = true := by simp; omega
    go_enter Tryz.func27, Tryz.ntmps27
    go_wp2
    go_ret
    exact ⟨ret_bool (eqBB_len xs [] (by rw [HN.out]; simp; omega)).symm, 0, rfl⟩
theorem eqBoolS_any (v v' : Value) (xs ys : List Bool) (w : World) (h : Bools w v xs) (h' : Bools w v' ys) :
    Calls Tryz.prog 27 #[v, v'] w fun e w' => e = .returned (.bool (eqBB xs ys)) ∧ ∃ q, w' = w.drewN q := by
  rcases h with ⟨a, cap, rfl, rfl⟩ | ⟨b, off, cap, rfl, h1, h2, h3, h4⟩ <;> rcases h' with ⟨a', cap', rfl, rfl⟩ | ⟨b', off', cap', rfl, h1', h2', h3', h4'⟩
  · exact eqBoolS_nil_nil _ _ _ _ w
  · exact eqBoolS_nil_some _ _ _ _ _ _ _ w rfl (by unfold maxLen at h3'; omega)
  · exact eqBoolS_some_nil _ _ _ _ _ _ _ w rfl (by unfold maxLen at h3; omega)
  · exact eqBoolS_some _ _ _ _ _ _ _ _ xs ys w rfl rfl (by unfold maxLen at h3; omega) (by unfold maxLen at h3'; omega) h4 h4'
theorem bools_own {w : World} {B g n cap : Nat} {xs : List Bool} (hn : n = xs.length) (h : w.ownsRow B 4 1 (.slice (some ⟨g, 0, none⟩) n cap) n (xs.map (Value.bool))) : Bools w (.slice (some ⟨g, 0, none⟩) n cap) xs := by
  subst hn
  have hb : g < w.heap.size := by
    rcases h.2 with ⟨h', _⟩ | ⟨g', cap', cur, h', hbg, hg, _⟩
    · simp at h'
    · simp only [Value.slice.injEq, Option.some.injEq, Addr.mk.injEq, and_true, true_and] at h'
      obtain ⟨rfl, rfl⟩ := h'
      exact (Array.getElem?_eq_some_iff.1 hg).1
  have hc : xs.length ≤ cap ∧ cap ≤ maxLen := by
    rcases h.2 with ⟨h', _⟩ | ⟨g', cap', cur, h', hbg, hg, hx, hy, _⟩
    · simp at h'
    · simp only [Value.slice.injEq, Option.some.injEq, Addr.mk.injEq, and_true, true_and] at h'
      obtain ⟨rfl, rfl⟩ := h'
      exact ⟨hx, hy⟩
  refine .inr ⟨g, 0, cap, rfl, hb, hc.1, hc.2, fun i hi => ?_⟩
  have := h.cellAt i (by omega)
  rw [Nat.zero_add, this, List.getElem?_map, List.getElem?_eq_getElem hi]
  simp [List.getD, hi]
def OwnW (w : World) (g : Nat) (v : Value) (xs : List Bool) : Prop :=
  (∃ a cap, v = .slice a 0 cap ∧ xs = []) ∨ (0 < xs.length ∧ ∃ cap, v = .slice (some ⟨g, 0, none⟩) xs.length cap ∧ w.ownsRow g 4 1 (.slice (some ⟨g, 0, none⟩) xs.length cap) xs.length (vb xs))
theorem ownW_bools {w : World} {g : Nat} {v : Value} {xs : List Bool} (h : OwnW w g v xs) : Bools w v xs := by
  rcases h with ⟨a, cap, rfl, rfl⟩ | ⟨hp, cap, rfl, ho⟩
  · exact .inl ⟨_, _, rfl, rfl⟩
  · exact bools_own rfl ho
theorem ownW_lt {w : World} {g : Nat} {v : Value} {xs : List Bool} (h : OwnW w g v xs) (hp : 0 < xs.length) : g < w.heap.size := by
  rcases h with ⟨a, cap, rfl, rfl⟩ | ⟨hp, cap, rfl, ho⟩
  · simp at hp
  · exact (own_at ho).2.2
theorem OwnW.block {w w' : World} {g : Nat} {v : Value} {xs : List Bool} (h : OwnW w g v xs) (hb : 0 < xs.length → w'.heap[g]? = w.heap[g]?) : OwnW w' g v xs := by
  rcases h with h | ⟨hp, cap, rfl, ho⟩
  · exact .inl h
  · exact .inr ⟨hp, cap, rfl, row_block ho (hb hp)⟩
theorem OwnW.below {w w' : World} {g : Nat} {v : Value} {xs : List Bool} (h : OwnW w g v xs) (hb : Below w.heap.size w w') : OwnW w' g v xs :=
  h.block fun hp => hb.block g (ownW_lt h hp)
theorem markB_set (xs : List Bool) (k : Int) (i : Nat) (h : i < xs.length) : (vb (patB k i ++ xs.drop i)).set i (.bool (b3 (k + i))) = vb (patB k (i + 1) ++ xs.drop (i + 1)) := by
  unfold vb
  rw [List.map_append, List.set_append_right _ _ (by simp [patB_length]), List.length_map, patB_length, Nat.sub_self, List.drop_eq_getElem_cons h, List.map_cons, List.set_cons_zero, patB_snoc]
  simp
theorem ownW_of_row {w : World} {K n : Nat} {v : Value} {xs : List Bool} (hn : xs.length = n) (h : w.ownsRow K 4 1 v n (vb xs)) : ∃ g, K ≤ g ∧ OwnW w g v xs := by
  subst hn
  have h0 := h
  rcases h.2 with ⟨hv, hz⟩ | ⟨g, cap, cur, hv, hg, _⟩
  · have : xs = [] := List.eq_nil_of_length_eq_zero hz
    subst this
    exact ⟨K, Nat.le_refl _, .inl ⟨_, _, hv, rfl⟩⟩
  · refine ⟨g, hg, ?_⟩
    subst hv
    by_cases hp : 0 < xs.length
    · exact .inr ⟨hp, cap, rfl, (own_at h0).1⟩
    · have : xs = [] := List.eq_nil_of_length_eq_zero (by omega)
      subst this
      exact .inl ⟨_, _, rfl, rfl⟩
set_option maxHeartbeats 400000 in
theorem markB_some (g cap n : Nat) (k : Int) (xs : List Bool) (w : World) (hn : xs.length = n) (hk : 0 ≤ k) (hs : k + n ≤ 4000000000) (ho : w.ownsRow g 4 1 (.slice (some ⟨g, 0, none⟩) n cap) n (vb xs)) :
    Calls Tryz.prog 29 #[.slice (some ⟨g, 0, none⟩) n cap, .int .i64 k] w fun e w' => e = .returned (.int .i64 (k + n)) ∧ w'.ownsRow g 4 1 (.slice (some ⟨g, 0, none⟩) n cap) n (vb (patB k n)) ∧ w.grownBy w' (some g) := by
  have HN := Lib.hid hn
  have HO := Lib.hid ho
  clear hn ho
  go_enter Tryz.func29, Tryz.ntmps29
  go_wp2
  go_loopw [1, 5] (fun t i wr => ∃ j : Nat, j ≤ n ∧ i = .int .i64 j ∧ t = .int .i64 (k + j) ∧ Hid (wr.ownsRow g 4 1 (.slice (some ⟨g, 0, none⟩) n cap) n (vb (patB k j ++ xs.drop j))) ∧ Hid (w.grownBy wr (some g))) (fun _ i _ => n - (intOf i).toNat)
  case atStart => exact ⟨0, Nat.zero_le _, rfl, by simp, by simpa [patB, Hid] using HO.out, ⟨rfl, rfl, rfl, Nat.le_refl _, fun _ _ _ => rfl⟩⟩
  case round =>
    obtain ⟨j, hj, rfl, rfl, h1, h2⟩ := hrel
    by_cases hlt : j < n
    · have q := (h1.out.cellAt j (by omega))
      have hlen : (vb (patB k j ++ xs.drop j)).length = n := by simp [vb, patB_length, HN.out]; omega
      rw [List.getElem?_eq_getElem (by rw [hlen]; exact hlt)] at q
      generalize (vb (patB k j ++ xs.drop j))[j]'(by rw [hlen]; exact hlt) = z at q
      have f := h1.out.frozenAt j
      have hr := mod3 (k + j) (by omega)
      have st := h1.out.stored j (.bool (b3 (k + j)))
      rw [markB_set xs k j (by rw [HN.out]; exact hlt)] at st
      rw [hr] at st
      have ST := Lib.hid st
      clear st hlen hr
      go_wp2
      go_roundw
      case rel => exact ⟨j + 1, by omega, by go_num, by go_num, ST.out.1, h2.out.trans ST.out.2⟩
      case measure => simp [intOf]; omega
    · have : j = n := by omega
      subst this
      have hd : Hid (vb (patB k j ++ xs.drop j) = vb (patB k j)) := by
        show _ = _
        rw [List.drop_of_length_le (by rw [HN.out]; omega), List.append_nil]
      go_wp2
      go_ret
      refine ⟨rfl, ?_, h2.out⟩
      have := h1.out
      rw [hd.out] at this
      exact this
theorem markB_empty (a : Option Addr) (cap : Nat) (k : Int) (w : World) (hk : 0 ≤ k) (hs : k ≤ 4000000000) :
    Calls Tryz.prog 29 #[.slice a 0 cap, .int .i64 k] w fun e w' => e = .returned (.int .i64 k) ∧ w' = w := by
  go_enter Tryz.func29, Tryz.ntmps29
  go_wp2
  go_loop [1, 5] (fun t i => t = .int .i64 k ∧ i = .int .i64 0) (fun _ _ => 0)
  case atStart => exact ⟨rfl, rfl⟩
  case round =>
    obtain ⟨rfl, rfl⟩ := hrel
    go_wp2
    go_ret
    exact ⟨rfl, rfl⟩
theorem markB_any (g : Nat) (v : Value) (k : Int) (xs : List Bool) (w : World) (h : OwnW w g v xs) (hk : 0 ≤ k) (hs : k + xs.length ≤ 4000000000) :
    Calls Tryz.prog 29 #[v, .int .i64 k] w fun e w' => e = .returned (.int .i64 (k + xs.length)) ∧ OwnW w' g v (patB k xs.length) ∧ w.grownBy w' (some g) := by
  rcases h with ⟨a, cap, rfl, rfl⟩ | ⟨hp, cap, rfl, ho⟩
  · refine (markB_empty a cap k w hk (by simp at hs; exact hs)).mono ?_
    rintro e w' ⟨rfl, rfl⟩
    exact ⟨by simp, .inl ⟨_, _, rfl, rfl⟩, grown_refl _ _⟩
  · refine (markB_some g cap _ k xs w rfl hk hs ho).mono ?_
    rintro e w' ⟨rfl, h1, h2⟩
    exact ⟨rfl, .inr ⟨by rw [patB_length]; exact hp, cap, by rw [patB_length], by rw [patB_length]; exact h1⟩, h2⟩
set_option maxHeartbeats 400000 in
theorem heldB_some (b off cap n : Nat) (k : Int) (w : World) (hk : 0 ≤ k) (hs : k + n ≤ 4000000000) (hc : ∀ i, i < n → w.cell? ⟨b, off + i, none⟩ = some (.bool ((patB k n).getD i false))) :
    Calls Tryz.prog 30 #[.slice (some ⟨b, off, none⟩) n cap, .int .i64 k] w fun e w' => e = .returned (.int .i64 (k + n)) ∧ w' = w := by
  have HC := Lib.hid hc
  clear hc
  go_enter Tryz.func30, Tryz.ntmps30
  go_wp2
  go_loop [1, 5] (fun t i => ∃ j : Nat, j ≤ n ∧ i = .int .i64 j ∧ t = .int .i64 (k + j)) (fun _ i => n - (intOf i).toNat)
  case atStart => exact ⟨0, Nat.zero_le _, rfl, by simp⟩
  case round =>
    obtain ⟨j, hj, rfl, rfl⟩ := hrel
    by_cases hlt : j < n
    · have q := HC.out j hlt
      rw [patB_getD k n j hlt] at q
      have hr := mod3 (k + j) (by omega)
      rw [hr] at q
      clear hr
      have ez : (((k + j) % 3 == 0) != ((k + j) % 3 == 0)) = false := by simp
      go_wp2
      go_round
      case rel => exact ⟨j + 1, by omega, by go_num, by go_num⟩
      case measure => simp [intOf]; omega
    · have : j = n := by omega
      subst this
      go_wp2
      go_ret
      exact ⟨rfl, rfl⟩
theorem heldB_empty (a : Option Addr) (cap : Nat) (k : Int) (w : World) (hk : 0 ≤ k) (hs : k ≤ 4000000000) :
    Calls Tryz.prog 30 #[.slice a 0 cap, .int .i64 k] w fun e w' => e = .returned (.int .i64 k) ∧ w' = w := by
  go_enter Tryz.func30, Tryz.ntmps30
  go_wp2
  go_loop [1, 5] (fun t i => t = .int .i64 k ∧ i = .int .i64 0) (fun _ _ => 0)
  case atStart => exact ⟨rfl, rfl⟩
  case round =>
    obtain ⟨rfl, rfl⟩ := hrel
    go_wp2
    go_ret
    exact ⟨rfl, rfl⟩
theorem heldB_any (v : Value) (k : Int) (n : Nat) (w : World) (h : Bools w v (patB k n)) (hk : 0 ≤ k) (hs : k + n ≤ 4000000000) :
    Calls Tryz.prog 30 #[v, .int .i64 k] w fun e w' => e = .returned (.int .i64 (k + n)) ∧ w' = w := by
  rcases h with ⟨a, cap, rfl, h0⟩ | ⟨b, off, cap, rfl, h1, h2, h3, h4⟩
  · have hn : n = 0 := by rw [← patB_length k n, h0]; rfl
    subst hn
    simpa using heldB_empty a cap k w hk (by simp at hs; exact hs)
  · rw [patB_length] at h4 ⊢
    exact heldB_some b off cap n k w hk hs h4
def OwnB (w : World) (ds : List Nat) (v : Value) (xs : List Bool) : Prop := (xs = [] ∧ ds = [] ∧ ∃ a cap, v = .slice a 0 cap) ∨ ∃ d, ds = [d] ∧ 0 < xs.length ∧ OwnW w d v xs
theorem OwnB.bools {w : World} {ds : List Nat} {v : Value} {xs : List Bool} (h : OwnB w ds v xs) : Bools w v xs := by
  rcases h with ⟨rfl, _, a, cap, rfl⟩ | ⟨d, _, _, h⟩
  · exact .inl ⟨a, cap, rfl, rfl⟩
  · exact ownW_bools h
theorem OwnB.keep {w w' : World} {ds : List Nat} {v : Value} {xs : List Bool} (h : OwnB w ds v xs) (hk : ∀ b ∈ ds, w'.heap[b]? = w.heap[b]?) : OwnB w' ds v xs := by
  rcases h with h | ⟨d, rfl, hp, h⟩
  · exact .inl h
  · exact .inr ⟨d, rfl, hp, h.block fun _ => hk d (by simp)⟩
theorem OwnB.lt {w : World} {ds : List Nat} {v : Value} {xs : List Bool} (h : OwnB w ds v xs) : ∀ b ∈ ds, b < w.heap.size := by
  rcases h with ⟨_, rfl, _⟩ | ⟨d, rfl, hp, h⟩
  · intro b hb; cases hb
  · intro b hb; rw [List.mem_singleton.1 hb]; exact ownW_lt h hp
theorem markB {w : World} {ds : List Nat} {v : Value} {xs : List Bool} (h : OwnB w ds v xs) (k : Int) (hk : 0 ≤ k) (hs : k + xs.length ≤ 4000000000) :
    Calls Tryz.prog 29 #[v, .int .i64 k] w fun e w' => e = .returned (.int .i64 (k + xs.length)) ∧ OwnB w' ds v (patB k xs.length) ∧ GrOn ds w w' := by
  rcases h with ⟨rfl, rfl, a, cap, rfl⟩ | ⟨d, rfl, hp, h⟩
  · refine (markB_empty a cap k w hk (by simpa using hs)).mono ?_
    rintro e w' ⟨rfl, rfl⟩
    exact ⟨by simp, .inl ⟨rfl, rfl, a, cap, rfl⟩, GrOn.refl _ _⟩
  · refine (markB_any d v k xs w h hk hs).mono ?_
    rintro e w' ⟨rfl, h1, h2⟩
    exact ⟨rfl, .inr ⟨d, rfl, by rw [patB_length]; exact hp, h1⟩, GrOn.of_grown h2⟩
theorem OwnB.below {w w' : World} {ds : List Nat} {v : Value} {xs : List Bool} (h : OwnB w ds v xs) (hb : Below w.heap.size w w') : OwnB w' ds v xs := h.keep fun b hm => hb.block b (h.lt b hm)
theorem OwnB.other {w w' : World} {ds cs : List Nat} {v : Value} {xs : List Bool} (h : OwnB w ds v xs) (hg : GrOn cs w w') (hd : ∀ b ∈ ds, b ∉ cs) : OwnB w' ds v xs := h.keep fun b hm => hg.same b (h.lt b hm) (hd b hm)
theorem ownW_OwnB {w : World} {g : Nat} {v : Value} {xs : List Bool} (h : OwnW w g v xs) (B : Nat) (hg : B ≤ g) : ∃ bs, OwnB w bs v xs ∧ ∀ b ∈ bs, B ≤ b := by
  by_cases hp : 0 < xs.length
  · exact ⟨[g], .inr ⟨g, rfl, hp, h⟩, fun b hb => by rw [List.mem_singleton.1 hb]; exact hg⟩
  · rcases h with ⟨a, cap, h1, h2⟩ | ⟨h1, _⟩
    · exact ⟨[], .inl ⟨h2, rfl, a, cap, h1⟩, fun b hb => by cases hb⟩
    · omega
def RetB (w : World) (xs : List Bool) (e : Ending) (w' : World) : Prop := ∃ v bs, e = .returned v ∧ OwnB w' bs v xs ∧ (∀ b ∈ bs, w.heap.size ≤ b) ∧ Below w.heap.size w w'
def SeesB (w : World) (xs : List Bool) (e : Ending) (w' : World) : Prop := ∃ v, e = .returned v ∧ Bools w' v xs ∧ Below w.heap.size w w'
theorem RetB.sees {w w' : World} {xs : List Bool} {e : Ending} (h : RetB w xs e w') : SeesB w xs e w' := by
  obtain ⟨v, bs, rfl, ho, hg, hb⟩ := h
  exact ⟨v, rfl, ho.bools, hb⟩
theorem eqB_any (v v' : Value) (xs : List Bool) (w : World) (h : Bools w v xs) (h' : Bools w v' xs) : Calls Tryz.prog 27 #[v, v'] w fun e w' => e = .returned (.bool true) ∧ Below w.heap.size w w' :=
  (eqBoolS_any v v' xs xs w h h').mono fun e w' ⟨h1, q, h2⟩ => by subst h1 h2; exact ⟨by simp [eqBB], below_drewN (Below.refl _ _) q⟩
theorem markBZ {w : World} {v : Value} {xs : List Bool} {bs : List Nat} {Z : Nat} (h : OwnB w bs v xs) (hz : xs.length = Z) (k : Int) (hk : 0 ≤ k) (hs : k + Z ≤ 4000000000) :
    Calls Tryz.prog 29 #[v, .int .i64 k] w fun e w' => e = .returned (.int .i64 (k + Z)) ∧ OwnB w' bs v (patB k Z) ∧ GrOn bs w w' := by subst hz; exact markB h k hk hs
theorem heldBZ {w : World} {v : Value} {bs : List Nat} {Z : Nat} {k : Int} (h : OwnB w bs v (patB k Z)) (hk : 0 ≤ k) (hs : k + Z ≤ 4000000000) :
    Calls Tryz.prog 30 #[v, .int .i64 k] w fun e w' => e = .returned (.int .i64 (k + Z)) ∧ w' = w := heldB_any v k Z w h.bools hk hs
theorem ownW_I {w : World} {g : Nat} {v : Value} {xs : List Bool} (h : OwnW w g v xs) (B : Nat) (hg : B ≤ g) : ∃ bs, OwnB w bs v xs ∧ bs.Nodup ∧ ∀ b ∈ bs, B ≤ b := by
  by_cases hp : 0 < xs.length
  · exact ⟨[g], .inr ⟨g, rfl, hp, h⟩, by simp, fun b hb => by rw [List.mem_singleton.1 hb]; exact hg⟩
  · rcases h with ⟨a, cap, h1, h2⟩ | ⟨h1, _⟩
    · exact ⟨[], .inl ⟨h2, rfl, a, cap, h1⟩, List.nodup_nil, fun b hb => by cases hb⟩
    · omega
end Go.Proofs.YtghgiefciijoeaaGreatDoor
namespace Go.Proofs.YtghgiefciijoeaaGreatDoor
open Go.RowKit
set_option linter.unusedVariables false
set_option linter.unusedSimpArgs false
theorem Tryz.info4 : (Tryz.prog.info? 4).map (fun i => (i.zero, i.size, i.bytes)) = some (some (.bool false), 1, 1) := by kernel_rfl
theorem src_bool {w : World} (x : Bool) (e : TypeId) : Src (w.alloc (.cells #[.bool x] e)) 1 (.slice (some ⟨w.heap.size, 0, none⟩) 1 1) 1 [.bool x] :=
  .inr ⟨_, _, rfl, rfl, fun j u hu => by
    rw [add_flat, Nat.zero_add, (Blk.new w _ e).cell j]
    exact hu⟩
theorem b1_le {w w' : World} (h : Below w.heap.size w w') : w.heap.size ≤ w'.heap.size := h.size
theorem ret_row {w wr : World} {K m : Nat} {v : Value} {xs : List Bool} (hl : xs.length = m) (hK : w.heap.size ≤ K) (ho : wr.ownsRow K 4 1 v m (vb xs)) (hb : Below w.heap.size w wr) : RetB w xs (.returned v) wr := by
  obtain ⟨g, hg, hown⟩ := ownW_of_row hl ho
  obtain ⟨bs, hI, _, hbs⟩ := ownW_I hown K hg
  exact ⟨v, bs, rfl, hI, fun b hb => by have := hbs b hb; omega, hb⟩
set_option maxRecDepth 100000 in
set_option maxHeartbeats 6400000 in
theorem l5all_any (v : Value) (l : List ActM) (n : Nat) (w : World) (h : Acts w v l) (hs : setOkM l n = true) : Calls Tryz.prog 60 #[v] w (RetB w ((List.range l.length).map (countsK l))) := by
  obtain ⟨a, cap, rfl⟩ := acts_len h
  obtain ⟨i2, hi, hz0, hz1, hz2⟩ := info_parts Tryz.info4
  have h60 := (setOk_all hs).2.2.1
  have CS := Lib.hid (fun k (hk : k < l.length) W (hW : Below w.heap.size w W) => l5counts_any _ l n k W (h.below hW) hs hk)
  generalize countsK l = F at *
  generalize l.length = m at *
  clear h hs
  go_enter Tryz.func60, Tryz.ntmps60
  go_wp2_with fail
  go_loopw [3, 4] (fun sv i wr => ∃ (k : Nat) (v : Value), v = sv ∧ k ≤ m ∧ i = .int .i64 k ∧ Hid (wr.ownsRow w.heap.size 4 1 v k (vb ((List.range k).map F))) ∧ Hid (Below w.heap.size w wr)) (fun _ i _ => m - (intOf i).toNat)
  case atStart => exact ⟨0, _, rfl, Nat.zero_le _, rfl, World.ownsRow_nil _ _ _ _, Below.refl _ _⟩
  case round =>
    obtain ⟨k, v, hv, hk, rfl, ho, hbel⟩ := hrel
    subst hv
    by_cases hlt : k < m
    · have C := Lib.hid (CS.out k hlt _ hbel.out)
      go_wp2_with fail
      refine C.out.mono ?_
      rintro e w2 ⟨rfl, b2⟩
      clear C
      have O2 := Lib.hid (row_grown (r := none) ho.out (below_grown b2 none) (by simp))
      have B2 := Lib.hid (hbel.out.trans (b2.mono hbel.out.size))
      obtain ⟨x, hx⟩ : ∃ x, x = F k := ⟨_, rfl⟩
      rw [← hx]
      have HX := Lib.hid hx
      obtain ⟨w4, hw4⟩ : ∃ W, W = w2 := ⟨_, rfl⟩
      rw [← hw4] at O2 B2 ⊢
      clear hw4 b2 hx
      have O3 := Lib.hid (row_grown (r := none) O2.out (grown_alloc w4 (.cells #[.bool x] 4) none) (by simp))
      have B3 := Lib.hid (B2.out.alloc B2.out.size (.cells #[.bool x] 4))
      have SR := Lib.hid (src_bool (w := w4) x 4)
      have HM1 : Hid (k + 1 ≤ maxLen) := by show _ ≤ _; unfold maxLen; omega
      have HM2 : Hid ((k + 1) * 1 ≤ 140737488355328) := by show _ ≤ _; omega
      have hKB : Hid (w.heap.size ≤ (w4.alloc (.cells #[.bool x] 4)).heap.size) := by have := B3.out.size; show _ ≤ _; omega
      go_wp2_with (at_builtin; refine wpList_app rfl (.tmp 11) (.tmp 15) 36 rfl w.heap.size 4 i2 _ 1 1 Tryz.underlying36 hi hz0 hz1 hz2 rfl (by decide) v (.slice (some ⟨w4.heap.size, 0, none⟩) 1 1) k 1 (vb ((List.range k).map F)) [.bool x] rfl rfl O3.out SR.out (by simp [Value.oneCell']) HM1.out HM2.out hKB.out ?_)
      intro v2 w5 hown2 hgrow2 _
      have O4 : Hid (w5.ownsRow w.heap.size 4 1 v2 (k + 1) (vb ((List.range (k + 1)).map F))) := by
        show World.ownsRow _ _ _ _ _ _ _
        rw [List.range_succ, List.map_append, show vb ((List.range k).map F ++ [k].map F) = vb ((List.range k).map F) ++ [.bool x] by simp [vb, HX.out]]
        exact hown2
      have B4 := Lib.hid (owned_block B3.out O3.out hgrow2 B3.out.size (Nat.le_refl _))
      clear hown2 hgrow2
      go_wp2
      go_roundw
      case rel => exact ⟨k + 1, _, rfl, by omega, by go_num, O4.out, B4.out⟩
      case measure => simp [intOf]; omega
    · have : k = m := by omega
      subst this
      go_wp2
      go_ret
      exact ret_row (by simp) (Nat.le_refl _) ho.out hbel.out
set_option maxRecDepth 100000 in
theorem specVerdicts_any (v : Value) (l : List ActM) (n : Int) (w : World) (h : Acts w v l) (hn : I64 n) : Calls Tryz.prog 19 #[v, .int .i64 n] w (RetB w (verdictsM l n)) := by
  have CS := Lib.hid (setOk_any v l n w h hn)
  have HA := Lib.hid h
  obtain ⟨x, c, rfl⟩ := acts_len h
  obtain ⟨R, hR⟩ : ∃ R, R = verdictsM l n := ⟨_, rfl⟩
  rw [← hR]
  have HR := Lib.hid hR
  unfold verdictsM at HR
  clear h hR
  obtain ⟨G, hG⟩ : ∃ G, G = setOkM l n := ⟨_, rfl⟩
  rw [← hG] at CS HR
  have HG := Lib.hid hG
  clear hG
  go_enter Tryz.func19, Tryz.ntmps19
  go_wp2_with fail
  refine CS.out.mono ?_
  rintro e w1 ⟨rfl, b1⟩
  have B1 := Lib.hid b1
  clear CS b1
  cases G
  · go_wp2_with fail
    go_ret
    exact ⟨_, [], rfl, .inl ⟨by rw [HR.out]; rfl, rfl, none, 0, rfl⟩, (fun b hb => nomatch hb), B1.out⟩
  · obtain ⟨q, rfl, _⟩ := setOk_bounds HG.out.symm
    have CA := Lib.hid (l5all_any _ l q w1 (HA.out.below B1.out) HG.out.symm)
    clear HG HA
    go_wp2_with fail
    refine CA.out.mono ?_
    rintro e w2 ⟨v2, bs2, rfl, o2, g2, b2⟩
    have Q := Lib.hid (And.intro o2 (And.intro g2 (B1.out.trans (b2.mono B1.out.size))))
    have Z := Lib.hid (b1_le B1.out)
    clear CA o2 g2 b2
    go_wp2_with fail
    go_ret
    exact ⟨_, bs2, rfl, by rw [HR.out]; exact Q.out.1, fun b hb => Nat.le_trans Z.out (Q.out.2.1 b hb), Q.out.2.2⟩
set_option maxRecDepth 100000 in
set_option maxHeartbeats 6400000 in
theorem implVerdicts_any (v : Value) (l : List ActM) (n : Int) (w : World) (h : Acts w v l) (hn : I64 n) (hg : w.cell? ⟨0, 0, none⟩ = some (.iface 200 (.agg #[.pointer (some ⟨1, 106, none⟩)]))) :
    Calls Tryz.prog 15 #[v, .int .i64 n] w (RetB w (verdictsM l n)) := by
  obtain ⟨ts, rfl, h⟩ := h
  obtain ⟨a, cap, rfl⟩ := actsT_len h
  obtain ⟨i2, hi, hz0, hz1, hz2⟩ := info_parts Tryz.info4
  have hmx := actsT_max h
  have hlt0 : 0 < w.heap.size := by
    rcases Nat.eq_zero_or_pos w.heap.size with h0 | h
    · simp [World.cell?, h0] at hg
    · exact h
  have RS := Lib.hid (readSet_any _ ts n w h hn)
  have CC := Lib.hid (fun (q mb : Nat) (hq : n = q) (hs : setOkM (ts.map ActT.a) q = true) j (hj : j < ts.length) W (hW : Below w.heap.size w W) => counts_any a cap mb q ts W j (h.below hW) hs hj ((hW.cell (p := ⟨0, 0, none⟩) hlt0).trans hg))
  have H60 := Lib.hid (fun (hs : setOkM (ts.map ActT.a) n = true) => (setOk_all hs).2.2.1)
  have N1 := Lib.hid (fun (hs : setOkM (ts.map ActT.a) n = true) => setOk_bounds hs)
  obtain ⟨R, hR⟩ : ∃ R, R = verdictsM (ts.map ActT.a) n := ⟨_, rfl⟩
  rw [← hR]
  have HR := Lib.hid hR
  unfold SetRead setVal noSet at RS
  unfold verdictsM at HR
  rw [List.length_map] at HR
  simp only [List.length_map] at H60
  clear h hR hlt0 hg
  generalize countsK (ts.map ActT.a) = F at *
  obtain ⟨m, hm⟩ : ∃ m, m = ts.length := ⟨_, rfl⟩
  rw [← hm] at RS CC HR H60 hmx ⊢
  clear hm
  generalize (cntM (ts.map ActT.a) 0 : Int) = c0 at *
  generalize (cntM (ts.map ActT.a) 1 : Int) = c1 at *
  generalize (cntM (ts.map ActT.a) 2 : Int) = c2 at *
  generalize (cntM (ts.map ActT.a) 3 : Int) = c3 at *
  go_enter Tryz.func15, Tryz.ntmps15
  go_wp2_with fail
  refine RS.out.mono ?_
  rintro e w2 ⟨b2, (⟨hs, mb, _, rfl, _⟩ | ⟨hs, rfl⟩)⟩
  · have h60 := H60.out hs
    obtain ⟨q, rfl, _⟩ := N1.out hs
    have CX := Lib.hid (CC.out q mb rfl hs)
    rw [hs] at HR
    have HR2 := Lib.hid (show R = (List.range m).map F from HR.out)
    have B2 := Lib.hid b2
    clear b2 RS hs HR CC H60 N1
    obtain ⟨S, hS⟩ : ∃ P, P = w2.heap.size := ⟨_, rfl⟩
    obtain ⟨W3, hW3⟩ : ∃ W, W = w2.alloc (.cells #[.slice a m cap, .map (some mb), .int .i64 q, .int .i64 c0, .int .i64 c1, .int .i64 c2, .int .i64 c3] 73) := ⟨_, rfl⟩
    have KS := Lib.hid (show Blk W3 S [.slice a m cap, .map (some mb), .int .i64 q, .int .i64 c0, .int .i64 c1, .int .i64 c2, .int .i64 c3] from by rw [hW3, hS]; exact Blk.new w2 _ _)
    have B3 := Lib.hid (show Below w.heap.size w W3 from by rw [hW3]; exact B2.out.alloc B2.out.size _)
    have HSW := Lib.hid (show w.heap.size ≤ S from by rw [hS]; exact B2.out.size)
    go_upto_region 2 with (fail)
    rw [← hS, ← hW3]
    clear hS hW3 B2
    have c := KS.out.cell
    go_wp2_with fail
    clear c
    go_loopw [7, 18] (fun sv i wr => ∃ (k : Nat) (v : Value), v = sv ∧ k ≤ m ∧ i = .int .i64 k ∧ Hid (wr.ownsRow (S + 1) 4 1 v k (vb ((List.range k).map F))) ∧ Hid (Blk wr S [.slice a m cap, .map (some mb), .int .i64 q, .int .i64 c0, .int .i64 c1, .int .i64 c2, .int .i64 c3]) ∧ Hid (Below w.heap.size w wr)) (fun _ i _ => m - (intOf i).toNat)
    case atStart => exact ⟨0, _, rfl, Nat.zero_le _, rfl, World.ownsRow_nil _ _ _ _, KS.out, B3.out⟩
    case round =>
      obtain ⟨k, v, hv, hk, rfl, ho, hks, hbel⟩ := hrel
      subst hv
      clear KS B3
      by_cases hlt : k < m
      · have C := Lib.hid (CX.out k hlt _ hbel.out)
        have c := hks.out.cell
        go_wp2_with fail
        refine C.out.mono ?_
        rintro e w2 ⟨rfl, b2⟩
        clear C c
        have O2 := Lib.hid (row_grown (r := none) ho.out (below_grown b2 none) (by simp))
        have B2 := Lib.hid (hbel.out.trans (b2.mono hbel.out.size))
        have K2 := Lib.hid (hks.out.below b2 hks.out.lt)
        obtain ⟨x, hx⟩ : ∃ x, x = F k := ⟨_, rfl⟩
        rw [← hx]
        have HX := Lib.hid hx
        obtain ⟨w4, hw4⟩ : ∃ W, W = w2 := ⟨_, rfl⟩
        rw [← hw4] at O2 B2 K2 ⊢
        clear hw4 b2 hx
        have O3 := Lib.hid (row_grown (r := none) O2.out (grown_alloc w4 (.cells #[.bool x] 4) none) (by simp))
        have B3 := Lib.hid (B2.out.alloc B2.out.size (.cells #[.bool x] 4))
        have K3 := Lib.hid (K2.out.alloc (.cells #[.bool x] 4))
        have SR := Lib.hid (src_bool (w := w4) x 4)
        have HM1 : Hid (k + 1 ≤ maxLen) := by show _ ≤ _; unfold maxLen; omega
        have HM2 : Hid ((k + 1) * 1 ≤ 140737488355328) := by show _ ≤ _; omega
        have hKB : Hid ((S + 1) ≤ (w4.alloc (.cells #[.bool x] 4)).heap.size) := by have := B3.out.size; have := K3.out.lt; show _ ≤ _; omega
        go_wp2_with (at_builtin; refine wpList_app rfl (.tmp 21) (.tmp 25) 36 rfl (S + 1) 4 i2 _ 1 1 Tryz.underlying36 hi hz0 hz1 hz2 rfl (by decide) v (.slice (some ⟨w4.heap.size, 0, none⟩) 1 1) k 1 (vb ((List.range k).map F)) [.bool x] rfl rfl O3.out SR.out (by simp [Value.oneCell']) HM1.out HM2.out hKB.out ?_)
        intro v2 w5 hown2 hgrow2 _
        have O4 : Hid (w5.ownsRow (S + 1) 4 1 v2 (k + 1) (vb ((List.range (k + 1)).map F))) := by
          show World.ownsRow _ _ _ _ _ _ _
          rw [List.range_succ, List.map_append, show vb ((List.range k).map F ++ [k].map F) = vb ((List.range k).map F) ++ [.bool x] by simp [vb, HX.out]]
          exact hown2
        have B4 := Lib.hid (owned_block B3.out O3.out hgrow2 B3.out.size (by have := HSW.out; omega))
        have K4 := Lib.hid (K3.out.same hgrow2.size (hgrow2.block S K3.out.lt (fun e => by have := own_block_ge O3.out _ e.symm; omega)))
        clear hown2 hgrow2
        go_wp2
        go_roundw
        case rel => exact ⟨k + 1, _, rfl, by omega, by go_num, O4.out, K4.out, B4.out⟩
        case measure => simp [intOf]; omega
      · have : k = m := by omega
        subst this
        go_wp2
        go_ret
        rw [HR2.out]
        exact ret_row (by simp) (by have := HSW.out; omega) ho.out hbel.out
  · rw [hs] at HR
    have HR2 := Lib.hid (show R = [] from HR.out)
    have B2 := Lib.hid b2
    clear b2 RS hs HR CC H60 N1
    obtain ⟨S, hS⟩ : ∃ P, P = w2.heap.size := ⟨_, rfl⟩
    obtain ⟨W3, hW3⟩ : ∃ W, W = w2.alloc (.cells #[.slice none 0 0, .map none, .int .i64 0, .int .i64 0, .int .i64 0, .int .i64 0, .int .i64 0] 73) := ⟨_, rfl⟩
    have KS := Lib.hid (show Blk W3 S [.slice none 0 0, .map none, .int .i64 0, .int .i64 0, .int .i64 0, .int .i64 0, .int .i64 0] from by rw [hW3, hS]; exact Blk.new w2 _ _)
    have B3 := Lib.hid (show Below w.heap.size w W3 from by rw [hW3]; exact B2.out.alloc B2.out.size _)
    go_upto_region 2 with (fail)
    rw [← hS, ← hW3]
    clear hS hW3 B2
    have c := KS.out.cell
    go_wp2_with fail
    clear c
    go_loopw [7, 18] (fun sv i wr => sv = .slice none 0 0 ∧ i = .int .i64 0 ∧ Hid (Below w.heap.size w wr)) (fun _ i _ => 0)
    case atStart => exact ⟨rfl, rfl, B3.out⟩
    case round =>
      obtain ⟨rfl, rfl, hbel⟩ := hrel
      go_wp2
      go_ret
      exact ⟨_, [], rfl, .inl ⟨HR2.out, rfl, none, 0, rfl⟩, (fun b hb => nomatch hb), hbel.out⟩
end Go.Proofs.YtghgiefciijoeaaGreatDoor
namespace Go.Proofs.YtghgiefciijoeaaGreatDoor
open Go.RowKit
set_option linter.unusedVariables false
set_option linter.unusedSimpArgs false
theorem verdictsM_len (l : List ActM) (n : Int) : (verdictsM l n).length ≤ 60 := by
  unfold verdictsM
  split
  · rename_i h
    simpa using (setOk_all h).2.2.1
  · simp
set_option maxRecDepth 100000 in
set_option maxHeartbeats 12800000 in
theorem law_verdicts (v0 : Value) (l0 : List ActM) (n1 : Int) (w0 : World) (h0 : Acts w0 v0 l0) (h1 : -9223372036854775808 ≤ n1 ∧ n1 ≤ 9223372036854775807) (hTab : Tab w0) :
    Calls Tryz.prog 7 #[v0, .int .i64 n1] w0 fun e w' => e = .returned (.bool true) ∧ Below w0.heap.size w0 w' := by
  have H0 := Lib.hid h0
  have HTAB := Lib.hid hTab
  obtain ⟨M0, hM0⟩ : ∃ M, M = verdictsM l0 n1 := ⟨_, rfl⟩
  have CS := Lib.hid (fun W u0 (h0 : Acts W u0 l0) (s0 : SmallL l0) => specVerdicts_any u0 l0 n1 W h0 h1)
  have CI := Lib.hid (fun W u0 (h0 : Acts W u0 l0) (s0 : SmallL l0) (hT : Tab W) => implVerdicts_any u0 l0 n1 W h0 h1 hT)
  simp only [← hM0] at CS CI
  have HB0 : M0.length ≤ 60 := by rw [hM0]; exact verdictsM_len _ _
  obtain ⟨Y0, hY0⟩ : ∃ Y, M0.length = Y := ⟨_, rfl⟩
  rw [hY0] at HB0
  have HY0 := Lib.hid hY0
  clear hY0
  clear hM0 h0
  have B0 := Lib.hid (Below.refl w0.heap.size w0)
  go_enter Tryz.func7, Tryz.ntmps7
  go_wp2_with fail
  refine (szActS_any _ l0 1048576 _ (H0.out.below B0.out) (by omega) (by omega)).mono ?_
  rintro e w1 ⟨r0, rfl, ra0, rb0, rs0, b1⟩
  have B1 := Lib.hid (B0.out.trans ((b1).mono B0.out.size))
  have RS0 := Lib.hid rs0
  clear b1 rs0
  by_cases hr0 : r0 < 0
  · go_wp2_with fail
    go_ret
    exact ⟨rfl, B1.out⟩
  have SM0 := Lib.hid (RS0.out (by omega)).1
  have hz0 : szL l0 ≤ 9437184 := by have h1 := (RS0.out (by omega)).2; have h2 := szL_tot l0; omega
  obtain ⟨Z0, hZ0⟩ : ∃ Z, szL l0 = Z := ⟨_, rfl⟩
  rw [hZ0] at hz0
  have HZ0 := Lib.hid hZ0
  clear hZ0
  go_wp2_with fail
  refine (toL_any _ l0 _ (H0.out.below B1.out) SM0.out).mono ?_
  rintro e w2 ⟨us0, ss0, rfl, os0, gs0, b2⟩
  have Os0_2 := Lib.hid os0
  have B2 := Lib.hid (B1.out.trans ((b2).mono B1.out.size))
  clear b2 gs0 os0
  go_wp2_with fail
  refine (CS.out _ _ Os0_2.out.acts SM0.out).mono ?_
  rintro e w3 ⟨uS, sS, rfl, oS, gS, b3⟩
  have B3 := Lib.hid (B2.out.trans ((b3).mono B2.out.size))
  have S := Lib.hid oS.bools
  clear Os0_2 b3 gS oS
  have E3 := Lib.hid (Below.refl w3.heap.size w3)
  go_wp2_with fail
  refine (toL_any _ l0 _ (H0.out.below B3.out) SM0.out).mono ?_
  rintro e w4 ⟨ux0, sx0, rfl, ox0, gx0, b4⟩
  have Ox0_4 := Lib.hid ox0
  have Gx0 := Lib.hid (fun b hb => Nat.le_trans E3.out.size (gx0 b hb))
  have B4 := Lib.hid (B3.out.trans ((b4).mono B3.out.size))
  have E4 := Lib.hid (E3.out.trans ((b4).mono E3.out.size))
  clear b4 gx0 ox0
  go_wp2_with fail
  refine (CI.out _ _ Ox0_4.out.acts SM0.out (HTAB.out.below B4.out)).mono ?_
  rintro e w5 ⟨ug, sg, rfl, og, gg, b5⟩
  have Og_5 := Lib.hid og
  have Dx0_g := Lib.hid (show ∀ b ∈ sx0, b ∉ sg from fun b hb hc => by have h1 := Ox0_4.out.lt b hb; have h2 := gg b hc; omega)
  have Dg_x0 := Lib.hid (show ∀ b ∈ sg, b ∉ sx0 from fun b hc hb => by have h1 := Ox0_4.out.lt b hb; have h2 := gg b hc; omega)
  have Gg := Lib.hid (fun b hb => Nat.le_trans E4.out.size (gg b hb))
  have B5 := Lib.hid (B4.out.trans ((b5).mono B4.out.size))
  have E5 := Lib.hid (E4.out.trans ((b5).mono E4.out.size))
  have Ox0_5 := Lib.hid (Ox0_4.out.below (b5))
  clear Ox0_4 b5 gg og
  go_wp2_with fail
  refine (eqB_any _ _ M0 _ Og_5.out.bools (S.out.below (B := 0) E5.out)).mono ?_
  rintro e w6 ⟨rfl, b6⟩
  have B6 := Lib.hid (B5.out.trans ((b6).mono B5.out.size))
  have E6 := Lib.hid (E5.out.trans ((b6).mono E5.out.size))
  have Ox0_6 := Lib.hid (Ox0_5.out.below (b6))
  have Og_6 := Lib.hid (Og_5.out.below (b6))
  clear Ox0_5 Og_5 b6
  go_wp2_with fail
  refine (toL_any _ l0 _ (H0.out.below B6.out) SM0.out).mono ?_
  rintro e w7 ⟨uy0, sy0, rfl, oy0, gy0, b7⟩
  have Oy0_7 := Lib.hid oy0
  have Dx0_y0 := Lib.hid (show ∀ b ∈ sx0, b ∉ sy0 from fun b hb hc => by have h1 := Ox0_6.out.lt b hb; have h2 := gy0 b hc; omega)
  have Dy0_x0 := Lib.hid (show ∀ b ∈ sy0, b ∉ sx0 from fun b hc hb => by have h1 := Ox0_6.out.lt b hb; have h2 := gy0 b hc; omega)
  have Dg_y0 := Lib.hid (show ∀ b ∈ sg, b ∉ sy0 from fun b hb hc => by have h1 := Og_6.out.lt b hb; have h2 := gy0 b hc; omega)
  have Dy0_g := Lib.hid (show ∀ b ∈ sy0, b ∉ sg from fun b hc hb => by have h1 := Og_6.out.lt b hb; have h2 := gy0 b hc; omega)
  have Gy0 := Lib.hid (fun b hb => Nat.le_trans E6.out.size (gy0 b hb))
  have B7 := Lib.hid (B6.out.trans ((b7).mono B6.out.size))
  have E7 := Lib.hid (E6.out.trans ((b7).mono E6.out.size))
  have Ox0_7 := Lib.hid (Ox0_6.out.below (b7))
  have Og_7 := Lib.hid (Og_6.out.below (b7))
  clear Ox0_6 Og_6 b7 gy0 oy0
  go_wp2_with fail
  refine (eqActS_any _ _ l0 _ Ox0_7.out.acts Oy0_7.out.acts).mono ?_
  rintro e w8 ⟨rfl, b8⟩
  have B8 := Lib.hid (B7.out.trans ((b8).mono B7.out.size))
  have E8 := Lib.hid (E7.out.trans ((b8).mono E7.out.size))
  have Ox0_8 := Lib.hid (Ox0_7.out.below (b8))
  have Og_8 := Lib.hid (Og_7.out.below (b8))
  have Oy0_8 := Lib.hid (Oy0_7.out.below (b8))
  clear Ox0_7 Og_7 Oy0_7 b8
  clear Oy0_8
  go_wp2_with fail
  refine (markLZ Ox0_8.out HZ0.out 1 (by omega) (by omega)).mono ?_
  rintro e w9 ⟨rfl, o9, g9⟩
  have Ox0_9 := Lib.hid o9
  have Og_9 := Lib.hid (Og_8.out.other g9 Dg_x0.out)
  have bE := g9.below Gx0.out E8.out.size
  have E9 := Lib.hid (E8.out.trans bE)
  have B9 := Lib.hid (B3.out.trans (E9.out.mono B3.out.size))
  clear Ox0_8 Og_8 bE o9 g9
  have kk4 : decide ((1 + (Z0 : Int)) < 0) = false := by simp; omega
  go_wp2_with fail
  refine (eqB_any _ _ M0 _ Og_9.out.bools (S.out.below (B := 0) E9.out)).mono ?_
  rintro e w10 ⟨rfl, b10⟩
  have B10 := Lib.hid (B9.out.trans ((b10).mono B9.out.size))
  have E10 := Lib.hid (E9.out.trans ((b10).mono E9.out.size))
  have Ox0_10 := Lib.hid (Ox0_9.out.below (b10))
  have Og_10 := Lib.hid (Og_9.out.below (b10))
  clear Ox0_9 Og_9 b10
  go_wp2_with fail
  refine (markBZ Og_10.out HY0.out 1 (by omega) (by omega)).mono ?_
  rintro e w11 ⟨rfl, o11, g11⟩
  have Og_11 := Lib.hid o11
  have Ox0_11 := Lib.hid (Ox0_10.out.other g11 Dx0_g.out)
  have bE := g11.below Gg.out E10.out.size
  have E11 := Lib.hid (E10.out.trans bE)
  have B11 := Lib.hid (B3.out.trans (E11.out.mono B3.out.size))
  clear Ox0_10 Og_10 bE o11 g11
  go_wp2_with fail
  refine (heldBZ Og_11.out (by omega) (by omega)).mono ?_
  rintro e wq ⟨rfl, hq⟩
  subst wq
  skip
  have kk5 : decide ((1 + (Y0 : Int)) < 0) = false := by simp; omega
  have kq6 : ((1 + (Y0 : Int)) == (1 + (Y0 : Int))) = true := by simp
  have kp6 : ((1 + (Y0 : Int)) != (1 + (Y0 : Int))) = false := by simp
  go_wp2_with fail
  refine (toL_any _ l0 _ (H0.out.below B11.out) SM0.out).mono ?_
  rintro e w12 ⟨uz0, sz0, rfl, oz0, gz0, b12⟩
  have Oz0_12 := Lib.hid oz0
  have Dx0_z0 := Lib.hid (show ∀ b ∈ sx0, b ∉ sz0 from fun b hb hc => by have h1 := Ox0_11.out.lt b hb; have h2 := gz0 b hc; omega)
  have Dz0_x0 := Lib.hid (show ∀ b ∈ sz0, b ∉ sx0 from fun b hc hb => by have h1 := Ox0_11.out.lt b hb; have h2 := gz0 b hc; omega)
  have Dg_z0 := Lib.hid (show ∀ b ∈ sg, b ∉ sz0 from fun b hb hc => by have h1 := Og_11.out.lt b hb; have h2 := gz0 b hc; omega)
  have Dz0_g := Lib.hid (show ∀ b ∈ sz0, b ∉ sg from fun b hc hb => by have h1 := Og_11.out.lt b hb; have h2 := gz0 b hc; omega)
  have Gz0 := Lib.hid (fun b hb => Nat.le_trans E11.out.size (gz0 b hb))
  have B12 := Lib.hid (B11.out.trans ((b12).mono B11.out.size))
  have E12 := Lib.hid (E11.out.trans ((b12).mono E11.out.size))
  have Ox0_12 := Lib.hid (Ox0_11.out.below (b12))
  have Og_12 := Lib.hid (Og_11.out.below (b12))
  clear Ox0_11 Og_11 b12 gz0 oz0
  go_wp2_with fail
  refine (CI.out _ _ Oz0_12.out.acts SM0.out (HTAB.out.below B12.out)).mono ?_
  rintro e w13 ⟨uh, sh, rfl, oh, gh, b13⟩
  have Oh_13 := Lib.hid oh
  have Dx0_h := Lib.hid (show ∀ b ∈ sx0, b ∉ sh from fun b hb hc => by have h1 := Ox0_12.out.lt b hb; have h2 := gh b hc; omega)
  have Dh_x0 := Lib.hid (show ∀ b ∈ sh, b ∉ sx0 from fun b hc hb => by have h1 := Ox0_12.out.lt b hb; have h2 := gh b hc; omega)
  have Dg_h := Lib.hid (show ∀ b ∈ sg, b ∉ sh from fun b hb hc => by have h1 := Og_12.out.lt b hb; have h2 := gh b hc; omega)
  have Dh_g := Lib.hid (show ∀ b ∈ sh, b ∉ sg from fun b hc hb => by have h1 := Og_12.out.lt b hb; have h2 := gh b hc; omega)
  have Dz0_h := Lib.hid (show ∀ b ∈ sz0, b ∉ sh from fun b hb hc => by have h1 := Oz0_12.out.lt b hb; have h2 := gh b hc; omega)
  have Dh_z0 := Lib.hid (show ∀ b ∈ sh, b ∉ sz0 from fun b hc hb => by have h1 := Oz0_12.out.lt b hb; have h2 := gh b hc; omega)
  have Gh := Lib.hid (fun b hb => Nat.le_trans E12.out.size (gh b hb))
  have B13 := Lib.hid (B12.out.trans ((b13).mono B12.out.size))
  have E13 := Lib.hid (E12.out.trans ((b13).mono E12.out.size))
  have Ox0_13 := Lib.hid (Ox0_12.out.below (b13))
  have Og_13 := Lib.hid (Og_12.out.below (b13))
  have Oz0_13 := Lib.hid (Oz0_12.out.below (b13))
  clear Ox0_12 Og_12 Oz0_12 b13 gh oh
  clear Oz0_13
  go_wp2_with fail
  refine (eqB_any _ _ M0 _ Oh_13.out.bools (S.out.below (B := 0) E13.out)).mono ?_
  rintro e w14 ⟨rfl, b14⟩
  have B14 := Lib.hid (B13.out.trans ((b14).mono B13.out.size))
  have E14 := Lib.hid (E13.out.trans ((b14).mono E13.out.size))
  have Ox0_14 := Lib.hid (Ox0_13.out.below (b14))
  have Og_14 := Lib.hid (Og_13.out.below (b14))
  have Oh_14 := Lib.hid (Oh_13.out.below (b14))
  clear Ox0_13 Og_13 Oh_13 b14
  go_wp2_with fail
  refine (heldBZ Og_14.out (by omega) (by omega)).mono ?_
  rintro e wq ⟨rfl, hq⟩
  subst wq
  skip
  have kk8 : decide ((1 + (Y0 : Int)) < 0) = false := by simp; omega
  have kq9 : ((1 + (Y0 : Int)) == (1 + (Y0 : Int))) = true := by simp
  have kp9 : ((1 + (Y0 : Int)) != (1 + (Y0 : Int))) = false := by simp
  go_wp2_with fail
  go_ret
  exact ⟨rfl, B14.out⟩
end Go.Proofs.YtghgiefciijoeaaGreatDoor
