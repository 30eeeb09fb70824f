/- MA, MB, AM. -/
import Derived.Test.YtkcfcmigcphjlaaGreatRows
import Derived.WalkKit
import Derived.WalkSpells
import Derived.WalkLawsBesides
import Derived.BigQuiet
import Derived.Deep.QuietTactic
import Derived.ProofKit
import Derived.OpenShut
import Derived.Below
import Derived.Lib.Hide
import Derived.Laws.MakeOwn
import Derived.WalkSmall
import Derived.Deep.RegionWith
import Derived.Lib.SmallJoins
import Derived.Deep.Slices
import Derived.Deep.Fields
import Derived.ChangeSame












namespace Go.Proofs.YtkcfcmigcphjlaaGreat
open Go.RowKit
set_option linter.unusedVariables false

theorem Tryz.info3 : (Tryz.prog.info? 3).map (fun i => (i.zero, i.size, i.bytes)) = some (some (.int .i64 0), 1, 8) := by kernel_rfl

/-- v is a slice that reads as the ints xs -/
def Ints (w : World) (v : Value) (xs : List Int) : Prop :=
  (∃ a cap, v = .slice a 0 cap ∧ xs = []) ∨
  ∃ b off cap, v = .slice (some ⟨b, off, none⟩) xs.length cap ∧ b < w.heap.size ∧ xs.length ≤ cap ∧ cap ≤ maxLen ∧
    ∀ i, i < xs.length → w.cell? ⟨b, off + i, none⟩ = some (.int .i64 (xs.getD i 0))

theorem Ints.below {w w' : World} {v : Value} {xs : List Int} {B : Nat} (h : Ints w v xs) (hb : Below w.heap.size w w') : Ints w' v xs := by
  rcases h with h | ⟨b, off, cap, rfl, h1, h2, h3, h4⟩
  · exact .inl h
  · refine .inr ⟨b, off, cap, rfl, Nat.lt_of_lt_of_le h1 hb.size, h2, h3, fun i hi => ?_⟩
    rw [← h4 i hi]
    exact hb.cell (p := ⟨b, off + i, none⟩) h1

theorem cell_lt {w : World} {a : Addr} {v : Value} (h : w.cell? a = some v) : a.block < w.heap.size := by
  unfold World.cell? at h
  split at h
  · rename_i hh
    exact (Array.getElem?_eq_some_iff.1 hh).1
  · cases h

/-- what the shell of a law is told of a slice that came in -/
theorem ints_row (w : World) (a : Option Addr) (len cap : Nat) (zs : List Int)
    (h : (a = none ∧ len = 0 ∧ cap = 0 ∧ zs = []) ∨ ∃ x, a = some x ∧ len ≤ cap ∧ cap ≤ maxLen ∧ zs.length = cap ∧ (∀ i, i < zs.length → w.cell? (x.add i) = some (.int .i64 (zs.getD i 0))) ∧ ∀ n ∈ zs, (Lit.int .i64 n).wf = true) :
    Ints w (.slice a len cap) (zs.take len) ∧ (zs.take len).length = len ∧ len ≤ 9223372036854775807 := by
  rcases h with ⟨rfl, rfl, rfl, rfl⟩ | ⟨x, rfl, hl, hm, hz, hc, _⟩
  · exact ⟨.inl ⟨_, _, rfl, rfl⟩, rfl, by omega⟩
  · have hlen : (zs.take len).length = len := by rw [List.length_take]; omega
    refine ⟨?_, hlen, by unfold maxLen at hm; omega⟩
    by_cases h0 : len = 0
    · subst h0
      exact .inl ⟨_, _, rfl, by simp⟩
    · have c0 := hc 0 (by omega)
      have hs := World.cell?_spot c0
      have hb := cell_lt c0
      obtain ⟨b, off, spot⟩ := x
      simp only [Addr.add] at hs hb
      subst hs
      refine .inr ⟨b, off, cap, by rw [hlen], hb, by omega, hm, fun i hi => ?_⟩
      have := hc i (by omega)
      have ha : (Addr.add ⟨b, off, none⟩ i) = ⟨b, off + i, none⟩ := by
        unfold Addr.add; split
        · subst i; rfl
        · rfl
      rw [ha] at this
      rw [this]
      congr 2
      rw [hlen] at hi
      simp [List.getD, hi]

theorem set_take (xs : List Int) (k : Nat) (h : k < xs.length) :
    ((xs.take k ++ List.replicate (xs.length - k) 0).map (Value.int .i64)).set k (.int .i64 (xs.getD k 0)) = (xs.take (k + 1) ++ List.replicate (xs.length - (k + 1)) 0).map (Value.int .i64) := by
  rw [show xs.length - k = (xs.length - (k + 1)) + 1 from by omega, List.replicate_succ, List.map_append, List.map_cons]
  rw [List.set_append_right _ _ (by simp; omega)]
  simp only [List.length_map, List.length_take, Nat.min_eq_left (Nat.le_of_lt h), Nat.sub_self, List.set_cons_zero]
  rw [List.take_succ_eq_append_getElem h]
  simp only [List.getD, h, getElem?_pos, Option.getD_some, List.map_append, List.map_cons, List.append_assoc, List.singleton_append]

theorem made (n : Nat) : madeCells (Value.int .i64 0).cells (n * 1) = ((List.replicate n (0:Int)).map (Value.int .i64)).toArray := by
  apply Array.ext
  · simp [size_madeCells]
  · intro i h1 h2
    simp [madeCells, Value.cells, Nat.mod_one]

end Go.Proofs.YtkcfcmigcphjlaaGreat
namespace Go.Proofs.YtkcfcmigcphjlaaGreat
open Go.RowKit
set_option linter.unusedVariables false

theorem ret_bool {a b : Bool} (h : a = b) : Ending.returned (.bool a) = .returned (.bool b) := by rw [h]
theorem ret_int {k : IntKind} {a b : Int} (h : a = b) : Ending.returned (.int k a) = .returned (.int k b) := by rw [h]

def good (x : Int) : Bool := decide (0 ≤ x) && decide (x ≤ 100000)
def okB (xs : List Int) : Bool := decide (1 ≤ xs.length) && decide (xs.length ≤ 4) && xs.all good

theorem good_iff (x : Int) : good x = true ↔ 0 ≤ x ∧ x ≤ 100000 := by simp [good]
theorem okB_iff (xs : List Int) : okB xs = true ↔ 1 ≤ xs.length ∧ xs.length ≤ 4 ∧ ∀ x ∈ xs, 0 ≤ x ∧ x ≤ 100000 := by
  simp [okB, good, and_assoc]
theorem good_step (xs : List Int) (k : Nat) (hk : k < xs.length) (h : (xs.take k).all good = true) (h0 : 0 ≤ xs.getD k 0) (h1 : xs.getD k 0 ≤ 100000) : (xs.take (k + 1)).all good = true := by
  rw [List.take_succ_eq_append_getElem hk, List.all_append, h]
  simp [List.getD, hk] at h0 h1
  simp [good, h0, h1]
theorem okB_bad (xs : List Int) (k : Nat) (hk : k < xs.length) (h : xs.getD k 0 < 0 ∨ 100000 < xs.getD k 0) : okB xs = false := by
  cases ho : okB xs with
  | false => rfl
  | true =>
    have := (okB_iff xs).1 ho
    have hm := this.2.2 xs[k] (List.getElem_mem _)
    simp [List.getD, hk] at h
    omega
theorem okB_len (xs : List Int) (h : xs.length < 1 ∨ 4 < xs.length) : okB xs = false := by
  cases ho : okB xs with
  | false => rfl
  | true => have := (okB_iff xs).1 ho; omega
theorem okB_all (xs : List Int) (k : Nat) (hk : k = xs.length) (h1 : 1 ≤ k) (h4 : k ≤ 4) (h : (xs.take k).all good = true) : okB xs = true := by
  subst hk
  rw [List.take_length] at h
  simp [okB, h]; omega

set_option maxHeartbeats 400000 in
theorem specOk_some (b off cap n : Nat) (xs : List Int) (w : World) (hn : xs.length = n) (hl : n ≤ 9223372036854775807)
    (hc : ∀ i, i < n → w.cell? ⟨b, off + i, none⟩ = some (.int .i64 (xs.getD i 0))) :
    Calls Tryz.prog 69 #[.slice (some ⟨b, off, none⟩) n cap] w fun e w' =>
      e = .returned (.bool (okB xs)) ∧ w' = w := by
  have HN := Lib.hid hn
  clear hn
  by_cases h1 : 1 ≤ n
  · by_cases h4 : n ≤ 4
    · go_enter Tryz.func69, Tryz.ntmps69
      go_wp2
      go_loop [3] (fun i => ∃ k : Nat, k ≤ n ∧ i = .int .i64 k ∧ Hid ((xs.take k).all good = true)) (fun i => n - (intOf i).toNat)
      case atStart => exact ⟨0, Nat.zero_le _, rfl, by simp [Hid]⟩
      case round =>
        obtain ⟨k, hk, rfl, hg⟩ := hrel
        by_cases hlt : k < n
        · have hc1 := hc k hlt
          clear hc
          obtain ⟨x, hx⟩ : ∃ x, xs.getD k 0 = x := ⟨_, rfl⟩
          rw [hx] at hc1
          have HX := Lib.hid hx
          clear hx
          by_cases hx0 : 0 ≤ x
          · by_cases hx1 : x ≤ 100000
            · go_wp2
              go_round
              case rel => exact ⟨k + 1, by omega, by go_num, good_step xs k (by rw [HN.out]; omega) hg.out (by rw [HX.out]; exact hx0) (by rw [HX.out]; exact hx1)⟩
              case measure => simp [intOf]; omega
            · go_wp2
              go_ret
              exact ⟨ret_bool (okB_bad xs k (by rw [HN.out]; omega) (.inr (by rw [HX.out]; omega))).symm, rfl⟩
          · go_wp2
            go_ret
            exact ⟨ret_bool (okB_bad xs k (by rw [HN.out]; omega) (.inl (by rw [HX.out]; omega))).symm, rfl⟩
        · go_wp2
          go_ret
          exact ⟨ret_bool (okB_all xs k (by rw [HN.out]; omega) (by omega) (by omega) hg.out).symm, rfl⟩
    · go_enter Tryz.func69, Tryz.ntmps69
      go_wp2
      go_ret
      exact ⟨ret_bool (okB_len xs (by rw [HN.out]; omega)).symm, rfl⟩
  · go_enter Tryz.func69, Tryz.ntmps69
    go_wp2
    go_ret
    exact ⟨ret_bool (okB_len xs (by rw [HN.out]; omega)).symm, rfl⟩

theorem specOk_nil (a : Option Addr) (cap : Nat) (w : World) :
    Calls Tryz.prog 69 #[.slice a 0 cap] w fun e w' => e = .returned (.bool (okB [])) ∧ w' = w := by
  go_enter Tryz.func69, Tryz.ntmps69
  go_wp2
  go_ret
  exact ⟨rfl, rfl⟩

theorem specOk_any (v : Value) (xs : List Int) (w : World) (h : Ints w v xs) :
    Calls Tryz.prog 69 #[v] w fun e w' => e = .returned (.bool (okB xs)) ∧ w' = w := by
  rcases h with ⟨a, cap, rfl, rfl⟩ | ⟨b, off, cap, rfl, h1, h2, h3, h4⟩
  · exact specOk_nil _ _ w
  · exact specOk_some b off cap _ xs w rfl (by unfold maxLen at h3; omega) h4

/-! ### eqIntS -/
def eqB (xs ys : List Int) : Bool := decide (xs = ys)
theorem eqB_len (xs ys : List Int) (h : xs.length ≠ ys.length) : eqB xs ys = false := by
  simp only [eqB, decide_eq_false_iff_not]; intro e; exact h (by rw [e])
theorem eqB_bad (xs ys : List Int) (k : Nat) (h : ¬ xs.getD k 0 = ys.getD k 0) : eqB xs ys = false := by
  simp only [eqB, decide_eq_false_iff_not]; intro e; exact h (by rw [e])
theorem take_eq_step (xs ys : List Int) (k : Nat) (hx : k < xs.length) (hy : k < ys.length) (h : xs.take k = ys.take k) (e : xs.getD k 0 = ys.getD k 0) : xs.take (k + 1) = ys.take (k + 1) := by
  rw [List.take_succ_eq_append_getElem hx, List.take_succ_eq_append_getElem hy, h]
  simp [List.getD, hx, hy] at e
  rw [e]
theorem eqB_all (xs ys : List Int) (k : Nat) (hx : k = xs.length) (hy : k = ys.length) (h : xs.take k = ys.take k) : eqB xs ys = true := by
  rw [hx, List.take_length, ← hx, hy, List.take_length] at h
  simp [eqB, h]

/-- what the call owns reads as ints -/
theorem ints_own {w : World} {B g n cap : Nat} {xs : List Int} (hn : n = xs.length) (h : w.ownsRow B 3 1 (.slice (some ⟨g, 0, none⟩) n cap) n (xs.map (Value.int .i64))) : Ints w (.slice (some ⟨g, 0, none⟩) n cap) xs := by
  subst hn
  have hb : g < w.heap.size := by
    rcases h.2 with ⟨h', _⟩ | ⟨g', cap', cur, h', hbg, hg, _⟩
    · simp at h'
    · simp only [Value.slice.injEq, Option.some.injEq, Addr.mk.injEq, and_true, true_and] at h'
      obtain ⟨rfl, rfl⟩ := h'
      exact (Array.getElem?_eq_some_iff.1 hg).1
  have hc : xs.length ≤ cap ∧ cap ≤ maxLen := by
    rcases h.2 with ⟨h', _⟩ | ⟨g', cap', cur, h', hbg, hg, hx, hy, _⟩
    · simp at h'
    · simp only [Value.slice.injEq, Option.some.injEq, Addr.mk.injEq, and_true, true_and] at h'
      obtain ⟨rfl, rfl⟩ := h'
      exact ⟨hx, hy⟩
  refine .inr ⟨g, 0, cap, rfl, hb, hc.1, hc.2, fun i hi => ?_⟩
  have := h.cellAt i (by omega)
  rw [Nat.zero_add, this, List.getElem?_map, List.getElem?_eq_getElem hi]
  simp [List.getD, hi]
end Go.Proofs.YtkcfcmigcphjlaaGreat
namespace Go.Proofs.YtkcfcmigcphjlaaGreat
open Go.RowKit
set_option linter.unusedVariables false

def vi (l : List Int) : List Value := l.map (Value.int .i64)


theorem ints_len {w : World} {v : Value} {xs : List Int} (h : Ints w v xs) : ∃ a cap, v = .slice a xs.length cap := by
  rcases h with ⟨a, cap, rfl, rfl⟩ | ⟨b, off, cap, rfl, _⟩
  · exact ⟨a, cap, rfl⟩
  · exact ⟨_, cap, rfl⟩
theorem ints_drewN {w : World} {v : Value} {xs : List Int} (h : Ints w v xs) (n : Nat) : Ints (w.drewN n) v xs := h
theorem ints_max {w : World} {v : Value} {xs : List Int} (h : Ints w v xs) : xs.length ≤ 9223372036854775807 := by
  rcases h with ⟨a, cap, rfl, rfl⟩ | ⟨b, off, cap, rfl, _, h2, h3, _⟩
  · simp
  · unfold maxLen at h3; omega


/-- block B holds the cells l, none frozen -/
structure Blk (w : World) (B : Nat) (l : List Value) : Prop where
  lt : B < w.heap.size
  cell : ∀ j, w.cell? ⟨B, j, none⟩ = l[j]?
  free : ∀ j, w.frozen? ⟨B, j, none⟩ = false
theorem Blk.new (w : World) (cs : Array Value) (t : TypeId) : Blk (w.alloc (.cells cs t)) w.heap.size cs.toList :=
  ⟨by simp, fun j => by simp, fun j => by simp⟩
theorem Blk.alloc {w : World} {B : Nat} {l : List Value} (h : Blk w B l) (o : Obj) : Blk (w.alloc o) B l :=
  ⟨by have := h.lt; simp; omega, fun j => by rw [World.cell?_alloc_old _ _ _ (by have := h.lt; simp; omega)]; exact h.cell j, fun j => by rw [World.frozen?_alloc_old _ _ _ (by have := h.lt; simp; omega)]; exact h.free j⟩
theorem Blk.drewN {w : World} {B : Nat} {l : List Value} (h : Blk w B l) (n : Nat) : Blk (w.drewN n) B l := ⟨h.lt, h.cell, h.free⟩
theorem Blk.drew {w : World} {B : Nat} {l : List Value} (h : Blk w B l) : Blk w.drew B l := ⟨h.lt, h.cell, h.free⟩
theorem Blk.other {w : World} {B : Nat} {l : List Value} (h : Blk w B l) {p : Addr} (hp : p.block ≠ B) (v : Value) : Blk (w.setCell p v) B l :=
  ⟨by have := h.lt; simpa [World.setCell] using this, fun j => (World.cell?_setCell_other (h := by intro e; rw [e] at hp; exact hp rfl) ..).trans (h.cell j), fun j => by rw [World.frozen?_setCell]; exact h.free j⟩
theorem Blk.set {w : World} {B : Nat} {l : List Value} (h : Blk w B l) {j : Nat} (hj : j < l.length) (v : Value) : Blk (w.setCell ⟨B, j, none⟩ v) B (l.set j v) := by
  refine ⟨by have := h.lt; simpa [World.setCell] using this, fun i => ?_, fun j => by rw [World.frozen?_setCell]; exact h.free j⟩
  by_cases e : i = j
  · subst e
    refine (World.cell?_setCell_same (h := (h.cell i).trans (List.getElem?_eq_getElem hj)) ..).trans ?_
    simp [hj]
  · refine (World.cell?_setCell_other (h := by intro e'; injection e' with _ e'' _; exact e e''.symm) ..).trans ?_
    rw [h.cell i, List.getElem?_set_ne (by omega)]
theorem Blk.below {w w' : World} {B K : Nat} {l : List Value} (h : Blk w B l) (hb : Below K w w') (hk : B < K) : Blk w' B l :=
  ⟨Nat.lt_of_lt_of_le h.lt hb.size, fun j => (hb.cell (p := ⟨B, j, none⟩) hk).trans (h.cell j), fun j => (hb.frozen (p := ⟨B, j, none⟩) hk).trans (h.free j)⟩


theorem bcell {W w1 : World} (hb : Below W.heap.size W w1) : (∀ b o, b < W.heap.size → w1.cell? ⟨b, o, none⟩ = W.cell? ⟨b, o, none⟩) ∧ (∀ b o, b < W.heap.size → w1.frozen? ⟨b, o, none⟩ = W.frozen? ⟨b, o, none⟩) :=
  ⟨fun b o h => hb.cell (p := ⟨b, o, none⟩) h, fun b o h => hb.frozen (p := ⟨b, o, none⟩) h⟩

/-- v reads as xs, in cells of block g alone, which may be written -/
def Own (w : World) (g : Nat) (v : Value) (xs : List Int) : Prop :=
  (∃ a cap, v = .slice a 0 cap ∧ xs = []) ∨ (0 < xs.length ∧ ∃ cap, v = .slice (some ⟨g, 0, none⟩) xs.length cap ∧ w.ownsRow g 3 1 (.slice (some ⟨g, 0, none⟩) xs.length cap) xs.length (vi xs))

theorem own_at {w : World} {B e size g n cap n' : Nat} {xs : List Value} (h : w.ownsRow B e size (.slice (some ⟨g, 0, none⟩) n cap) n' xs) : w.ownsRow g e size (.slice (some ⟨g, 0, none⟩) n cap) n' xs ∧ B ≤ g ∧ g < w.heap.size := by
  obtain ⟨h1, h2⟩ := h
  rcases h2 with ⟨h', _⟩ | ⟨g', cap', cur, h', hbg, hg, r⟩
  · simp at h'
  · have h0 := h'
    simp only [Value.slice.injEq, Option.some.injEq, Addr.mk.injEq, and_true] at h'
    obtain ⟨rfl, _⟩ := h'
    exact ⟨⟨h1, .inr ⟨g, cap', cur, h0, Nat.le_refl _, hg, r⟩⟩, hbg, (Array.getElem?_eq_some_iff.1 hg).1⟩
theorem own_ints {w : World} {g : Nat} {v : Value} {xs : List Int} (h : Own w g v xs) : Ints w v xs := by
  rcases h with ⟨a, cap, rfl, rfl⟩ | ⟨hp, cap, rfl, ho⟩
  · exact .inl ⟨_, _, rfl, rfl⟩
  · exact ints_own rfl ho
theorem own_lt {w : World} {g : Nat} {v : Value} {xs : List Int} (h : Own w g v xs) (hp : 0 < xs.length) : g < w.heap.size := by
  rcases h with ⟨a, cap, rfl, rfl⟩ | ⟨hp, cap, rfl, ho⟩
  · simp at hp
  · exact (own_at ho).2.2
theorem row_block {w w' : World} {g : Nat} {e size n cap : Nat} {xs : List Value} (h : w.ownsRow g e size (.slice (some ⟨g, 0, none⟩) n cap) n xs) (hb : w'.heap[g]? = w.heap[g]?) : w'.ownsRow g e size (.slice (some ⟨g, 0, none⟩) n cap) n xs := by
  obtain ⟨h1, h2⟩ := h
  refine ⟨h1, ?_⟩
  rcases h2 with h2 | ⟨g', cap', cur, hv, hg, hh, r⟩
  · exact .inl h2
  · have h0 := hv
    simp only [Value.slice.injEq, Option.some.injEq, Addr.mk.injEq, and_true] at hv
    obtain ⟨rfl, _⟩ := hv
    exact .inr ⟨g, cap', cur, h0, hg, by rw [hb]; exact hh, r⟩
theorem Own.block {w w' : World} {g : Nat} {v : Value} {xs : List Int} (h : Own w g v xs) (hb : 0 < xs.length → w'.heap[g]? = w.heap[g]?) : Own w' g v xs := by
  rcases h with h | ⟨hp, cap, rfl, ho⟩
  · exact .inl h
  · exact .inr ⟨hp, cap, rfl, row_block ho (hb hp)⟩
theorem Own.below {w w' : World} {g : Nat} {v : Value} {xs : List Int} (h : Own w g v xs) (hb : Below w.heap.size w w') : Own w' g v xs :=
  h.block fun hp => hb.block g (own_lt h hp)
theorem Own.drewN {w : World} {g : Nat} {v : Value} {xs : List Int} (h : Own w g v xs) (n : Nat) : Own (w.drewN n) g v xs := h
theorem Own.other {w w' : World} {g g' : Nat} {v : Value} {xs : List Int} (h : Own w g v xs) (hb : w.grownBy w' (some g')) (hn : 0 < xs.length → g ≠ g') : Own w' g v xs :=
  h.block fun hp => hb.block g (own_lt h hp) (fun e => hn hp (Option.some.inj e))

/-- k, k+1, .. -/
def iota (k : Int) : Nat → List Int
  | 0 => []
  | n + 1 => k :: iota (k + 1) n
theorem iota_length (k : Int) (n : Nat) : (iota k n).length = n := by
  induction n generalizing k with
  | zero => rfl
  | succ n ih => simp [iota, ih]
theorem iota_getD (k : Int) (n i : Nat) (h : i < n) : (iota k n).getD i 0 = k + i := by
  induction n generalizing k i with
  | zero => omega
  | succ n ih =>
    cases i with
    | zero => simp [iota]
    | succ i => simp only [iota, List.getD_cons_succ]; rw [ih (k + 1) i (by omega)]; omega
theorem iota_snoc (k : Int) (n : Nat) : iota k (n + 1) = iota k n ++ [k + n] := by
  induction n generalizing k with
  | zero => simp [iota]
  | succ n ih => rw [iota, ih (k + 1), iota, List.cons_append]; congr 3; omega
theorem mark_set (xs : List Int) (k : Int) (i : Nat) (h : i < xs.length) : (vi (iota k i ++ xs.drop i)).set i (.int .i64 (k + i)) = vi (iota k (i + 1) ++ xs.drop (i + 1)) := by
  unfold vi
  rw [List.map_append, List.set_append_right _ _ (by simp [iota_length]), List.length_map, iota_length, Nat.sub_self, List.drop_eq_getElem_cons h, List.map_cons, List.set_cons_zero, iota_snoc]
  simp

theorem grown_refl (w : World) (r : Option Nat) : w.grownBy w r := ⟨rfl, rfl, rfl, Nat.le_refl _, fun _ _ _ => rfl⟩
theorem grown_set {w : World} (B o : Nat) (v : Value) : w.grownBy (w.setCell ⟨B, o, none⟩ v) (some B) :=
  ⟨rfl, rfl, rfl, by simp, fun k _ hk => Below.heap_setCell _ _ _ _ (by intro e; exact hk (by rw [e]))⟩
theorem grown_drewN (w : World) (n : Nat) (r : Option Nat) : w.grownBy (w.drewN n) r := ⟨rfl, rfl, rfl, Nat.le_refl _, fun _ _ _ => rfl⟩

theorem Blk.same {w w' : World} {B : Nat} {l : List Value} (h : Blk w B l) (hs : w.heap.size ≤ w'.heap.size) (hb : w'.heap[B]? = w.heap[B]?) : Blk w' B l :=
  ⟨Nat.lt_of_lt_of_le h.lt hs, fun j => (World.cell?_of_block (a := ⟨B, j, none⟩) hb).trans (h.cell j), fun j => (World.frozen?_of_block (a := ⟨B, j, none⟩) hb).trans (h.free j)⟩
theorem grown_alloc (w : World) (o : Obj) (r : Option Nat) : w.grownBy (w.alloc o) r := World.grownBy_alloc w o r
theorem grown_weak {w w' : World} {r r' : Option Nat} (h : w.grownBy w' r) (hr : ∀ k, r = some k → r' = some k ∨ w.heap.size ≤ k) : w.grownBy w' r' :=
  ⟨h.os, h.tape, h.output, h.size, fun k hk hn => h.block k hk (fun e => by
    rcases hr k e.symm with h' | h'
    · exact hn h'.symm
    · omega)⟩

theorem own_of_row {w : World} {K n : Nat} {v : Value} {xs : List Int} (hn : xs.length = n) (h : w.ownsRow K 3 1 v n (vi xs)) : ∃ g, K ≤ g ∧ Own w g v xs := by
  subst hn
  have h0 := h
  rcases h.2 with ⟨hv, hz⟩ | ⟨g, cap, cur, hv, hg, _⟩
  · have : xs = [] := List.eq_nil_of_length_eq_zero hz
    subst this
    exact ⟨K, Nat.le_refl _, .inl ⟨_, _, hv, rfl⟩⟩
  · refine ⟨g, hg, ?_⟩
    subst hv
    by_cases hp : 0 < xs.length
    · exact .inr ⟨hp, cap, rfl, (own_at h0).1⟩
    · have : xs = [] := List.eq_nil_of_length_eq_zero (by omega)
      subst this
      exact .inl ⟨_, _, rfl, rfl⟩

theorem row_grown {w w' : World} {K : Nat} {e size n : Nat} {v : Value} {xs : List Value} {r : Option Nat} (h : w.ownsRow K e size v n xs) (hg : w.grownBy w' r) (hr : ∀ g, r = some g → g < K) : w'.ownsRow K e size v n xs := by
  obtain ⟨h1, h2⟩ := h
  refine ⟨h1, ?_⟩
  rcases h2 with h2 | ⟨g, cap, cur, hv, hk, hh, r'⟩
  · exact .inl h2
  · refine .inr ⟨g, cap, cur, hv, hk, ?_, r'⟩
    rw [hg.block g (Array.getElem?_eq_some_iff.1 hh).1 (fun e => by have := hr g e.symm; omega)]
    exact hh
theorem grown_then {w w1 w2 : World} {r r2 : Option Nat} (h : w.grownBy w1 r) (h2 : w1.grownBy w2 r2) (hr : ∀ g, r2 = some g → r = some g ∨ w.heap.size ≤ g) : w.grownBy w2 r :=
  ⟨h2.os.trans h.os, h2.tape.trans h.tape, h2.output.trans h.output, Nat.le_trans h.size h2.size, fun k hk hn => (h2.block k (by have := h.size; omega) (fun e => by
    rcases hr k e.symm with h' | h'
    · exact hn h'.symm
    · omega)).trans (h.block k hk hn)⟩
theorem own_block_ge {w : World} {K e size n : Nat} {v : Value} {xs : List Value} (h : w.ownsRow K e size v n xs) : ∀ g, v.ownBlock = some g → K ≤ g := by
  intro g hg
  rcases h.2 with ⟨rfl, _⟩ | ⟨g', cap, cur, rfl, hk, _⟩
  · cases hg
  · cases hg; exact hk

theorem Own.below' {w w' : World} {g B : Nat} {v : Value} {xs : List Int} (h : Own w g v xs) (hb : Below B w w') (hB : 0 < xs.length → g < B) : Own w' g v xs :=
  h.block fun hp => hb.block g (hB hp)

theorem own_open {w : World} {g : Nat} {v : Value} {xs : List Int} (h : Own w g v xs) (hp : 0 < xs.length) : ∃ cap, v = .slice (some ⟨g, 0, none⟩) xs.length cap ∧ w.ownsRow g 3 1 (.slice (some ⟨g, 0, none⟩) xs.length cap) xs.length (vi xs) := by
  rcases h with ⟨a, cap, rfl, rfl⟩ | ⟨_, h⟩
  · simp at hp
  · exact h
end Go.Proofs.YtkcfcmigcphjlaaGreat
namespace Go.Proofs.YtkcfcmigcphjlaaGreat
open Go.RowKit
set_option linter.unusedVariables false
def bothB (xs ys : List Int) : Bool := okB xs && okB ys && decide (xs.length = ys.length)
def leqB (xs ys : List Int) : Bool := (List.range xs.length).all fun i => decide (xs.getD i 0 ≤ ys.getD i 0)

theorem leqB_iff (xs ys : List Int) : leqB xs ys = true ↔ ∀ i, i < xs.length → xs.getD i 0 ≤ ys.getD i 0 := by
  simp [leqB]
theorem leqB_bad (xs ys : List Int) (k : Nat) (hk : k < xs.length) (h : ¬ xs.getD k 0 ≤ ys.getD k 0) : leqB xs ys = false := by
  cases e : leqB xs ys with
  | false => rfl
  | true => exact absurd ((leqB_iff xs ys).1 e k hk) h

set_option maxHeartbeats 400000 in
theorem leqS_some (b off cap b' off' cap' n m : Nat) (xs ys : List Int) (w : World) (hn : xs.length = n) (hm : ys.length = n) (hl : n ≤ 9223372036854775807)
    (hc : ∀ i, i < n → w.cell? ⟨b, off + i, none⟩ = some (.int .i64 (xs.getD i 0))) (hc' : ∀ i, i < n → w.cell? ⟨b', off' + i, none⟩ = some (.int .i64 (ys.getD i 0))) :
    Calls Tryz.prog 36 #[.slice (some ⟨b, off, none⟩) n cap, .slice (some ⟨b', off', none⟩) n cap'] w fun e w' =>
      e = .returned (.bool (leqB xs ys)) ∧ ∃ q, w' = w.drewN q := by
  have HN := Lib.hid hn
  have HM := Lib.hid hm
  clear hn hm
  go_enter Tryz.func36, Tryz.ntmps36
  go_wp2
  go_loopw [5] (fun i wr => ∃ k q : Nat, k ≤ n ∧ i = .int .i64 k ∧ Hid (∀ j, j < k → xs.getD j 0 ≤ ys.getD j 0) ∧ wr = w.drewN q) (fun i _ => n - (intOf i).toNat)
  case atStart => exact ⟨0, 0, Nat.zero_le _, rfl, by simp [Hid], rfl⟩
  case round =>
    obtain ⟨k, q, hk, rfl, hg, rfl⟩ := hrel
    by_cases hlt : k < n
    · have hc1 := hc k hlt
      have hc2 := hc' k hlt
      clear hc hc'
      obtain ⟨x, hx⟩ : ∃ x, xs.getD k 0 = x := ⟨_, rfl⟩
      obtain ⟨y, hy⟩ : ∃ y, ys.getD k 0 = y := ⟨_, rfl⟩
      rw [hx] at hc1
      rw [hy] at hc2
      have HX := Lib.hid hx
      have HY := Lib.hid hy
      clear hx hy
      have i0 : (0 : Int) ≤ k := by omega
      have i1 : (k : Int) < n := by omega
      by_cases hx0 : x ≤ y
      · have e1 : decide (y < x) = false := by simp; omega
        have hstep : Hid (∀ j, j < k + 1 → xs.getD j 0 ≤ ys.getD j 0) := by
          intro j hj
          by_cases hjk : j < k
          · exact hg.out j hjk
          · have : j = k := by omega
            subst this
            rw [HX.out, HY.out]; exact hx0
        go_wp2
        go_quiet (fail)
        go_wp2
        go_roundw
        case rel => exact ⟨k + 1, _, by omega, by go_num, hstep, rfl⟩
        case measure => simp [intOf]; omega
      · have e1 : decide (y < x) = true := by simp; omega
        go_wp2
        go_quiet (fail)
        go_wp2
        go_ret
        exact ⟨ret_bool (leqB_bad xs ys k (by rw [HN.out]; exact hlt) (by rw [HX.out, HY.out]; omega)).symm, _, World.drewN_drewN ..⟩
    · go_wp2
      go_ret
      exact ⟨ret_bool ((leqB_iff xs ys).2 (fun i hi => hg.out i (by rw [HN.out] at hi; omega))).symm, q, rfl⟩

/-- of two lists that are clocks for as many places -/
theorem leqS_any (v v' : Value) (xs ys : List Int) (w : World) (h : Ints w v xs) (h' : Ints w v' ys) (hb : bothB xs ys = true) :
    Calls Tryz.prog 36 #[v, v'] w fun e w' => e = .returned (.bool (leqB xs ys)) ∧ ∃ q, w' = w.drewN q := by
  simp only [bothB, Bool.and_eq_true, decide_eq_true_eq] at hb
  have k1 := (okB_iff xs).1 hb.1.1
  rcases h with ⟨a, cap, rfl, rfl⟩ | ⟨b, off, cap, rfl, h1, h2, h3, h4⟩
  · simp at k1
  · rcases h' with ⟨a', cap', rfl, rfl⟩ | ⟨b', off', cap', rfl, h1', h2', h3', h4'⟩
    · have := hb.2
      simp only [List.length_nil] at this
      omega
    · rw [← hb.2]
      exact leqS_some _ _ _ _ _ _ _ 0 xs ys w rfl hb.2.symm (by unfold maxLen at h3; omega) h4 (by rw [hb.2]; exact h4')

def spLeq (xs ys : List Int) : Bool := bothB xs ys && leqB xs ys
def spBeside (xs ys : List Int) : Bool := bothB xs ys && !leqB xs ys && !leqB ys xs
theorem bothB_symm (xs ys : List Int) : bothB xs ys = bothB ys xs := by
  have h : decide (xs.length = ys.length) = decide (ys.length = xs.length) := by rw [Bool.eq_iff_iff]; simp; omega
  simp only [bothB]
  rw [Bool.and_comm (okB xs), h]

end Go.Proofs.YtkcfcmigcphjlaaGreat











namespace Go.Proofs.YtkcfcmigcphjlaaGreat
open Go.RowKit
set_option linter.unusedVariables false

/-- an Up as plain data -/
structure UpM where
  kind : Int
  bucket : Int
  key : Int
  val : Int
  deriving DecidableEq
def up0 : UpM := ⟨0, 0, 0, 0⟩
/-- an Act as plain data -/
structure ActM where
  r : Int
  n : Int
  dep : List Int
  actor : Int
  kind : Int
  to : Int
  bucket : Int
  mask : Int
  gr : Int
  gn : Int
  ups : List UpM
  deriving DecidableEq

def upCells (u : UpM) : List Value := [.int .i64 u.kind, .int .i64 u.bucket, .int .i64 u.key, .int .i64 u.val]
def vu (l : List UpM) : List Value := l.flatMap upCells
/-- the cells of one Up at an address -/
def UpAt (w : World) (b o : Nat) (u : UpM) : Prop :=
  w.cell? ⟨b, o, none⟩ = some (.int .i64 u.kind) ∧ w.cell? ⟨b, o + 1, none⟩ = some (.int .i64 u.bucket) ∧ w.cell? ⟨b, o + 2, none⟩ = some (.int .i64 u.key) ∧ w.cell? ⟨b, o + 3, none⟩ = some (.int .i64 u.val)
/-- v is a slice that reads as the ups us -/
def Ups (w : World) (v : Value) (us : List UpM) : Prop :=
  (∃ a cap, v = .slice a 0 cap ∧ us = []) ∨
  ∃ b off cap, v = .slice (some ⟨b, off, none⟩) us.length cap ∧ b < w.heap.size ∧ us.length ≤ cap ∧ cap ≤ maxLen ∧ ∀ i, i < us.length → UpAt w b (off + i * 4) (us.getD i up0)
/-- v is an act that reads as a -/
def ActIs (w : World) (v : Value) (a : ActM) : Prop :=
  ∃ vd vs, v = .agg #[.int .i64 a.r, .int .i64 a.n, vd, .int .i64 a.actor, .int .i64 a.kind, .int .i64 a.to, .int .i64 a.bucket, .int .i64 a.mask, .int .i64 a.gr, .int .i64 a.gn, vs] ∧ Ints w vd a.dep ∧ Ups w vs a.ups

theorem Ups.below {w w' : World} {v : Value} {us : List UpM} (h : Ups w v us) (hb : Below w.heap.size w w') : Ups w' v us := by
  rcases h with h | ⟨b, off, cap, rfl, h1, h2, h3, h4⟩
  · exact .inl h
  · refine .inr ⟨b, off, cap, rfl, Nat.lt_of_lt_of_le h1 hb.size, h2, h3, fun i hi => ?_⟩
    obtain ⟨q0, q1, q2, q3⟩ := h4 i hi
    exact ⟨(hb.cell (p := ⟨b, _, none⟩) h1).trans q0, (hb.cell (p := ⟨b, _, none⟩) h1).trans q1, (hb.cell (p := ⟨b, _, none⟩) h1).trans q2, (hb.cell (p := ⟨b, _, none⟩) h1).trans q3⟩
theorem ups_len {w : World} {v : Value} {us : List UpM} (h : Ups w v us) : ∃ a cap, v = .slice a us.length cap := by
  rcases h with ⟨a, cap, rfl, rfl⟩ | ⟨b, off, cap, rfl, _⟩
  · exact ⟨a, cap, rfl⟩
  · exact ⟨_, cap, rfl⟩
theorem ups_max {w : World} {v : Value} {us : List UpM} (h : Ups w v us) : us.length ≤ 9223372036854775807 := by
  rcases h with ⟨a, cap, rfl, rfl⟩ | ⟨b, off, cap, rfl, _, h2, h3, _⟩
  · simp
  · unfold maxLen at h3; omega
theorem ups_drewN {w : World} {v : Value} {us : List UpM} (h : Ups w v us) (n : Nat) : Ups (w.drewN n) v us := h
theorem act_drewN {w : World} {v : Value} {a : ActM} (h : ActIs w v a) (n : Nat) : ActIs (w.drewN n) v a := h
theorem ActIs.below {w w' : World} {v : Value} {a : ActM} (h : ActIs w v a) (hb : Below w.heap.size w w') : ActIs w' v a := by
  obtain ⟨vd, vs, hv, h1, h2⟩ := h
  exact ⟨vd, vs, hv, h1.below (B := 0) hb, h2.below hb⟩

theorem Tryz.infoUp : (Tryz.prog.info? 83).map (fun i => (i.zero, i.size, i.bytes)) = some (some (.agg #[.int .i64 0, .int .i64 0, .int .i64 0, .int .i64 0]), 4, 32) := by kernel_rfl

theorem vu_length (l : List UpM) : (vu l).length = l.length * 4 := by
  induction l with
  | nil => rfl
  | cons u l ih => simp only [vu, List.flatMap_cons, List.length_append, List.length_cons] at ih ⊢; rw [ih]; simp [upCells]; omega
theorem vu_append (l m : List UpM) : vu (l ++ m) = vu l ++ vu m := by simp [vu]
theorem vu_at (l : List UpM) (i : Nat) (h : i < l.length) : (vu l)[i * 4]? = some (.int .i64 (l.getD i up0).kind) ∧ (vu l)[i * 4 + 1]? = some (.int .i64 (l.getD i up0).bucket) ∧ (vu l)[i * 4 + 2]? = some (.int .i64 (l.getD i up0).key) ∧ (vu l)[i * 4 + 3]? = some (.int .i64 (l.getD i up0).val) := by
  induction l generalizing i with
  | nil => simp at h
  | cons u l ih =>
    cases i with
    | zero => exact ⟨rfl, rfl, rfl, rfl⟩
    | succ i =>
      have := ih i (by simpa using h)
      simp only [List.getD_cons_succ]
      have hv : vu (u :: l) = .int .i64 u.kind :: .int .i64 u.bucket :: .int .i64 u.key :: .int .i64 u.val :: vu l := rfl
      rw [hv, show (i + 1) * 4 = i * 4 + 4 from by omega]
      exact this
theorem vu_zero (n : Nat) : madeCells (Value.agg #[.int .i64 0, .int .i64 0, .int .i64 0, .int .i64 0]).cells (n * 4) = (vu (List.replicate n up0)).toArray := by
  apply Array.ext
  · simp [size_madeCells, vu_length]
  · intro i h1 h2
    have e : (vu (List.replicate n up0)) = List.replicate (n * 4) (.int .i64 0) := by
      clear h1 h2
      induction n with
      | zero => rfl
      | succ n ih =>
        rw [List.replicate_succ, show (n + 1) * 4 = n * 4 + 1 + 1 + 1 + 1 from by omega, List.replicate_succ, List.replicate_succ, List.replicate_succ, List.replicate_succ, ← ih]
        rfl
    simp only [e]
    simp [madeCells, Value.cells]
    have : i % 4 < 4 := Nat.mod_lt _ (by omega)
    match h : i % 4, this with
    | 0, _ => rfl
    | 1, _ => rfl
    | 2, _ => rfl
    | 3, _ => rfl
    | k + 4, h => omega

theorem vu_set (l : List UpM) (k : Nat) (u : UpM) (h : k < l.length) :
    ((((vu l).set (k * 4) (.int .i64 u.kind)).set (k * 4 + 1) (.int .i64 u.bucket)).set (k * 4 + 2) (.int .i64 u.key)).set (k * 4 + 3) (.int .i64 u.val) = vu (l.set k u) := by
  induction l generalizing k with
  | nil => simp at h
  | cons x l ih =>
    cases k with
    | zero => rfl
    | succ k =>
      have hv : ∀ x l, vu (x :: l) = .int .i64 x.kind :: .int .i64 x.bucket :: .int .i64 x.key :: .int .i64 x.val :: vu l := fun _ _ => rfl
      rw [List.set_cons_succ, hv, hv, ← ih k (by simpa using h), show (k + 1) * 4 = k * 4 + 4 from by omega]
      rfl
theorem ups_step (us : List UpM) (k n : Nat) (hn : us.length = n) (hk : k < n) : (us.take k ++ List.replicate (n - k) up0).set k (us.getD k up0) = us.take (k + 1) ++ List.replicate (n - (k + 1)) up0 := by
  subst hn
  have hl : (us.take k).length = k := by simp; omega
  rw [List.set_append_right _ _ (by omega), hl, Nat.sub_self, show us.length - k = (us.length - (k + 1)) + 1 from by omega, List.replicate_succ, List.set_cons_zero, List.take_succ_eq_append_getElem hk]
  simp only [List.getD, List.getElem?_eq_getElem hk, Option.getD_some, List.append_assoc, List.singleton_append]
theorem row_below {w w' : World} {g : Nat} {e size n cap : Nat} {xs : List Value} (h : w.ownsRow g e size (.slice (some ⟨g, 0, none⟩) n cap) n xs) (hb : Below w.heap.size w w') : w'.ownsRow g e size (.slice (some ⟨g, 0, none⟩) n cap) n xs := by
  obtain ⟨h1, h2⟩ := h
  refine ⟨h1, ?_⟩
  rcases h2 with h2 | ⟨g', cap', cur, hv, hg, hh, r⟩
  · exact .inl h2
  · have h0 := hv
    simp only [Value.slice.injEq, Option.some.injEq, Addr.mk.injEq, and_true] at hv
    obtain ⟨rfl, _⟩ := hv
    exact .inr ⟨g, cap', cur, h0, hg, by rw [hb.block g (Array.getElem?_eq_some_iff.1 hh).1]; exact hh, r⟩
theorem row_set4 {w : World} {g e n cap : Nat} {l : List UpM} (h : w.ownsRow g e 4 (.slice (some ⟨g, 0, none⟩) n cap) n (vu l)) (k : Nat) (hl : l.length = n) (hk : k < n) (u : UpM) :
    ((((w.setCell ⟨g, k * 4, none⟩ (.int .i64 u.kind)).setCell ⟨g, k * 4 + 1, none⟩ (.int .i64 u.bucket)).setCell ⟨g, k * 4 + 2, none⟩ (.int .i64 u.key)).setCell ⟨g, k * 4 + 3, none⟩ (.int .i64 u.val)).ownsRow g e 4 (.slice (some ⟨g, 0, none⟩) n cap) n (vu (l.set k u)) := by
  rw [← vu_set l k u (by omega)]
  exact ((((h.stored _ _).1.stored _ _).1.stored _ _).1.stored _ _).1
theorem row_cells4 {w : World} {g e n cap : Nat} {l : List UpM} (h : w.ownsRow g e 4 (.slice (some ⟨g, 0, none⟩) n cap) n (vu l)) (k : Nat) (hl : l.length = n) (hk : k < n) : UpAt w g (k * 4) (l.getD k up0) := by
  obtain ⟨q0, q1, q2, q3⟩ := vu_at l k (by omega)
  exact ⟨(h.cellAt _ (by omega)).trans q0, (h.cellAt _ (by omega)).trans q1, (h.cellAt _ (by omega)).trans q2, (h.cellAt _ (by omega)).trans q3⟩

/-- v reads as the ups us, in cells of block g alone, which may be written -/
def OwnU (w : World) (g : Nat) (v : Value) (us : List UpM) : Prop :=
  (∃ a cap, v = .slice a 0 cap ∧ us = []) ∨ (0 < us.length ∧ ∃ cap, v = .slice (some ⟨g, 0, none⟩) us.length cap ∧ w.ownsRow g 83 4 (.slice (some ⟨g, 0, none⟩) us.length cap) us.length (vu us))
theorem ups_own {w : World} {B g n cap : Nat} {us : List UpM} (hn : us.length = n) (h : w.ownsRow B 83 4 (.slice (some ⟨g, 0, none⟩) n cap) n (vu us)) : Ups w (.slice (some ⟨g, 0, none⟩) n cap) us := by
  subst hn
  have h0 := h
  rcases h.2 with ⟨h', _⟩ | ⟨g', cap', cur, h', hbg, hg, hx, hy, _⟩
  · simp at h'
  · simp only [Value.slice.injEq, Option.some.injEq, Addr.mk.injEq, and_true, true_and] at h'
    obtain ⟨rfl, rfl⟩ := h'
    refine .inr ⟨g, 0, cap, rfl, (Array.getElem?_eq_some_iff.1 hg).1, hx, hy, fun i hi => ?_⟩
    obtain ⟨q0, q1, q2, q3⟩ := vu_at us i hi
    rw [Nat.zero_add]
    exact ⟨(h0.cellAt _ (by omega)).trans q0, (h0.cellAt _ (by omega)).trans q1, (h0.cellAt _ (by omega)).trans q2, (h0.cellAt _ (by omega)).trans q3⟩
theorem ownU_ups {w : World} {g : Nat} {v : Value} {us : List UpM} (h : OwnU w g v us) : Ups w v us := by
  rcases h with ⟨a, cap, rfl, rfl⟩ | ⟨hp, cap, rfl, ho⟩
  · exact .inl ⟨_, _, rfl, rfl⟩
  · exact ups_own rfl ho
theorem ownU_new {w : World} {B g n cap : Nat} {us : List UpM} (hn : us.length = n) (h : w.ownsRow B 83 4 (.slice (some ⟨g, 0, none⟩) n cap) n (vu us)) : OwnU w g (.slice (some ⟨g, 0, none⟩) n cap) us := by
  subst hn
  by_cases hp : 0 < us.length
  · exact .inr ⟨hp, _, rfl, (own_at h).1⟩
  · have : us = [] := List.eq_nil_of_length_eq_zero (by omega)
    subst this
    exact .inl ⟨_, _, rfl, rfl⟩
theorem ownU_lt {w : World} {g : Nat} {v : Value} {us : List UpM} (h : OwnU w g v us) (hp : 0 < us.length) : g < w.heap.size := by
  rcases h with ⟨a, cap, rfl, rfl⟩ | ⟨hp, cap, rfl, ho⟩
  · simp at hp
  · exact (own_at ho).2.2
theorem OwnU.block {w w' : World} {g : Nat} {v : Value} {us : List UpM} (h : OwnU w g v us) (hb : 0 < us.length → w'.heap[g]? = w.heap[g]?) : OwnU w' g v us := by
  rcases h with h | ⟨hp, cap, rfl, ho⟩
  · exact .inl h
  · exact .inr ⟨hp, cap, rfl, row_block ho (hb hp)⟩
theorem OwnU.below {w w' : World} {g : Nat} {v : Value} {us : List UpM} (h : OwnU w g v us) (hb : Below w.heap.size w w') : OwnU w' g v us :=
  h.block fun hp => hb.block g (ownU_lt h hp)
theorem OwnU.other {w w' : World} {g g' : Nat} {v : Value} {us : List UpM} (h : OwnU w g v us) (hb : w.grownBy w' (some g')) (hn : 0 < us.length → g ≠ g') : OwnU w' g v us :=
  h.block fun hp => hb.block g (ownU_lt h hp) (fun e => hn hp (Option.some.inj e))
theorem own_new {w : World} {B g n cap : Nat} {xs : List Int} (hn : xs.length = n) (h : w.ownsRow B 3 1 (.slice (some ⟨g, 0, none⟩) n cap) n (vi xs)) : Own w g (.slice (some ⟨g, 0, none⟩) n cap) xs := by
  subst hn
  by_cases hp : 0 < xs.length
  · exact .inr ⟨hp, _, rfl, (own_at h).1⟩
  · have : xs = [] := List.eq_nil_of_length_eq_zero (by omega)
    subst this
    exact .inl ⟨_, _, rfl, rfl⟩

/-- v is an act that reads as a; its clock lies in block g alone, its ups in block h alone -/
def OwnA (w : World) (g h : Nat) (v : Value) (a : ActM) : Prop :=
  ∃ vd vs, v = .agg #[.int .i64 a.r, .int .i64 a.n, vd, .int .i64 a.actor, .int .i64 a.kind, .int .i64 a.to, .int .i64 a.bucket, .int .i64 a.mask, .int .i64 a.gr, .int .i64 a.gn, vs] ∧ Own w g vd a.dep ∧ OwnU w h vs a.ups
theorem ownA_act {w : World} {g h : Nat} {v : Value} {a : ActM} (k : OwnA w g h v a) : ActIs w v a := by
  obtain ⟨vd, vs, hv, h1, h2⟩ := k
  exact ⟨vd, vs, hv, own_ints h1, ownU_ups h2⟩
theorem OwnA.below {w w' : World} {g h : Nat} {v : Value} {a : ActM} (k : OwnA w g h v a) (hb : Below w.heap.size w w') : OwnA w' g h v a := by
  obtain ⟨vd, vs, hv, h1, h2⟩ := k
  exact ⟨vd, vs, hv, h1.below hb, h2.below hb⟩
theorem OwnA.drewN {w : World} {g h : Nat} {v : Value} {a : ActM} (k : OwnA w g h v a) (n : Nat) : OwnA (w.drewN n) g h v a := k
end Go.Proofs.YtkcfcmigcphjlaaGreat
namespace Go.Proofs.YtkcfcmigcphjlaaGreat
open Go.RowKit
set_option linter.unusedVariables false

def szM (d u : Nat) (left : Int) : Int := if left - d < 0 then -1 else if left - d - u < 0 then -1 else left - d - u
end Go.Proofs.YtkcfcmigcphjlaaGreat
namespace Go.Proofs.YtkcfcmigcphjlaaGreat
open Go.RowKit
set_option linter.unusedVariables false

/-- toAct: the same act, its lists in new cells -/
def ActMade (w : World) (a : ActM) (e : Ending) (w' : World) : Prop := ∃ v g h, e = .returned v ∧ OwnA w' g h v a ∧ w.heap.size ≤ g ∧ g < h ∧ h < w'.heap.size ∧ Below w.heap.size w w'

end Go.Proofs.YtkcfcmigcphjlaaGreat
namespace Go.Proofs.YtkcfcmigcphjlaaGreat
open Go.RowKit
set_option linter.unusedVariables false

def knowsM (a b : ActM) : Bool := decide (0 ≤ b.r) && decide (b.r < a.dep.length) && decide (1 ≤ b.n) && decide (b.n ≤ a.dep.getD b.r.toNat 0)

set_option maxHeartbeats 800000 in
theorem specKnows_any (v v' : Value) (a b : ActM) (w : World) (h : ActIs w v a) (h' : ActIs w v' b) :
    Calls Tryz.prog 37 #[v, v'] w fun e w' => e = .returned (.bool (knowsM a b)) ∧ Below w.heap.size w w' := by
  obtain ⟨vd, vs, rfl, hd, hs⟩ := h
  obtain ⟨vd', vs', rfl, hd', hs'⟩ := h'
  clear hs hs' hd'
  obtain ⟨r', n', dep', actor', kind', to', bucket', mask', gr', gn', ups'⟩ := b
  obtain ⟨r, n, dep, actor, kind, to, bucket, mask, gr, gn, ups⟩ := a
  obtain ⟨R, hR⟩ : ∃ R, R = knowsM ⟨r, n, dep, actor, kind, to, bucket, mask, gr, gn, ups⟩ ⟨r', n', dep', actor', kind', to', bucket', mask', gr', gn', ups'⟩ := ⟨_, rfl⟩
  rw [← hR]
  simp only [knowsM] at hR
  have bb := Lib.hid (((Below.refl w.heap.size w).alloc (Nat.le_refl _) (.cells #[.int .i64 r, .int .i64 n, vd, .int .i64 actor, .int .i64 kind, .int .i64 to, .int .i64 bucket, .int .i64 mask, .int .i64 gr, .int .i64 gn, vs] 33)).alloc (by simp) (.cells #[.int .i64 r', .int .i64 n', vd', .int .i64 actor', .int .i64 kind', .int .i64 to', .int .i64 bucket', .int .i64 mask', .int .i64 gr', .int .i64 gn', vs'] 33))
  by_cases h0 : 0 ≤ r'
  · obtain ⟨a0, c0, hvd⟩ := ints_len hd
    have hmm := ints_max hd
    by_cases h1 : r' < dep.length
    · obtain ⟨k, rfl⟩ := Int.eq_ofNat_of_zero_le h0
      have hk : k < dep.length := by omega
      by_cases h2 : 1 ≤ n'
      · have HR : Hid (R = decide (n' ≤ dep.getD k 0)) := by
          show R = _
          rw [hR]; simp [h1, h2]
        clear hR hvd
        rcases hd with ⟨x, c, rfl, rfl⟩ | ⟨b, off, c, rfl, hb, hl, hm, hc⟩
        · simp at hk
        · have hck := hc k hk
          clear hc
          generalize dep.getD k 0 = x at *
          generalize dep.length = len at *
          have e1 : decide ((k : Int) < len) = true := by simp; omega
          have e2 : decide (0 ≤ (k : Int)) = true := by simp
          have e3 : decide (1 ≤ n') = true := by simp; omega
          go_enter Tryz.func37, Tryz.ntmps37
          go_wp2
          go_quiet (fail)
          go_wp2
          go_ret
          exact ⟨ret_bool HR.out.symm, below_drewN bb.out _⟩
      · have HR : Hid (R = false) := by
          show R = _
          rw [hR]; simp [h2]
        clear hR hd
        subst hvd
        generalize dep.length = len at *
        have e1 : decide ((k : Int) < len) = true := by simp; omega
        have e2 : decide (0 ≤ (k : Int)) = true := by simp
        have e3 : decide (1 ≤ n') = false := by simp; omega
        go_enter Tryz.func37, Tryz.ntmps37
        go_wp2
        go_quiet (fail)
        go_wp2
        go_ret
        exact ⟨ret_bool HR.out.symm, below_drewN bb.out _⟩
    · have HR : Hid (R = false) := by
        show R = _
        rw [hR]; simp [h1]
      clear hR hd
      subst hvd
      generalize dep.length = len at *
      have e1 : decide (r' < len) = false := by simp; omega
      have e2 : decide (0 ≤ r') = true := by simp; omega
      go_enter Tryz.func37, Tryz.ntmps37
      go_wp2
      go_quiet (fail)
      go_wp2
      go_ret
      exact ⟨ret_bool HR.out.symm, below_drewN bb.out _⟩
  · have HR : Hid (R = false) := by
      show R = _
      rw [hR]; simp [h0]
    clear hR hd
    have e2 : decide (0 ≤ r') = false := by simp; omega
    go_enter Tryz.func37, Tryz.ntmps37
    go_wp2
    go_quiet (fail)
    go_wp2
    go_ret
    exact ⟨ret_bool HR.out.symm, below_drewN bb.out _⟩

/-- the sum of a list as Go's int has it -/
def sumW (xs : List Int) : Int := xs.foldl (fun n x => wrap64 (n + x)) 0
theorem sumW_step (xs : List Int) (k : Nat) (hk : k < xs.length) : sumW (xs.take (k + 1)) = wrap64 (sumW (xs.take k) + xs.getD k 0) := by
  unfold sumW
  rw [List.take_succ_eq_append_getElem hk, List.foldl_append]
  simp [List.getD, hk]

set_option maxHeartbeats 400000 in
theorem l2sum_some (b off cap n : Nat) (xs : List Int) (w : World) (hn : xs.length = n) (hl : n ≤ 9223372036854775807)
    (hc : ∀ i, i < n → w.cell? ⟨b, off + i, none⟩ = some (.int .i64 (xs.getD i 0))) :
    Calls Tryz.prog 80 #[.slice (some ⟨b, off, none⟩) n cap] w fun e w' => e = .returned (.int .i64 (sumW xs)) ∧ w' = w := by
  have HN := Lib.hid hn
  have HC := Lib.hid hc
  clear hn hc
  go_enter Tryz.func80, Tryz.ntmps80
  go_wp2
  go_loop [3, 4] (fun t i => ∃ (k : Nat) (s : Int), k ≤ n ∧ i = .int .i64 k ∧ t = .int .i64 s ∧ Hid (s = sumW (xs.take k))) (fun _ i => n - (intOf i).toNat)
  case atStart => exact ⟨0, 0, Nat.zero_le _, rfl, rfl, by simp [Hid, sumW]⟩
  case round =>
    obtain ⟨k, s, hk, rfl, rfl, hs⟩ := hrel
    by_cases hlt : k < n
    · have hc1 := HC.out k hlt
      have hst := sumW_step xs k (by rw [HN.out]; exact hlt)
      generalize xs.getD k 0 = x at *
      have HS := Lib.hid hst
      clear hst
      go_wp2
      go_round
      case rel => exact ⟨k + 1, _, by omega, by go_num, rfl, by show _ = _; rw [HS.out, hs.out]⟩
      case measure => simp [intOf]; omega
    · have : k = n := by omega
      subst this
      go_wp2
      go_ret
      exact ⟨ret_int (by rw [hs.out, List.take_of_length_le (by rw [HN.out]; omega)]), rfl⟩
theorem l2sum_nil (a : Option Addr) (cap : Nat) (w : World) :
    Calls Tryz.prog 80 #[.slice a 0 cap] w fun e w' => e = .returned (.int .i64 (sumW [])) ∧ w' = w := by
  go_enter Tryz.func80, Tryz.ntmps80
  go_wp2
  go_loop [3, 4] (fun t i => t = .int .i64 0 ∧ i = .int .i64 0) (fun _ _ => 0)
  case atStart => exact ⟨rfl, rfl⟩
  case round =>
    obtain ⟨rfl, rfl⟩ := hrel
    go_wp2
    go_ret
    exact ⟨rfl, rfl⟩
theorem l2sum_any (v : Value) (xs : List Int) (w : World) (h : Ints w v xs) :
    Calls Tryz.prog 80 #[v] w fun e w' => e = .returned (.int .i64 (sumW xs)) ∧ w' = w := by
  rcases h with ⟨a, cap, rfl, rfl⟩ | ⟨b, off, cap, rfl, h1, h2, h3, h4⟩
  · exact l2sum_nil _ _ w
  · exact l2sum_some b off cap _ xs w rfl (by unfold maxLen at h3; omega) h4

def aheadM (a b : ActM) : Bool :=
  if sumW a.dep = sumW b.dep then decide (a.r < b.r) || (decide (a.r = b.r) && decide (a.n < b.n)) else decide (sumW a.dep < sumW b.dep)

set_option maxHeartbeats 800000 in
theorem specAhead_any (v v' : Value) (a b : ActM) (w : World) (h : ActIs w v a) (h' : ActIs w v' b) :
    Calls Tryz.prog 35 #[v, v'] w fun e w' => e = .returned (.bool (aheadM a b)) ∧ Below w.heap.size w w' := by
  obtain ⟨vd, vs, rfl, hd, hs⟩ := h
  obtain ⟨vd', vs', rfl, hd', hs'⟩ := h'
  clear hs hs'
  obtain ⟨r', n', dep', actor', kind', to', bucket', mask', gr', gn', ups'⟩ := b
  obtain ⟨r, n, dep, actor, kind, to, bucket, mask, gr, gn, ups⟩ := a
  obtain ⟨R, hR⟩ : ∃ R, R = aheadM ⟨r, n, dep, actor, kind, to, bucket, mask, gr, gn, ups⟩ ⟨r', n', dep', actor', kind', to', bucket', mask', gr', gn', ups'⟩ := ⟨_, rfl⟩
  rw [← hR]
  simp only [aheadM] at hR
  have bb := Lib.hid (((Below.refl w.heap.size w).alloc (Nat.le_refl _) (.cells #[.int .i64 r, .int .i64 n, vd, .int .i64 actor, .int .i64 kind, .int .i64 to, .int .i64 bucket, .int .i64 mask, .int .i64 gr, .int .i64 gn, vs] 33)).alloc (by simp) (.cells #[.int .i64 r', .int .i64 n', vd', .int .i64 actor', .int .i64 kind', .int .i64 to', .int .i64 bucket', .int .i64 mask', .int .i64 gr', .int .i64 gn', vs'] 33))
  have S1 := Lib.hid (fun w h => l2sum_any vd dep w h)
  have S2 := Lib.hid (fun w h => l2sum_any vd' dep' w h)
  have HD := Lib.hid hd
  have HD' := Lib.hid hd'
  clear hd hd'
  generalize sumW dep = x at *
  generalize sumW dep' = y at *
  by_cases h0 : x = y
  · subst h0
    rw [if_pos rfl] at hR
    by_cases h1 : r < r'
    · have HR := Lib.hid (show R = true by rw [hR]; simp [h1])
      clear hR
      go_enter Tryz.func35, Tryz.ntmps35
      go_wp2_with fail
      refine (S1.out _ (HD.out.below (B := 0) bb.out)).mono ?_
      rintro e w1 ⟨rfl, rfl⟩
      go_wp2_with fail
      refine (S2.out _ (HD'.out.below (B := 0) bb.out)).mono ?_
      rintro e w1 ⟨rfl, rfl⟩
      go_wp2
      go_ret
      exact ⟨ret_bool HR.out.symm, bb.out⟩
    · by_cases h2 : r = r'
      · have HR := Lib.hid (show R = decide (n < n') by rw [hR]; simp [h2])
        clear hR
        subst h2
        go_enter Tryz.func35, Tryz.ntmps35
        go_wp2_with fail
        refine (S1.out _ (HD.out.below (B := 0) bb.out)).mono ?_
        rintro e w1 ⟨rfl, rfl⟩
        go_wp2_with fail
        refine (S2.out _ (HD'.out.below (B := 0) bb.out)).mono ?_
        rintro e w1 ⟨rfl, rfl⟩
        go_wp2
        go_ret
        exact ⟨ret_bool HR.out.symm, bb.out⟩
      · have HR := Lib.hid (show R = false by rw [hR]; simp [h1, h2])
        have e1 : (r == r') = false := by simpa using h2
        have e0 : decide (r < r') = false := by simp; omega
        clear hR h2
        go_enter Tryz.func35, Tryz.ntmps35
        go_wp2_with fail
        refine (S1.out _ (HD.out.below (B := 0) bb.out)).mono ?_
        rintro e w1 ⟨rfl, rfl⟩
        go_wp2_with fail
        refine (S2.out _ (HD'.out.below (B := 0) bb.out)).mono ?_
        rintro e w1 ⟨rfl, rfl⟩
        go_wp2
        go_ret
        exact ⟨ret_bool HR.out.symm, bb.out⟩
  · rw [if_neg h0] at hR
    have HR := Lib.hid hR
    have e1 : (x == y) = false := by simpa using h0
    have e2 : (x != y) = true := by simpa using h0
    clear hR h0
    go_enter Tryz.func35, Tryz.ntmps35
    go_wp2_with fail
    refine (S1.out _ (HD.out.below (B := 0) bb.out)).mono ?_
    rintro e w1 ⟨rfl, rfl⟩
    go_wp2_with fail
    refine (S2.out _ (HD'.out.below (B := 0) bb.out)).mono ?_
    rintro e w1 ⟨rfl, rfl⟩
    go_wp2
    go_ret
    exact ⟨ret_bool HR.out.symm, bb.out⟩
end Go.Proofs.YtkcfcmigcphjlaaGreat
namespace Go.Proofs.YtkcfcmigcphjlaaGreat
open Go.Joins Go.ChangeShapes Go.WideShapes Go.RowKit Go.Deep
set_option linter.unusedVariables false

section
variable {H : Type} {enc : TypeId × Value → H} {P : Program} {w : World} {base : Nat} {spare : Nat → Bool} {held : Bool}
theorem open_agg11 {r : Reach} {b0 : Nat} {t : TypeId} {f0 f1 f2 f3 f4 f5 f6 f7 f8 f9 f10 : Field} {v : Value} {d : DataW H} {p : List MemPlace} (hs : P.underlying t = some (.struct #[f0, f1, f2, f3, f4, f5, f6, f7, f8, f9, f10])) (hone : oneCellFields P #[f0, f1, f2, f3, f4, f5, f6, f7, f8, f9, f10] = true) (hC : P.cellsOf t = 11)
    (hv : Value.okWide P w r b0 t v) (h : DataW.Trod enc P w base spare held t v d p) :
    ∃ (v0 v1 v2 v3 v4 v5 v6 v7 v8 v9 v10 : Value) (y0 y1 y2 y3 y4 y5 y6 y7 y8 y9 y10 : DataW H × List MemPlace) (n : Nat), v = .agg #[v0, v1, v2, v3, v4, v5, v6, v7, v8, v9, v10] ∧
      DataW.trod enc P w base spare held n f0.type [v0] = some y0 ∧ DataW.trod enc P w base spare held n f1.type [v1] = some y1 ∧ DataW.trod enc P w base spare held n f2.type [v2] = some y2 ∧ DataW.trod enc P w base spare held n f3.type [v3] = some y3 ∧ DataW.trod enc P w base spare held n f4.type [v4] = some y4 ∧ DataW.trod enc P w base spare held n f5.type [v5] = some y5 ∧ DataW.trod enc P w base spare held n f6.type [v6] = some y6 ∧ DataW.trod enc P w base spare held n f7.type [v7] = some y7 ∧ DataW.trod enc P w base spare held n f8.type [v8] = some y8 ∧ DataW.trod enc P w base spare held n f9.type [v9] = some y9 ∧ DataW.trod enc P w base spare held n f10.type [v10] = some y10 := by
  obtain ⟨cs, rfl, hsz⟩ := okWide_struct hs hv
  obtain ⟨l⟩ := cs
  match l, hsz.trans hC with
  | [c0, c1, c2, c3, c4, c5, c6, c7, c8, c9, c10], _ =>
    obtain ⟨fuel, hf⟩ := h
    obtain ⟨xs, n, _, hx, _, hlen, hg⟩ := DataW.trod_struct hs hf
    obtain ⟨o0, k0⟩ := hone_of hone 0 f0 rfl
    obtain ⟨o1, k1⟩ := hone_of hone 1 f1 rfl
    obtain ⟨o2, k2⟩ := hone_of hone 2 f2 rfl
    obtain ⟨o3, k3⟩ := hone_of hone 3 f3 rfl
    obtain ⟨o4, k4⟩ := hone_of hone 4 f4 rfl
    obtain ⟨o5, k5⟩ := hone_of hone 5 f5 rfl
    obtain ⟨o6, k6⟩ := hone_of hone 6 f6 rfl
    obtain ⟨o7, k7⟩ := hone_of hone 7 f7 rfl
    obtain ⟨o8, k8⟩ := hone_of hone 8 f8 rfl
    obtain ⟨o9, k9⟩ := hone_of hone 9 f9 rfl
    obtain ⟨o10, k10⟩ := hone_of hone 10 f10 rfl
    match xs, hlen with
    | [y0, y1, y2, y3, y4, y5, y6, y7, y8, y9, y10], _ =>
      exact ⟨c0, c1, c2, c3, c4, c5, c6, c7, c8, c9, c10, y0, y1, y2, y3, y4, y5, y6, y7, y8, y9, y10, n, rfl, by simpa [Value.cells, o0, k0] using hg 0 f0 rfl, by simpa [Value.cells, o1, k1] using hg 1 f1 rfl, by simpa [Value.cells, o2, k2] using hg 2 f2 rfl, by simpa [Value.cells, o3, k3] using hg 3 f3 rfl, by simpa [Value.cells, o4, k4] using hg 4 f4 rfl, by simpa [Value.cells, o5, k5] using hg 5 f5 rfl, by simpa [Value.cells, o6, k6] using hg 6 f6 rfl, by simpa [Value.cells, o7, k7] using hg 7 f7 rfl, by simpa [Value.cells, o8, k8] using hg 8 f8 rfl, by simpa [Value.cells, o9, k9] using hg 9 f9 rfl, by simpa [Value.cells, o10, k10] using hg 10 f10 rfl⟩

theorem open_slice_cells {t e : TypeId} {fs : Array Field} {fuel : Nat} {cs : List Value} {x : DataW H × List MemPlace} (ht : P.underlying t = some (.slice e)) (he : P.underlying e = some (.struct fs))
    (hone : oneCellFields P fs = true) (hC : P.cellsOf e = fs.size) (h : DataW.trod enc P w base spare held fuel t cs = some x) :
    cs = [.slice none 0 0] ∨
    ∃ (a : Addr) (len cap m : Nat), cs = [.slice (some a) len cap] ∧ len ≤ cap ∧ cap ≤ maxLen ∧ len ≤ m ∧
      ∀ i, i < m → ∃ n : Nat, ∀ (j : Nat) (f : Field), fs[j]? = some f → ∃ (v : Value) (y : DataW H × List MemPlace), w.cell? (a.add (i * fs.size + j)) = some v ∧ DataW.trod enc P w base spare held n f.type [v] = some y := by
  rcases open_slice ht h with h0 | ⟨a, len, cap, m, n, D, Pl, hcs, hb, hl, hm, hmm, hx, hi⟩
  · exact .inl h0.1
  · refine .inr ⟨a, len, cap, m, hcs, hl, hm, by rw [hmm]; split <;> omega, fun i him => ?_⟩
    obtain ⟨cs', hc, ht'⟩ := hi i him
    rw [hC] at hc
    obtain ⟨ys, n', hn', hy, hlen, hyl, hf⟩ := DataW.trod_struct he ht'
    obtain ⟨_, hcl, hat⟩ := World.cells?_some hc
    refine ⟨n', fun j f hj => ?_⟩
    obtain ⟨ho, hk⟩ := hone_of hone j f hj
    have hjl : j < fs.size := (Array.getElem?_eq_some_iff.1 hj).1
    have hcell := hat j hjl
    have hv : cs'[j]? = some (cs'[j]'(by omega)) := List.getElem?_eq_getElem (by omega)
    have h1 := hf j f hj
    rw [ho, hk] at h1
    have hone' : (cs'.drop j).take 1 = [cs'[j]'(by omega)] := by
      rw [List.drop_eq_getElem_cons (by omega)]
      rfl
    rw [hone'] at h1
    have hys : ys[j]? = some (ys[j]'(by omega)) := List.getElem?_eq_getElem (by omega)
    refine ⟨_, _, ?_, h1.trans hys⟩
    rw [← Go.Deep.add_add, hcell, hv]
end
end Go.Proofs.YtkcfcmigcphjlaaGreat
namespace Go.Proofs.YtkcfcmigcphjlaaGreat
open Go.Joins Go.ChangeShapes Go.WideShapes Go.ChangeAt Go.RowKit Go.Deep
set_option linter.unusedVariables false

theorem int_in {H : Type} {enc : TypeId × Value → H} {W : World} {base : Nat} {spare : Nat → Bool} {held : Bool} {n : Nat} {v : Value} {y : DataW H × List MemPlace} (h : DataW.trod enc Tryz.prog W base spare held n 3 [v] = some y) :
    ∃ x : Int, v = .int .i64 x := by
  obtain ⟨a, e0, _, _⟩ := DataW.trod_int Tryz.underlying3 h
  simp only [List.cons.injEq, and_true] at e0
  exact ⟨a, e0⟩

theorem ints_in {H : Type} {enc : TypeId × Value → H} {W : World} {base : Nat} {n : Nat} {v : Value} {y : DataW H × List MemPlace} (h : DataW.trod enc Tryz.prog W base (fun _ => true) true n 27 [v] = some y) :
    ∃ xs, Ints W v xs := by
  rcases open_ints Tryz.underlying27 Tryz.underlying3 (by kernel_rfl) h with ⟨hcs, _⟩ | ⟨x, l, c, zs, hcs, _, hl, hm, hz, _, hcell, hwz⟩
  · simp only [List.cons.injEq, and_true] at hcs
    exact ⟨[], .inl ⟨_, _, hcs, rfl⟩⟩
  · simp only [List.cons.injEq, and_true] at hcs
    subst hcs
    exact ⟨_, (ints_row W (some x) l c zs (.inr ⟨x, rfl, hl, hm, by simpa using hz, hcell, hwz⟩)).1⟩

end Go.Proofs.YtkcfcmigcphjlaaGreat
namespace Go.Proofs.YtkcfcmigcphjlaaGreat
open Go.RowKit
set_option linter.unusedVariables false

theorem szM_ok {d u : Nat} {left : Int} (h : ¬ szM d u left < 0) : (d : Int) ≤ left ∧ (u : Int) ≤ left ∧ szM d u left = left - d - u := by
  unfold szM at h ⊢
  split at h
  · omega
  · split at h
    · omega
    · rename_i h1 h2
      rw [if_neg h1, if_neg h2]
      omega
theorem szM_range (d u : Nat) (left : Int) (h : left ≤ 1048576) : -1 ≤ szM d u left ∧ szM d u left ≤ 1048576 := by
  unfold szM
  split
  · omega
  · split <;> omega

/-- the model of ActOk -/
def okUp (u : UpM) : Bool := decide (1 ≤ u.kind) && decide (u.kind ≤ 4) && decide (0 ≤ u.bucket) && decide (u.bucket < 3) && decide (0 ≤ u.key) && decide (u.key < 4)
def okUps (l : List UpM) : Bool := decide (l.length ≤ 5) && l.all okUp
def maskM (a : ActM) : Bool := decide (0 ≤ a.bucket) && decide (a.bucket < 3) && decide (0 ≤ a.mask) && decide (a.mask ≤ 15)
def fieldsM (a : ActM) (n : Int) : Bool :=
  if a.kind = 1 then decide (0 ≤ a.to) && decide (a.to < 6) && maskM a && decide (a.gr = 0) && decide (a.gn = 0) && decide (a.ups.length = 0)
  else if a.kind = 2 then decide (0 ≤ a.gr) && decide (a.gr < n) && decide (1 ≤ a.gn) && decide (a.gn ≤ a.dep.getD a.gr.toNat 0) && decide (a.to = 0) && decide (a.bucket = 0) && decide (a.mask = 0) && decide (a.ups.length = 0)
  else if a.kind = 3 then maskM a && decide (a.to = 0) && decide (a.gr = 0) && decide (a.gn = 0) && decide (a.ups.length = 0)
  else if a.kind = 4 then okUps a.ups && decide (a.to = 0) && decide (a.bucket = 0) && decide (a.mask = 0) && decide (a.gr = 0) && decide (a.gn = 0)
  else false
def actOkM (a : ActM) (n : Int) : Bool :=
  decide (1 ≤ n) && decide (n ≤ 4) && decide (0 ≤ a.r) && decide (a.r < n) && decide (1 ≤ a.n) && decide (a.n ≤ 100000) && okB a.dep && decide ((a.dep.length : Int) = n) && decide (a.dep.getD a.r.toNat 0 = a.n - 1) && decide (0 ≤ a.actor) && decide (a.actor < 6) && fieldsM a n
/-- the model of Needs -/
def needsM (a : ActM) (b : Int) : Int :=
  (if a.ups.any (fun u => u.bucket = b && u.kind = 2) = true then 4 else 0) + (if a.ups.any (fun u => u.bucket = b && (u.kind = 1 || u.kind = 3 || u.kind = 4)) = true then 2 else 0)
def sameM (a b : ActM) : Bool := decide (a = b)

def ImplKnows : Prop := ∀ (v v' : Value) (a b : ActM) (w : World), ActIs w v a → ActIs w v' b →
  Calls Tryz.prog 12 #[v, v'] w fun e w' => e = .returned (.bool (knowsM a b)) ∧ Below w.heap.size w w'
def SpecKnows : Prop := ∀ (v v' : Value) (a b : ActM) (w : World), ActIs w v a → ActIs w v' b →
  Calls Tryz.prog 37 #[v, v'] w fun e w' => e = .returned (.bool (knowsM a b)) ∧ Below w.heap.size w w'
def ImplAhead : Prop := ∀ (v v' : Value) (a b : ActM) (w : World), ActIs w v a → ActIs w v' b →
  Calls Tryz.prog 13 #[v, v'] w fun e w' => e = .returned (.bool (aheadM a b)) ∧ Below w.heap.size w w'
def SpecAhead : Prop := ∀ (v v' : Value) (a b : ActM) (w : World), ActIs w v a → ActIs w v' b →
  Calls Tryz.prog 35 #[v, v'] w fun e w' => e = .returned (.bool (aheadM a b)) ∧ Below w.heap.size w w'
def ImplActOk : Prop := ∀ (v : Value) (a : ActM) (n : Int) (w : World), ActIs w v a → (-9223372036854775808 ≤ n ∧ n ≤ 9223372036854775807) →
  Calls Tryz.prog 99 #[v, .int .i64 n] w fun e w' => e = .returned (.bool (actOkM a n)) ∧ Below w.heap.size w w'
def ImplSameAct : Prop := ∀ (v v' : Value) (a b : ActM) (w : World), ActIs w v a → ActIs w v' b →
  Calls Tryz.prog 19 #[v, v'] w fun e w' => e = .returned (.bool (sameM a b)) ∧ Below w.heap.size w w'
def SpecActOk : Prop := ∀ (v : Value) (a : ActM) (n : Int) (w : World), ActIs w v a → (-9223372036854775808 ≤ n ∧ n ≤ 9223372036854775807) →
  Calls Tryz.prog 34 #[v, .int .i64 n] w fun e w' => e = .returned (.bool (actOkM a n)) ∧ Below w.heap.size w w'
def SpecSameAct : Prop := ∀ (v v' : Value) (a b : ActM) (w : World), ActIs w v a → ActIs w v' b →
  Calls Tryz.prog 63 #[v, v'] w fun e w' => e = .returned (.bool (sameM a b)) ∧ Below w.heap.size w w'

end Go.Proofs.YtkcfcmigcphjlaaGreat
namespace Go.Proofs.YtkcfcmigcphjlaaGreat
open Go.RowKit
set_option linter.unusedVariables false

theorem below_grown {w w' : World} (h : Below w.heap.size w w') (r : Option Nat) : w.grownBy w' r := ⟨h.os, h.tape, h.output, h.size, fun k hk _ => h.block k hk⟩
theorem wp_gen {P : Program} {cc : Go.Code} {Q : Exit → Act → World → Prop} {a : Act} {W : World} (h : ∀ V, V = W → Go.Code.wp P cc Q a V) : Go.Code.wp P cc Q a W := h W rfl
end Go.Proofs.YtkcfcmigcphjlaaGreat



namespace Go.Proofs.YtkcfcmigcphjlaaGreat
open Go.RowKit
set_option linter.unusedVariables false

set_option maxHeartbeats 800000 in
theorem mask_any (r n actor kind to bucket mask gr gn : Int) (dep : List Int) (ups : List UpM) (vd vs : Value) (w : World) :
    Calls Tryz.prog 102 #[.agg #[.int .i64 r, .int .i64 n, vd, .int .i64 actor, .int .i64 kind, .int .i64 to, .int .i64 bucket, .int .i64 mask, .int .i64 gr, .int .i64 gn, vs]] w fun e w' => e = .returned (.bool (maskM ⟨r, n, dep, actor, kind, to, bucket, mask, gr, gn, ups⟩)) ∧ Below w.heap.size w w' := by
  have bb := Lib.hid ((Below.refl w.heap.size w).alloc (Nat.le_refl _) (.cells #[.int .i64 r, .int .i64 n, vd, .int .i64 actor, .int .i64 kind, .int .i64 to, .int .i64 bucket, .int .i64 mask, .int .i64 gr, .int .i64 gn, vs] 33))
  obtain ⟨R, hR⟩ : ∃ R, R = maskM ⟨r, n, dep, actor, kind, to, bucket, mask, gr, gn, ups⟩ := ⟨_, rfl⟩
  rw [← hR]
  simp only [maskM] at hR
  by_cases h0 : 0 ≤ bucket
  · have d0 : decide (0 ≤ bucket) = true := by simpa using h0
    by_cases h1 : bucket < 3
    · have d1 : decide (bucket < 3) = true := by simpa using h1
      by_cases h2 : 0 ≤ mask
      · have d2 : decide (0 ≤ mask) = true := by simpa using h2
        have HR := Lib.hid (show R = decide (mask ≤ 15) by rw [hR]; simp [d0, d1, d2])
        clear hR
        go_enter Tryz.func102, Tryz.ntmps102
        go_wp2
        go_ret
        exact ⟨ret_bool HR.out.symm, bb.out⟩
      · have d2 : decide (0 ≤ mask) = false := by simp; omega
        have HR := Lib.hid (show R = false by rw [hR]; simp [d2])
        clear hR
        go_enter Tryz.func102, Tryz.ntmps102
        go_wp2
        go_ret
        exact ⟨ret_bool HR.out.symm, bb.out⟩
    · have d1 : decide (bucket < 3) = false := by simp; omega
      have HR := Lib.hid (show R = false by rw [hR]; simp [d1])
      clear hR
      go_enter Tryz.func102, Tryz.ntmps102
      go_wp2
      go_ret
      exact ⟨ret_bool HR.out.symm, bb.out⟩
  · have d0 : decide (0 ≤ bucket) = false := by simp; omega
    have HR := Lib.hid (show R = false by rw [hR]; simp [d0])
    clear hR
    go_enter Tryz.func102, Tryz.ntmps102
    go_wp2
    go_ret
    exact ⟨ret_bool HR.out.symm, bb.out⟩

theorem okUp_iff (u : UpM) : okUp u = true ↔ 1 ≤ u.kind ∧ u.kind ≤ 4 ∧ 0 ≤ u.bucket ∧ u.bucket < 3 ∧ 0 ≤ u.key ∧ u.key < 4 := by
  simp [okUp, and_assoc]
theorem okUps_bad (l : List UpM) (k : Nat) (hk : k < l.length) (h : okUp (l.getD k up0) = false) : okUps l = false := by
  simp only [List.getD, List.getElem?_eq_getElem hk, Option.getD_some] at h
  simp only [okUps, Bool.and_eq_false_iff]
  refine .inr ?_
  rw [List.all_eq_false]
  exact ⟨l[k], List.getElem_mem _, by simp [h]⟩
theorem okUps_step (l : List UpM) (k : Nat) (hk : k < l.length) (h : (l.take k).all okUp = true) (h' : okUp (l.getD k up0) = true) : (l.take (k + 1)).all okUp = true := by
  simp only [List.getD, List.getElem?_eq_getElem hk, Option.getD_some] at h'
  rw [List.take_succ_eq_append_getElem hk, List.all_append, h]
  simp [h']

set_option maxHeartbeats 1600000 in
theorem ups_some (b off cap len : Nat) (ups : List UpM) (w : World) (h1 : ups.length = len) (hl : len ≤ 9223372036854775807) (hb : b < w.heap.size)
    (hc : ∀ i, i < len → UpAt w b (off + i * 4) (ups.getD i up0)) :
    Calls Tryz.prog 103 #[.slice (some ⟨b, off, none⟩) len cap] w fun e w' => e = .returned (.bool (okUps ups)) ∧ Below w.heap.size w w' := by
  have N1 := Lib.hid h1
  have HC := Lib.hid hc
  obtain ⟨R, hR⟩ : ∃ R, R = okUps ups := ⟨_, rfl⟩
  rw [← hR]
  have HR := Lib.hid hR
  clear h1 hc hR
  by_cases h5 : len ≤ 5
  · go_enter Tryz.func103, Tryz.ntmps103
    go_wp2
    go_loopw [3] (fun i wr => ∃ k : Nat, k ≤ len ∧ i = .int .i64 k ∧ Hid ((ups.take k).all okUp = true) ∧ Hid (Below w.heap.size w wr)) (fun i _ => len - (intOf i).toNat)
    case atStart => exact ⟨0, Nat.zero_le _, rfl, by simp [Hid], Below.refl _ _⟩
    case round =>
      obtain ⟨k, hk, rfl, hg, hbel⟩ := hrel
      by_cases hlt : k < len
      · obtain ⟨q0, q1, q2, q3⟩ := HC.out k hlt
        have c0 := (hbel.out.cell (p := ⟨b, off + k * 4, none⟩) hb).trans q0
        have c1 := (hbel.out.cell (p := ⟨b, off + k * 4 + 1, none⟩) hb).trans q1
        have c2 := (hbel.out.cell (p := ⟨b, off + k * 4 + 2, none⟩) hb).trans q2
        have c3 := (hbel.out.cell (p := ⟨b, off + k * 4 + 3, none⟩) hb).trans q3
        clear q0 q1 q2 q3
        obtain ⟨u, hu⟩ : ∃ u, ups.getD k up0 = u := ⟨_, rfl⟩
        rw [hu] at c0 c1 c2 c3
        have HU := Lib.hid hu
        clear hu
        have hlw : wr.heap.size < wr.heap.size + 1 := by omega
        by_cases hok : okUp u = true
        · have hs := Lib.hid (okUps_step ups k (by rw [N1.out]; exact hlt) hg.out (by rw [HU.out]; exact hok))
          obtain ⟨p0, p1, p2, p3, p4, p5⟩ := (okUp_iff u).1 hok
          obtain ⟨u0, u1, u2, u3⟩ := u
          simp only at c0 c1 c2 c3 p0 p1 p2 p3 p4 p5
          clear hok
          go_wp2
          go_roundw
          case rel => exact ⟨k + 1, by omega, by go_num, hs.out, hbel.out.alloc hbel.out.size _⟩
          case measure => simp [intOf]; omega
        · have hno : okUp u = false := by simpa using hok
          have HRF := Lib.hid (show R = false by rw [HR.out]; exact okUps_bad ups k (by rw [N1.out]; exact hlt) (by rw [HU.out]; exact hno))
          have hbad : ¬ (1 ≤ u.kind ∧ u.kind ≤ 4 ∧ 0 ≤ u.bucket ∧ u.bucket < 3 ∧ 0 ≤ u.key ∧ u.key < 4) := fun h => hok ((okUp_iff u).2 h)
          clear hok hno HU
          obtain ⟨u0, u1, u2, u3⟩ := u
          simp only at c0 c1 c2 c3 hbad
          have hcase : u0 < 1 ∨ (1 ≤ u0 ∧ 4 < u0) ∨ (1 ≤ u0 ∧ u0 ≤ 4 ∧ u1 < 0) ∨ (1 ≤ u0 ∧ u0 ≤ 4 ∧ 0 ≤ u1 ∧ 3 ≤ u1) ∨ (1 ≤ u0 ∧ u0 ≤ 4 ∧ 0 ≤ u1 ∧ u1 < 3 ∧ u2 < 0) ∨ (1 ≤ u0 ∧ u0 ≤ 4 ∧ 0 ≤ u1 ∧ u1 < 3 ∧ 0 ≤ u2 ∧ 4 ≤ u2) := by omega
          clear hbad
          rcases hcase with p | ⟨p, p'⟩ | ⟨p, p', p2⟩ | ⟨p, p', p2, p3⟩ | ⟨p, p', p2, p3, p4⟩ | ⟨p, p', p2, p3, p4, p5⟩
          all_goals
            go_wp2
            go_ret
            exact ⟨ret_bool HRF.out.symm, hbel.out.alloc hbel.out.size _⟩
      · have HRT := Lib.hid (show R = true by
          have := hg.out
          rw [List.take_of_length_le (by rw [N1.out]; omega)] at this
          rw [HR.out]
          simp only [okUps, this, Bool.and_true, decide_eq_true_eq, N1.out]
          exact h5)
        go_wp2
        go_ret
        exact ⟨ret_bool HRT.out.symm, hbel.out⟩
  · have HRF := Lib.hid (show R = false by
      rw [HR.out]
      simp only [okUps, Bool.and_eq_false_iff, decide_eq_false_iff_not, N1.out]
      exact .inl h5)
    go_enter Tryz.func103, Tryz.ntmps103
    go_wp2
    go_ret
    exact ⟨ret_bool HRF.out.symm, Below.refl _ _⟩
theorem ups_nil (a : Option Addr) (cap : Nat) (w : World) :
    Calls Tryz.prog 103 #[.slice a 0 cap] w fun e w' => e = .returned (.bool (okUps [])) ∧ Below w.heap.size w w' := by
  go_enter Tryz.func103, Tryz.ntmps103
  go_wp2
  go_loop [3] (fun i => i = .int .i64 0) (fun _ => 0)
  case atStart => rfl
  case round =>
    obtain rfl := hrel
    go_wp2
    go_ret
    exact ⟨rfl, Below.refl _ _⟩
theorem ups_any (v : Value) (ups : List UpM) (w : World) (h : Ups w v ups) :
    Calls Tryz.prog 103 #[v] w fun e w' => e = .returned (.bool (okUps ups)) ∧ Below w.heap.size w w' := by
  have hm := ups_max h
  rcases h with ⟨a, cap, rfl, rfl⟩ | ⟨b, off, cap, rfl, h1, h2, h3, h4⟩
  · exact ups_nil _ _ w
  · exact ups_some b off cap _ ups w rfl hm h1 h4
end Go.Proofs.YtkcfcmigcphjlaaGreat
