/- Memory: blocks known whole, slices of the call's own, worlds that grew. -/
import Derived.Test.YtcgncaiehdcooaaB
import Derived.WalkSmall
namespace Go.Proofs.Ytcgncaiehdcooaa
open Go.RowKit
set_option linter.unusedVariables false

def vi (l : List Int) : List Value := l.map (Value.int .i64)


theorem ints_len {w : World} {v : Value} {xs : List Int} (h : Ints w v xs) : ∃ a cap, v = .slice a xs.length cap := by
  rcases h with ⟨a, cap, rfl, rfl⟩ | ⟨b, off, cap, rfl, _⟩
  · exact ⟨a, cap, rfl⟩
  · exact ⟨_, cap, rfl⟩
theorem ints_drewN {w : World} {v : Value} {xs : List Int} (h : Ints w v xs) (n : Nat) : Ints (w.drewN n) v xs := h
theorem ints_max {w : World} {v : Value} {xs : List Int} (h : Ints w v xs) : xs.length ≤ 9223372036854775807 := by
  rcases h with ⟨a, cap, rfl, rfl⟩ | ⟨b, off, cap, rfl, _, h2, h3, _⟩
  · simp
  · unfold maxLen at h3; omega


/-- block B holds the cells l, none frozen -/
structure Blk (w : World) (B : Nat) (l : List Value) : Prop where
  lt : B < w.heap.size
  cell : ∀ j, w.cell? ⟨B, j, none⟩ = l[j]?
  free : ∀ j, w.frozen? ⟨B, j, none⟩ = false
theorem Blk.new (w : World) (cs : Array Value) (t : TypeId) : Blk (w.alloc (.cells cs t)) w.heap.size cs.toList :=
  ⟨by simp, fun j => by simp, fun j => by simp⟩
theorem Blk.alloc {w : World} {B : Nat} {l : List Value} (h : Blk w B l) (o : Obj) : Blk (w.alloc o) B l :=
  ⟨by have := h.lt; simp; omega, fun j => by rw [World.cell?_alloc_old _ _ _ (by have := h.lt; simp; omega)]; exact h.cell j, fun j => by rw [World.frozen?_alloc_old _ _ _ (by have := h.lt; simp; omega)]; exact h.free j⟩
theorem Blk.drewN {w : World} {B : Nat} {l : List Value} (h : Blk w B l) (n : Nat) : Blk (w.drewN n) B l := ⟨h.lt, h.cell, h.free⟩
theorem Blk.drew {w : World} {B : Nat} {l : List Value} (h : Blk w B l) : Blk w.drew B l := ⟨h.lt, h.cell, h.free⟩
theorem Blk.other {w : World} {B : Nat} {l : List Value} (h : Blk w B l) {p : Addr} (hp : p.block ≠ B) (v : Value) : Blk (w.setCell p v) B l :=
  ⟨by have := h.lt; simpa [World.setCell] using this, fun j => (World.cell?_setCell_other (h := by intro e; rw [e] at hp; exact hp rfl) ..).trans (h.cell j), fun j => by rw [World.frozen?_setCell]; exact h.free j⟩
theorem Blk.set {w : World} {B : Nat} {l : List Value} (h : Blk w B l) {j : Nat} (hj : j < l.length) (v : Value) : Blk (w.setCell ⟨B, j, none⟩ v) B (l.set j v) := by
  refine ⟨by have := h.lt; simpa [World.setCell] using this, fun i => ?_, fun j => by rw [World.frozen?_setCell]; exact h.free j⟩
  by_cases e : i = j
  · subst e
    refine (World.cell?_setCell_same (h := (h.cell i).trans (List.getElem?_eq_getElem hj)) ..).trans ?_
    simp [hj]
  · refine (World.cell?_setCell_other (h := by intro e'; injection e' with _ e'' _; exact e e''.symm) ..).trans ?_
    rw [h.cell i, List.getElem?_set_ne (by omega)]
theorem Blk.below {w w' : World} {B K : Nat} {l : List Value} (h : Blk w B l) (hb : Below K w w') (hk : B < K) : Blk w' B l :=
  ⟨Nat.lt_of_lt_of_le h.lt hb.size, fun j => (hb.cell (p := ⟨B, j, none⟩) hk).trans (h.cell j), fun j => (hb.frozen (p := ⟨B, j, none⟩) hk).trans (h.free j)⟩


theorem bcell {W w1 : World} (hb : Below W.heap.size W w1) : (∀ b o, b < W.heap.size → w1.cell? ⟨b, o, none⟩ = W.cell? ⟨b, o, none⟩) ∧ (∀ b o, b < W.heap.size → w1.frozen? ⟨b, o, none⟩ = W.frozen? ⟨b, o, none⟩) :=
  ⟨fun b o h => hb.cell (p := ⟨b, o, none⟩) h, fun b o h => hb.frozen (p := ⟨b, o, none⟩) h⟩

/-- v reads as xs, in cells of block g alone, which may be written -/
def Own (w : World) (g : Nat) (v : Value) (xs : List Int) : Prop :=
  (∃ a cap, v = .slice a 0 cap ∧ xs = []) ∨ (0 < xs.length ∧ ∃ cap, v = .slice (some ⟨g, 0, none⟩) xs.length cap ∧ w.ownsRow g 3 1 (.slice (some ⟨g, 0, none⟩) xs.length cap) xs.length (vi xs))

theorem own_at {w : World} {B e size g n cap n' : Nat} {xs : List Value} (h : w.ownsRow B e size (.slice (some ⟨g, 0, none⟩) n cap) n' xs) : w.ownsRow g e size (.slice (some ⟨g, 0, none⟩) n cap) n' xs ∧ B ≤ g ∧ g < w.heap.size := by
  obtain ⟨h1, h2⟩ := h
  rcases h2 with ⟨h', _⟩ | ⟨g', cap', cur, h', hbg, hg, r⟩
  · simp at h'
  · have h0 := h'
    simp only [Value.slice.injEq, Option.some.injEq, Addr.mk.injEq, and_true] at h'
    obtain ⟨rfl, _⟩ := h'
    exact ⟨⟨h1, .inr ⟨g, cap', cur, h0, Nat.le_refl _, hg, r⟩⟩, hbg, (Array.getElem?_eq_some_iff.1 hg).1⟩
theorem own_ints {w : World} {g : Nat} {v : Value} {xs : List Int} (h : Own w g v xs) : Ints w v xs := by
  rcases h with ⟨a, cap, rfl, rfl⟩ | ⟨hp, cap, rfl, ho⟩
  · exact .inl ⟨_, _, rfl, rfl⟩
  · exact ints_own rfl ho
theorem own_lt {w : World} {g : Nat} {v : Value} {xs : List Int} (h : Own w g v xs) (hp : 0 < xs.length) : g < w.heap.size := by
  rcases h with ⟨a, cap, rfl, rfl⟩ | ⟨hp, cap, rfl, ho⟩
  · simp at hp
  · exact (own_at ho).2.2
theorem row_block {w w' : World} {g : Nat} {e size n cap : Nat} {xs : List Value} (h : w.ownsRow g e size (.slice (some ⟨g, 0, none⟩) n cap) n xs) (hb : w'.heap[g]? = w.heap[g]?) : w'.ownsRow g e size (.slice (some ⟨g, 0, none⟩) n cap) n xs := by
  obtain ⟨h1, h2⟩ := h
  refine ⟨h1, ?_⟩
  rcases h2 with h2 | ⟨g', cap', cur, hv, hg, hh, r⟩
  · exact .inl h2
  · have h0 := hv
    simp only [Value.slice.injEq, Option.some.injEq, Addr.mk.injEq, and_true] at hv
    obtain ⟨rfl, _⟩ := hv
    exact .inr ⟨g, cap', cur, h0, hg, by rw [hb]; exact hh, r⟩
theorem Own.block {w w' : World} {g : Nat} {v : Value} {xs : List Int} (h : Own w g v xs) (hb : 0 < xs.length → w'.heap[g]? = w.heap[g]?) : Own w' g v xs := by
  rcases h with h | ⟨hp, cap, rfl, ho⟩
  · exact .inl h
  · exact .inr ⟨hp, cap, rfl, row_block ho (hb hp)⟩
theorem Own.below {w w' : World} {g : Nat} {v : Value} {xs : List Int} (h : Own w g v xs) (hb : Below w.heap.size w w') : Own w' g v xs :=
  h.block fun hp => hb.block g (own_lt h hp)
theorem Own.drewN {w : World} {g : Nat} {v : Value} {xs : List Int} (h : Own w g v xs) (n : Nat) : Own (w.drewN n) g v xs := h
theorem Own.other {w w' : World} {g g' : Nat} {v : Value} {xs : List Int} (h : Own w g v xs) (hb : w.grownBy w' (some g')) (hn : 0 < xs.length → g ≠ g') : Own w' g v xs :=
  h.block fun hp => hb.block g (own_lt h hp) (fun e => hn hp (Option.some.inj e))

/-- k, k+1, .. -/
def iota (k : Int) : Nat → List Int
  | 0 => []
  | n + 1 => k :: iota (k + 1) n
theorem iota_length (k : Int) (n : Nat) : (iota k n).length = n := by
  induction n generalizing k with
  | zero => rfl
  | succ n ih => simp [iota, ih]
theorem iota_getD (k : Int) (n i : Nat) (h : i < n) : (iota k n).getD i 0 = k + i := by
  induction n generalizing k i with
  | zero => omega
  | succ n ih =>
    cases i with
    | zero => simp [iota]
    | succ i => simp only [iota, List.getD_cons_succ]; rw [ih (k + 1) i (by omega)]; omega
theorem iota_snoc (k : Int) (n : Nat) : iota k (n + 1) = iota k n ++ [k + n] := by
  induction n generalizing k with
  | zero => simp [iota]
  | succ n ih => rw [iota, ih (k + 1), iota, List.cons_append]; congr 3; omega
theorem mark_set (xs : List Int) (k : Int) (i : Nat) (h : i < xs.length) : (vi (iota k i ++ xs.drop i)).set i (.int .i64 (k + i)) = vi (iota k (i + 1) ++ xs.drop (i + 1)) := by
  unfold vi
  rw [List.map_append, List.set_append_right _ _ (by simp [iota_length]), List.length_map, iota_length, Nat.sub_self, List.drop_eq_getElem_cons h, List.map_cons, List.set_cons_zero, iota_snoc]
  simp

theorem grown_refl (w : World) (r : Option Nat) : w.grownBy w r := ⟨rfl, rfl, rfl, Nat.le_refl _, fun _ _ _ => rfl⟩
theorem grown_set {w : World} (B o : Nat) (v : Value) : w.grownBy (w.setCell ⟨B, o, none⟩ v) (some B) :=
  ⟨rfl, rfl, rfl, by simp, fun k _ hk => Below.heap_setCell _ _ _ _ (by intro e; exact hk (by rw [e]))⟩
theorem grown_drewN (w : World) (n : Nat) (r : Option Nat) : w.grownBy (w.drewN n) r := ⟨rfl, rfl, rfl, Nat.le_refl _, fun _ _ _ => rfl⟩

theorem Blk.same {w w' : World} {B : Nat} {l : List Value} (h : Blk w B l) (hs : w.heap.size ≤ w'.heap.size) (hb : w'.heap[B]? = w.heap[B]?) : Blk w' B l :=
  ⟨Nat.lt_of_lt_of_le h.lt hs, fun j => (World.cell?_of_block (a := ⟨B, j, none⟩) hb).trans (h.cell j), fun j => (World.frozen?_of_block (a := ⟨B, j, none⟩) hb).trans (h.free j)⟩
theorem grown_alloc (w : World) (o : Obj) (r : Option Nat) : w.grownBy (w.alloc o) r := World.grownBy_alloc w o r
theorem grown_weak {w w' : World} {r r' : Option Nat} (h : w.grownBy w' r) (hr : ∀ k, r = some k → r' = some k ∨ w.heap.size ≤ k) : w.grownBy w' r' :=
  ⟨h.os, h.tape, h.output, h.size, fun k hk hn => h.block k hk (fun e => by
    rcases hr k e.symm with h' | h'
    · exact hn h'.symm
    · omega)⟩

theorem own_of_row {w : World} {K n : Nat} {v : Value} {xs : List Int} (hn : xs.length = n) (h : w.ownsRow K 3 1 v n (vi xs)) : ∃ g, K ≤ g ∧ Own w g v xs := by
  subst hn
  have h0 := h
  rcases h.2 with ⟨hv, hz⟩ | ⟨g, cap, cur, hv, hg, _⟩
  · have : xs = [] := List.eq_nil_of_length_eq_zero hz
    subst this
    exact ⟨K, Nat.le_refl _, .inl ⟨_, _, hv, rfl⟩⟩
  · refine ⟨g, hg, ?_⟩
    subst hv
    by_cases hp : 0 < xs.length
    · exact .inr ⟨hp, cap, rfl, (own_at h0).1⟩
    · have : xs = [] := List.eq_nil_of_length_eq_zero (by omega)
      subst this
      exact .inl ⟨_, _, rfl, rfl⟩

theorem row_grown {w w' : World} {K : Nat} {e size n : Nat} {v : Value} {xs : List Value} {r : Option Nat} (h : w.ownsRow K e size v n xs) (hg : w.grownBy w' r) (hr : ∀ g, r = some g → g < K) : w'.ownsRow K e size v n xs := by
  obtain ⟨h1, h2⟩ := h
  refine ⟨h1, ?_⟩
  rcases h2 with h2 | ⟨g, cap, cur, hv, hk, hh, r'⟩
  · exact .inl h2
  · refine .inr ⟨g, cap, cur, hv, hk, ?_, r'⟩
    rw [hg.block g (Array.getElem?_eq_some_iff.1 hh).1 (fun e => by have := hr g e.symm; omega)]
    exact hh
theorem grown_then {w w1 w2 : World} {r r2 : Option Nat} (h : w.grownBy w1 r) (h2 : w1.grownBy w2 r2) (hr : ∀ g, r2 = some g → r = some g ∨ w.heap.size ≤ g) : w.grownBy w2 r :=
  ⟨h2.os.trans h.os, h2.tape.trans h.tape, h2.output.trans h.output, Nat.le_trans h.size h2.size, fun k hk hn => (h2.block k (by have := h.size; omega) (fun e => by
    rcases hr k e.symm with h' | h'
    · exact hn h'.symm
    · omega)).trans (h.block k hk hn)⟩
theorem own_block_ge {w : World} {K e size n : Nat} {v : Value} {xs : List Value} (h : w.ownsRow K e size v n xs) : ∀ g, v.ownBlock = some g → K ≤ g := by
  intro g hg
  rcases h.2 with ⟨rfl, _⟩ | ⟨g', cap, cur, rfl, hk, _⟩
  · cases hg
  · cases hg; exact hk

theorem Own.below' {w w' : World} {g B : Nat} {v : Value} {xs : List Int} (h : Own w g v xs) (hb : Below B w w') (hB : 0 < xs.length → g < B) : Own w' g v xs :=
  h.block fun hp => hb.block g (hB hp)

theorem own_open {w : World} {g : Nat} {v : Value} {xs : List Int} (h : Own w g v xs) (hp : 0 < xs.length) : ∃ cap, v = .slice (some ⟨g, 0, none⟩) xs.length cap ∧ w.ownsRow g 3 1 (.slice (some ⟨g, 0, none⟩) xs.length cap) xs.length (vi xs) := by
  rcases h with ⟨a, cap, rfl, rfl⟩ | ⟨_, h⟩
  · simp at hp
  · exact h
end Go.Proofs.Ytcgncaiehdcooaa
