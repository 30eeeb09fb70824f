/- Acts: the model of ups and acts; how they read in memory; toUp, toUpS. -/
import Derived.Test.YtcgncaiehdcooaaMem
import Derived.WalkSmall
namespace Go.Proofs.Ytcgncaiehdcooaa
open Go.RowKit
set_option linter.unusedVariables false

/-- an Up as plain data -/
structure UpM where
  kind : Int
  bucket : Int
  key : Int
  val : Int
  deriving DecidableEq
def up0 : UpM := ⟨0, 0, 0, 0⟩
/-- an Act as plain data -/
structure ActM where
  r : Int
  n : Int
  dep : List Int
  actor : Int
  kind : Int
  to : Int
  bucket : Int
  mask : Int
  gr : Int
  gn : Int
  ups : List UpM
  deriving DecidableEq

def upCells (u : UpM) : List Value := [.int .i64 u.kind, .int .i64 u.bucket, .int .i64 u.key, .int .i64 u.val]
def vu (l : List UpM) : List Value := l.flatMap upCells
/-- the cells of one Up at an address -/
def UpAt (w : World) (b o : Nat) (u : UpM) : Prop :=
  w.cell? ⟨b, o, none⟩ = some (.int .i64 u.kind) ∧ w.cell? ⟨b, o + 1, none⟩ = some (.int .i64 u.bucket) ∧ w.cell? ⟨b, o + 2, none⟩ = some (.int .i64 u.key) ∧ w.cell? ⟨b, o + 3, none⟩ = some (.int .i64 u.val)
/-- v is a slice that reads as the ups us -/
def Ups (w : World) (v : Value) (us : List UpM) : Prop :=
  (∃ a cap, v = .slice a 0 cap ∧ us = []) ∨
  ∃ b off cap, v = .slice (some ⟨b, off, none⟩) us.length cap ∧ b < w.heap.size ∧ us.length ≤ cap ∧ cap ≤ maxLen ∧ ∀ i, i < us.length → UpAt w b (off + i * 4) (us.getD i up0)
/-- v is an act that reads as a -/
def ActIs (w : World) (v : Value) (a : ActM) : Prop :=
  ∃ vd vs, v = .agg #[.int .i64 a.r, .int .i64 a.n, vd, .int .i64 a.actor, .int .i64 a.kind, .int .i64 a.to, .int .i64 a.bucket, .int .i64 a.mask, .int .i64 a.gr, .int .i64 a.gn, vs] ∧ Ints w vd a.dep ∧ Ups w vs a.ups

theorem Ups.below {w w' : World} {v : Value} {us : List UpM} (h : Ups w v us) (hb : Below w.heap.size w w') : Ups w' v us := by
  rcases h with h | ⟨b, off, cap, rfl, h1, h2, h3, h4⟩
  · exact .inl h
  · refine .inr ⟨b, off, cap, rfl, Nat.lt_of_lt_of_le h1 hb.size, h2, h3, fun i hi => ?_⟩
    obtain ⟨q0, q1, q2, q3⟩ := h4 i hi
    exact ⟨(hb.cell (p := ⟨b, _, none⟩) h1).trans q0, (hb.cell (p := ⟨b, _, none⟩) h1).trans q1, (hb.cell (p := ⟨b, _, none⟩) h1).trans q2, (hb.cell (p := ⟨b, _, none⟩) h1).trans q3⟩
theorem ups_len {w : World} {v : Value} {us : List UpM} (h : Ups w v us) : ∃ a cap, v = .slice a us.length cap := by
  rcases h with ⟨a, cap, rfl, rfl⟩ | ⟨b, off, cap, rfl, _⟩
  · exact ⟨a, cap, rfl⟩
  · exact ⟨_, cap, rfl⟩
theorem ups_max {w : World} {v : Value} {us : List UpM} (h : Ups w v us) : us.length ≤ 9223372036854775807 := by
  rcases h with ⟨a, cap, rfl, rfl⟩ | ⟨b, off, cap, rfl, _, h2, h3, _⟩
  · simp
  · unfold maxLen at h3; omega
theorem ups_drewN {w : World} {v : Value} {us : List UpM} (h : Ups w v us) (n : Nat) : Ups (w.drewN n) v us := h
theorem act_drewN {w : World} {v : Value} {a : ActM} (h : ActIs w v a) (n : Nat) : ActIs (w.drewN n) v a := h
theorem ActIs.below {w w' : World} {v : Value} {a : ActM} (h : ActIs w v a) (hb : Below w.heap.size w w') : ActIs w' v a := by
  obtain ⟨vd, vs, hv, h1, h2⟩ := h
  exact ⟨vd, vs, hv, h1.below (B := 0) hb, h2.below hb⟩

set_option maxHeartbeats 400000 in
theorem toUp_any (k b y v : Int) (w : World) :
    Calls Try.prog 112 #[.agg #[.int .i64 k, .int .i64 b, .int .i64 y, .int .i64 v]] w fun e w' => e = .returned (.agg #[.int .i64 k, .int .i64 b, .int .i64 y, .int .i64 v]) ∧ Below w.heap.size w w' := by
  go_enter Try.func112, Try.ntmps112
  go_wp2
  refine bodyPost_ret (v := .agg #[.int .i64 k, .int .i64 b, .int .i64 y, .int .i64 v]) (by simp [results, Try.results112, go_sem]) rfl ⟨rfl, ?_⟩
  exact (((Below.refl _ _).alloc (Nat.le_refl _) _).alloc (by simp) _).alloc (by simp; omega) _

theorem Try.infoUp : (Try.prog.info? 37).map (fun i => (i.zero, i.size, i.bytes)) = some (some (.agg #[.int .i64 0, .int .i64 0, .int .i64 0, .int .i64 0]), 4, 32) := by kernel_rfl

theorem vu_length (l : List UpM) : (vu l).length = l.length * 4 := by
  induction l with
  | nil => rfl
  | cons u l ih => simp only [vu, List.flatMap_cons, List.length_append, List.length_cons] at ih ⊢; rw [ih]; simp [upCells]; omega
theorem vu_append (l m : List UpM) : vu (l ++ m) = vu l ++ vu m := by simp [vu]
theorem vu_at (l : List UpM) (i : Nat) (h : i < l.length) : (vu l)[i * 4]? = some (.int .i64 (l.getD i up0).kind) ∧ (vu l)[i * 4 + 1]? = some (.int .i64 (l.getD i up0).bucket) ∧ (vu l)[i * 4 + 2]? = some (.int .i64 (l.getD i up0).key) ∧ (vu l)[i * 4 + 3]? = some (.int .i64 (l.getD i up0).val) := by
  induction l generalizing i with
  | nil => simp at h
  | cons u l ih =>
    cases i with
    | zero => exact ⟨rfl, rfl, rfl, rfl⟩
    | succ i =>
      have := ih i (by simpa using h)
      simp only [List.getD_cons_succ]
      have hv : vu (u :: l) = .int .i64 u.kind :: .int .i64 u.bucket :: .int .i64 u.key :: .int .i64 u.val :: vu l := rfl
      rw [hv, show (i + 1) * 4 = i * 4 + 4 from by omega]
      exact this
theorem vu_zero (n : Nat) : madeCells (Value.agg #[.int .i64 0, .int .i64 0, .int .i64 0, .int .i64 0]).cells (n * 4) = (vu (List.replicate n up0)).toArray := by
  apply Array.ext
  · simp [size_madeCells, vu_length]
  · intro i h1 h2
    have e : (vu (List.replicate n up0)) = List.replicate (n * 4) (.int .i64 0) := by
      clear h1 h2
      induction n with
      | zero => rfl
      | succ n ih =>
        rw [List.replicate_succ, show (n + 1) * 4 = n * 4 + 1 + 1 + 1 + 1 from by omega, List.replicate_succ, List.replicate_succ, List.replicate_succ, List.replicate_succ, ← ih]
        rfl
    simp only [e]
    simp [madeCells, Value.cells]
    have : i % 4 < 4 := Nat.mod_lt _ (by omega)
    match h : i % 4, this with
    | 0, _ => rfl
    | 1, _ => rfl
    | 2, _ => rfl
    | 3, _ => rfl
    | k + 4, h => omega

theorem vu_set (l : List UpM) (k : Nat) (u : UpM) (h : k < l.length) :
    ((((vu l).set (k * 4) (.int .i64 u.kind)).set (k * 4 + 1) (.int .i64 u.bucket)).set (k * 4 + 2) (.int .i64 u.key)).set (k * 4 + 3) (.int .i64 u.val) = vu (l.set k u) := by
  induction l generalizing k with
  | nil => simp at h
  | cons x l ih =>
    cases k with
    | zero => rfl
    | succ k =>
      have hv : ∀ x l, vu (x :: l) = .int .i64 x.kind :: .int .i64 x.bucket :: .int .i64 x.key :: .int .i64 x.val :: vu l := fun _ _ => rfl
      rw [List.set_cons_succ, hv, hv, ← ih k (by simpa using h), show (k + 1) * 4 = k * 4 + 4 from by omega]
      rfl
theorem ups_step (us : List UpM) (k n : Nat) (hn : us.length = n) (hk : k < n) : (us.take k ++ List.replicate (n - k) up0).set k (us.getD k up0) = us.take (k + 1) ++ List.replicate (n - (k + 1)) up0 := by
  subst hn
  have hl : (us.take k).length = k := by simp; omega
  rw [List.set_append_right _ _ (by omega), hl, Nat.sub_self, show us.length - k = (us.length - (k + 1)) + 1 from by omega, List.replicate_succ, List.set_cons_zero, List.take_succ_eq_append_getElem hk]
  simp only [List.getD, List.getElem?_eq_getElem hk, Option.getD_some, List.append_assoc, List.singleton_append]
theorem row_below {w w' : World} {g : Nat} {e size n cap : Nat} {xs : List Value} (h : w.ownsRow g e size (.slice (some ⟨g, 0, none⟩) n cap) n xs) (hb : Below w.heap.size w w') : w'.ownsRow g e size (.slice (some ⟨g, 0, none⟩) n cap) n xs := by
  obtain ⟨h1, h2⟩ := h
  refine ⟨h1, ?_⟩
  rcases h2 with h2 | ⟨g', cap', cur, hv, hg, hh, r⟩
  · exact .inl h2
  · have h0 := hv
    simp only [Value.slice.injEq, Option.some.injEq, Addr.mk.injEq, and_true] at hv
    obtain ⟨rfl, _⟩ := hv
    exact .inr ⟨g, cap', cur, h0, hg, by rw [hb.block g (Array.getElem?_eq_some_iff.1 hh).1]; exact hh, r⟩
theorem row_set4 {w : World} {g e n cap : Nat} {l : List UpM} (h : w.ownsRow g e 4 (.slice (some ⟨g, 0, none⟩) n cap) n (vu l)) (k : Nat) (hl : l.length = n) (hk : k < n) (u : UpM) :
    ((((w.setCell ⟨g, k * 4, none⟩ (.int .i64 u.kind)).setCell ⟨g, k * 4 + 1, none⟩ (.int .i64 u.bucket)).setCell ⟨g, k * 4 + 2, none⟩ (.int .i64 u.key)).setCell ⟨g, k * 4 + 3, none⟩ (.int .i64 u.val)).ownsRow g e 4 (.slice (some ⟨g, 0, none⟩) n cap) n (vu (l.set k u)) := by
  rw [← vu_set l k u (by omega)]
  exact ((((h.stored _ _).1.stored _ _).1.stored _ _).1.stored _ _).1
theorem row_cells4 {w : World} {g e n cap : Nat} {l : List UpM} (h : w.ownsRow g e 4 (.slice (some ⟨g, 0, none⟩) n cap) n (vu l)) (k : Nat) (hl : l.length = n) (hk : k < n) : UpAt w g (k * 4) (l.getD k up0) := by
  obtain ⟨q0, q1, q2, q3⟩ := vu_at l k (by omega)
  exact ⟨(h.cellAt _ (by omega)).trans q0, (h.cellAt _ (by omega)).trans q1, (h.cellAt _ (by omega)).trans q2, (h.cellAt _ (by omega)).trans q3⟩

set_option maxHeartbeats 400000 in
theorem toUpS_some (b off cap n : Nat) (us : List UpM) (w : World) (hn : us.length = n) (hb : b < w.heap.size) (hl : n ≤ 1048576)
    (hc : ∀ i, i < n → UpAt w b (off + i * 4) (us.getD i up0)) :
    Calls Try.prog 81 #[.slice (some ⟨b, off, none⟩) n cap] w fun e w' =>
      e = .returned (.slice (some ⟨w.heap.size, 0, none⟩) n n) ∧
      w'.ownsRow w.heap.size 37 4 (.slice (some ⟨w.heap.size, 0, none⟩) n n) n (vu us) ∧ Below w.heap.size w w' := by
  obtain ⟨i0, hi, hz0, hz1, hz2⟩ := info_parts Try.infoUp
  have hmk : ∀ w : World, (Instr.makeSlice 24 (.int .i64 (n : Int)) (.int .i64 (n : Int))).run Try.prog w = .ok (.slice (some ⟨w.heap.size, 0, none⟩) n n) (w.alloc (.cells (vu (List.replicate n up0)).toArray 37)) := by
    intro w
    have h := run_make (P := Try.prog) w 24 37 i0 _ Try.underlying24 hi hz0 .i64 .i64 n n (by omega) (by omega) (by rw [hz2]; omega) (by omega)
    rw [hz1] at h
    simp only [Int.toNat_natCast] at h
    rw [vu_zero] at h
    exact h
  have hown0 : (w.alloc (.cells (vu (List.replicate n up0)).toArray 37)).ownsRow w.heap.size 37 4 (.slice (some ⟨w.heap.size, 0, none⟩) n n) n (vu (List.replicate n up0)) := by
    have := World.ownsRow_lit (size := 4) (e := 37) (base := w.heap.size) w (vu (List.replicate n up0)).toArray n (Nat.le_refl _) (by unfold maxLen; omega) (by simp [vu_length])
    simpa using this
  have hbel0 : Below w.heap.size w (w.alloc (.cells (vu (List.replicate n up0)).toArray 37)) := (Below.refl _ _).alloc (Nat.le_refl _) _
  obtain ⟨W0, hW0⟩ : ∃ W0, W0 = (w.alloc (.cells (vu (List.replicate n up0)).toArray 37)) := ⟨_, rfl⟩
  have hmk1 := hmk w
  rw [← hW0] at hmk1 hown0 hbel0
  clear hmk hi hz0 hz1 hz2 i0 hW0
  have HN := Lib.hid hn
  have HC := Lib.hid hc
  clear hn hc
  go_enter Try.func81, Try.ntmps81
  go_wp2
  go_loopw [4] (fun i wr => ∃ k : Nat, k ≤ n ∧ i = .int .i64 k ∧ Hid (wr.ownsRow w.heap.size 37 4 (.slice (some ⟨w.heap.size, 0, none⟩) n n) n (vu (us.take k ++ List.replicate (n - k) up0))) ∧ Hid (Below w.heap.size w wr)) (fun i _ => n - (intOf i).toNat)
  case atStart => exact ⟨0, Nat.zero_le _, rfl, by simpa [Hid] using hown0, hbel0⟩
  case round =>
    obtain ⟨k, hk, rfl, hown, hbel⟩ := hrel
    clear hown0 hbel0 hmk1
    by_cases hlt : k < n
    · obtain ⟨q0, q1, q2, q3⟩ := HC.out k hlt
      have c0 := (hbel.out.cell (p := ⟨b, off + k * 4, none⟩) hb).trans q0
      have c1 := (hbel.out.cell (p := ⟨b, off + k * 4 + 1, none⟩) hb).trans q1
      have c2 := (hbel.out.cell (p := ⟨b, off + k * 4 + 2, none⟩) hb).trans q2
      have c3 := (hbel.out.cell (p := ⟨b, off + k * 4 + 3, none⟩) hb).trans q3
      clear q0 q1 q2 q3
      obtain ⟨u, hx⟩ : ∃ u, us.getD k up0 = u := ⟨_, rfl⟩
      rw [hx] at c0 c1 c2 c3
      have hst := ups_step us k n HN.out hlt
      have hu : Hid (us.getD k up0 = u) := hx
      clear hx
      go_wp2_with fail
      refine (toUp_any _ _ _ _ _).mono ?_
      rintro e w1 ⟨rfl, b1⟩
      have HO1 := Lib.hid (row_below hown.out b1)
      have HB1 := Lib.hid (hbel.out.trans (b1.mono hbel.out.size))
      obtain ⟨p0, p1, p2, p3⟩ := row_cells4 HO1.out k (by have := HN.out; simp; omega) hlt
      have f0 := HO1.out.frozenAt
      have HS := Lib.hid (row_set4 HO1.out k (by have := HN.out; simp; omega) hlt u)
      rw [← hu.out, hst] at HS
      rw [hu.out] at HS
      clear b1 hst c0 c1 c2 c3
      generalize (us.take k ++ List.replicate (n - k) up0).getD k up0 = z at *
      go_wp2
      go_roundw
      case rel => exact ⟨k + 1, by omega, by go_num, HS.out, (((HB1.out.setCell (p := ⟨w.heap.size, k * 4, none⟩) (Nat.le_refl _) _).setCell (p := ⟨w.heap.size, k * 4 + 1, none⟩) (Nat.le_refl _) _).setCell (p := ⟨w.heap.size, k * 4 + 2, none⟩) (Nat.le_refl _) _).setCell (p := ⟨w.heap.size, k * 4 + 3, none⟩) (Nat.le_refl _) _⟩
      case measure => simp [intOf]; omega
    · have : k = n := by omega
      subst this
      have HO : Hid (wr.ownsRow w.heap.size 37 4 (.slice (some ⟨w.heap.size, 0, none⟩) k k) k (vu us)) := by
        have h0 : us.length = k := HN.out
        subst h0
        show World.ownsRow _ _ _ _ _ _ _
        simpa using hown.out
      clear hown
      go_wp2
      go_ret
      exact ⟨rfl, HO.out, hbel.out⟩

/-- v reads as the ups us, in cells of block g alone, which may be written -/
def OwnU (w : World) (g : Nat) (v : Value) (us : List UpM) : Prop :=
  (∃ a cap, v = .slice a 0 cap ∧ us = []) ∨ (0 < us.length ∧ ∃ cap, v = .slice (some ⟨g, 0, none⟩) us.length cap ∧ w.ownsRow g 37 4 (.slice (some ⟨g, 0, none⟩) us.length cap) us.length (vu us))
theorem ups_own {w : World} {B g n cap : Nat} {us : List UpM} (hn : us.length = n) (h : w.ownsRow B 37 4 (.slice (some ⟨g, 0, none⟩) n cap) n (vu us)) : Ups w (.slice (some ⟨g, 0, none⟩) n cap) us := by
  subst hn
  have h0 := h
  rcases h.2 with ⟨h', _⟩ | ⟨g', cap', cur, h', hbg, hg, hx, hy, _⟩
  · simp at h'
  · simp only [Value.slice.injEq, Option.some.injEq, Addr.mk.injEq, and_true, true_and] at h'
    obtain ⟨rfl, rfl⟩ := h'
    refine .inr ⟨g, 0, cap, rfl, (Array.getElem?_eq_some_iff.1 hg).1, hx, hy, fun i hi => ?_⟩
    obtain ⟨q0, q1, q2, q3⟩ := vu_at us i hi
    rw [Nat.zero_add]
    exact ⟨(h0.cellAt _ (by omega)).trans q0, (h0.cellAt _ (by omega)).trans q1, (h0.cellAt _ (by omega)).trans q2, (h0.cellAt _ (by omega)).trans q3⟩
theorem ownU_ups {w : World} {g : Nat} {v : Value} {us : List UpM} (h : OwnU w g v us) : Ups w v us := by
  rcases h with ⟨a, cap, rfl, rfl⟩ | ⟨hp, cap, rfl, ho⟩
  · exact .inl ⟨_, _, rfl, rfl⟩
  · exact ups_own rfl ho
theorem ownU_new {w : World} {B g n cap : Nat} {us : List UpM} (hn : us.length = n) (h : w.ownsRow B 37 4 (.slice (some ⟨g, 0, none⟩) n cap) n (vu us)) : OwnU w g (.slice (some ⟨g, 0, none⟩) n cap) us := by
  subst hn
  by_cases hp : 0 < us.length
  · exact .inr ⟨hp, _, rfl, (own_at h).1⟩
  · have : us = [] := List.eq_nil_of_length_eq_zero (by omega)
    subst this
    exact .inl ⟨_, _, rfl, rfl⟩
theorem ownU_lt {w : World} {g : Nat} {v : Value} {us : List UpM} (h : OwnU w g v us) (hp : 0 < us.length) : g < w.heap.size := by
  rcases h with ⟨a, cap, rfl, rfl⟩ | ⟨hp, cap, rfl, ho⟩
  · simp at hp
  · exact (own_at ho).2.2
theorem OwnU.block {w w' : World} {g : Nat} {v : Value} {us : List UpM} (h : OwnU w g v us) (hb : 0 < us.length → w'.heap[g]? = w.heap[g]?) : OwnU w' g v us := by
  rcases h with h | ⟨hp, cap, rfl, ho⟩
  · exact .inl h
  · exact .inr ⟨hp, cap, rfl, row_block ho (hb hp)⟩
theorem OwnU.below {w w' : World} {g : Nat} {v : Value} {us : List UpM} (h : OwnU w g v us) (hb : Below w.heap.size w w') : OwnU w' g v us :=
  h.block fun hp => hb.block g (ownU_lt h hp)
theorem OwnU.other {w w' : World} {g g' : Nat} {v : Value} {us : List UpM} (h : OwnU w g v us) (hb : w.grownBy w' (some g')) (hn : 0 < us.length → g ≠ g') : OwnU w' g v us :=
  h.block fun hp => hb.block g (ownU_lt h hp) (fun e => hn hp (Option.some.inj e))
theorem own_new {w : World} {B g n cap : Nat} {xs : List Int} (hn : xs.length = n) (h : w.ownsRow B 3 1 (.slice (some ⟨g, 0, none⟩) n cap) n (vi xs)) : Own w g (.slice (some ⟨g, 0, none⟩) n cap) xs := by
  subst hn
  by_cases hp : 0 < xs.length
  · exact .inr ⟨hp, _, rfl, (own_at h).1⟩
  · have : xs = [] := List.eq_nil_of_length_eq_zero (by omega)
    subst this
    exact .inl ⟨_, _, rfl, rfl⟩

/-- v is an act that reads as a; its clock lies in block g alone, its ups in block h alone -/
def OwnA (w : World) (g h : Nat) (v : Value) (a : ActM) : Prop :=
  ∃ vd vs, v = .agg #[.int .i64 a.r, .int .i64 a.n, vd, .int .i64 a.actor, .int .i64 a.kind, .int .i64 a.to, .int .i64 a.bucket, .int .i64 a.mask, .int .i64 a.gr, .int .i64 a.gn, vs] ∧ Own w g vd a.dep ∧ OwnU w h vs a.ups
theorem ownA_act {w : World} {g h : Nat} {v : Value} {a : ActM} (k : OwnA w g h v a) : ActIs w v a := by
  obtain ⟨vd, vs, hv, h1, h2⟩ := k
  exact ⟨vd, vs, hv, own_ints h1, ownU_ups h2⟩
theorem OwnA.below {w w' : World} {g h : Nat} {v : Value} {a : ActM} (k : OwnA w g h v a) (hb : Below w.heap.size w w') : OwnA w' g h v a := by
  obtain ⟨vd, vs, hv, h1, h2⟩ := k
  exact ⟨vd, vs, hv, h1.below hb, h2.below hb⟩
theorem OwnA.drewN {w : World} {g h : Nat} {v : Value} {a : ActM} (k : OwnA w g h v a) (n : Nat) : OwnA (w.drewN n) g h v a := k
end Go.Proofs.Ytcgncaiehdcooaa
