/- Acts: the model of ups and acts; how they read in memory; toUp, toUpS. Acts: eqUp, eqUpS of what is the same; szAct. Acts: szAct, toAct. The reference's Knows, Ahead. Structs of eleven one-cell fields by value; slices of structs of one-cell fields; what an act that came in reads as. What an act that came in reads as. What the reference and the program are to answer on acts; the law FnExactActOk from it. Small words for worlds. -/
import Derived.Test.YtghgiefciijoeaaGreatDoorMA
import Derived.WalkSmall
import Derived.Deep.RegionWith
import Derived.BigQuiet
import Derived.Deep.QuietTactic
import Derived.Lib.SmallJoins
import Derived.Deep.Slices
import Derived.Deep.Fields
import Derived.ChangeSame
import Derived.ProofKit
import Derived.OpenShut

namespace Go.Proofs.YtghgiefciijoeaaGreatDoor
open Go.RowKit
set_option linter.unusedVariables false
structure UpM where
 kind : Int
 bucket : Int
 key : Int
 val : Int
 deriving DecidableEq
def up0 : UpM := ⟨0, 0, 0, 0⟩
structure ActM where
 r : Int
 n : Int
 dep : List Int
 actor : Int
 kind : Int
 to : Int
 bucket : Int
 mask : Int
 gr : Int
 gn : Int
 ups : List UpM
 deriving DecidableEq
def upCells (u : UpM) : List Value := [.int .i64 u.kind, .int .i64 u.bucket, .int .i64 u.key, .int .i64 u.val]
def vu (l : List UpM) : List Value := l.flatMap upCells
def UpAt (w : World) (b o : Nat) (u : UpM) : Prop :=
 w.cell? ⟨b, o, none⟩ = some (.int .i64 u.kind) ∧ w.cell? ⟨b, o + 1, none⟩ = some (.int .i64 u.bucket) ∧ w.cell? ⟨b, o + 2, none⟩ = some (.int .i64 u.key) ∧ w.cell? ⟨b, o + 3, none⟩ = some (.int .i64 u.val)
def Ups (w : World) (v : Value) (us : List UpM) : Prop :=
 (∃ a cap, v = .slice a 0 cap ∧ us = []) ∨
 ∃ b off cap, v = .slice (some ⟨b, off, none⟩) us.length cap ∧ b < w.heap.size ∧ us.length ≤ cap ∧ cap ≤ maxLen ∧ ∀ i, i < us.length → UpAt w b (off + i * 4) (us.getD i up0)
def ActIs (w : World) (v : Value) (a : ActM) : Prop :=
 ∃ vd vs, v = .agg #[.int .i64 a.r, .int .i64 a.n, vd, .int .i64 a.actor, .int .i64 a.kind, .int .i64 a.to, .int .i64 a.bucket, .int .i64 a.mask, .int .i64 a.gr, .int .i64 a.gn, vs] ∧ Ints w vd a.dep ∧ Ups w vs a.ups
theorem Ups.below {w w' : World} {v : Value} {us : List UpM} (h : Ups w v us) (hb : Below w.heap.size w w') : Ups w' v us := by
 rcases h with h | ⟨b, off, cap, rfl, h1, h2, h3, h4⟩
 ·exact .inl h
 ·refine .inr ⟨b, off, cap, rfl, Nat.lt_of_lt_of_le h1 hb.size, h2, h3, fun i hi => ?_⟩
  obtain ⟨q0, q1, q2, q3⟩ := h4 i hi
  exact ⟨(hb.cell (p := ⟨b, _, none⟩) h1).trans q0, (hb.cell (p := ⟨b, _, none⟩) h1).trans q1, (hb.cell (p := ⟨b, _, none⟩) h1).trans q2, (hb.cell (p := ⟨b, _, none⟩) h1).trans q3⟩
theorem ups_len {w : World} {v : Value} {us : List UpM} (h : Ups w v us) : ∃ a cap, v = .slice a us.length cap := by
 rcases h with ⟨a, cap, rfl, rfl⟩ | ⟨b, off, cap, rfl, _⟩
 ·exact ⟨a, cap, rfl⟩
 ·exact ⟨_, cap, rfl⟩
theorem ups_max {w : World} {v : Value} {us : List UpM} (h : Ups w v us) : us.length ≤ 9223372036854775807 := by
 rcases h with ⟨a, cap, rfl, rfl⟩ | ⟨b, off, cap, rfl, _, h2, h3, _⟩
 ·simp
 ·unfold maxLen at h3; omega
theorem ups_drewN {w : World} {v : Value} {us : List UpM} (h : Ups w v us) (n : Nat) : Ups (w.drewN n) v us := h
theorem act_drewN {w : World} {v : Value} {a : ActM} (h : ActIs w v a) (n : Nat) : ActIs (w.drewN n) v a := h
theorem ActIs.below {w w' : World} {v : Value} {a : ActM} (h : ActIs w v a) (hb : Below w.heap.size w w') : ActIs w' v a := by
 obtain ⟨vd, vs, hv, h1, h2⟩ := h
 exact ⟨vd, vs, hv, h1.below (B := 0) hb, h2.below hb⟩
set_option maxHeartbeats 400000 in
theorem toUp_any (k b y v : Int) (w : World) :
  Calls Tryz.prog 96 #[.agg #[.int .i64 k, .int .i64 b, .int .i64 y, .int .i64 v]] w fun e w' => e = .returned (.agg #[.int .i64 k, .int .i64 b, .int .i64 y, .int .i64 v]) ∧ Below w.heap.size w w' := by
 go_enter Tryz.func96, Tryz.ntmps96
 go_wp2
 refine bodyPost_ret (v := .agg #[.int .i64 k, .int .i64 b, .int .i64 y, .int .i64 v]) (by simp [results, Tryz.results96, go_sem]) rfl ⟨rfl, ?_⟩
 exact (((Below.refl _ _).alloc (Nat.le_refl _) _).alloc (by simp) _).alloc (by simp; omega) _
theorem Tryz.infoUp : (Tryz.prog.info? 116).map (fun i => (i.zero, i.size, i.bytes)) = some (some (.agg #[.int .i64 0, .int .i64 0, .int .i64 0, .int .i64 0]), 4, 32) := by kernel_rfl
theorem vu_length (l : List UpM) : (vu l).length = l.length * 4 := by
 induction l with
 | nil => rfl
 | cons u l ih => simp only [vu, List.flatMap_cons, List.length_append, List.length_cons] at ih ⊢; rw [ih]; simp [upCells]; omega
theorem vu_append (l m : List UpM) : vu (l ++ m) = vu l ++ vu m := by simp [vu]
theorem vu_at (l : List UpM) (i : Nat) (h : i < l.length) : (vu l)[i * 4]? = some (.int .i64 (l.getD i up0).kind) ∧ (vu l)[i * 4 + 1]? = some (.int .i64 (l.getD i up0).bucket) ∧ (vu l)[i * 4 + 2]? = some (.int .i64 (l.getD i up0).key) ∧ (vu l)[i * 4 + 3]? = some (.int .i64 (l.getD i up0).val) := by
 induction l generalizing i with
 | nil => simp at h
 | cons u l ih =>
  cases i with
  | zero => exact ⟨rfl, rfl, rfl, rfl⟩
  | succ i =>
   have := ih i (by simpa using h)
   simp only [List.getD_cons_succ]
   have hv : vu (u :: l) = .int .i64 u.kind :: .int .i64 u.bucket :: .int .i64 u.key :: .int .i64 u.val :: vu l := rfl
   rw [hv, show (i + 1) * 4 = i * 4 + 4 from by omega]
   exact this
theorem vu_zero (n : Nat) : madeCells (Value.agg #[.int .i64 0, .int .i64 0, .int .i64 0, .int .i64 0]).cells (n * 4) = (vu (List.replicate n up0)).toArray := by
 apply Array.ext
 ·simp [size_madeCells, vu_length]
 ·intro i h1 h2
  have e : (vu (List.replicate n up0)) = List.replicate (n * 4) (.int .i64 0) := by
   clear h1 h2
   induction n with
   | zero => rfl
   | succ n ih =>
    rw [List.replicate_succ, show (n + 1) * 4 = n * 4 + 1 + 1 + 1 + 1 from by omega, List.replicate_succ, List.replicate_succ, List.replicate_succ, List.replicate_succ, ← ih]
    rfl
  simp only [e]
  simp [madeCells, Value.cells]
  have : i % 4 < 4 := Nat.mod_lt _ (by omega)
  match h : i % 4, this with
  | 0, _ => rfl
  | 1, _ => rfl
  | 2, _ => rfl
  | 3, _ => rfl
  | k + 4, h => omega
theorem vu_set (l : List UpM) (k : Nat) (u : UpM) (h : k < l.length) :
  ((((vu l).set (k * 4) (.int .i64 u.kind)).set (k * 4 + 1) (.int .i64 u.bucket)).set (k * 4 + 2) (.int .i64 u.key)).set (k * 4 + 3) (.int .i64 u.val) = vu (l.set k u) := by
 induction l generalizing k with
 | nil => simp at h
 | cons x l ih =>
  cases k with
  | zero => rfl
  | succ k =>
   have hv : ∀ x l, vu (x :: l) = .int .i64 x.kind :: .int .i64 x.bucket :: .int .i64 x.key :: .int .i64 x.val :: vu l := fun _ _ => rfl
   rw [List.set_cons_succ, hv, hv, ← ih k (by simpa using h), show (k + 1) * 4 = k * 4 + 4 from by omega]
   rfl
theorem ups_step (us : List UpM) (k n : Nat) (hn : us.length = n) (hk : k < n) : (us.take k ++ List.replicate (n - k) up0).set k (us.getD k up0) = us.take (k + 1) ++ List.replicate (n - (k + 1)) up0 := by
 subst hn
 have hl : (us.take k).length = k := by simp; omega
 rw [List.set_append_right _ _ (by omega), hl, Nat.sub_self, show us.length - k = (us.length - (k + 1)) + 1 from by omega, List.replicate_succ, List.set_cons_zero, List.take_succ_eq_append_getElem hk]
 simp only [List.getD, List.getElem?_eq_getElem hk, Option.getD_some, List.append_assoc, List.singleton_append]
theorem row_below {w w' : World} {g : Nat} {e size n cap : Nat} {xs : List Value} (h : w.ownsRow g e size (.slice (some ⟨g, 0, none⟩) n cap) n xs) (hb : Below w.heap.size w w') : w'.ownsRow g e size (.slice (some ⟨g, 0, none⟩) n cap) n xs := by
 obtain ⟨h1, h2⟩ := h
 refine ⟨h1, ?_⟩
 rcases h2 with h2 | ⟨g', cap', cur, hv, hg, hh, r⟩
 ·exact .inl h2
 ·have h0 := hv
  simp only [Value.slice.injEq, Option.some.injEq, Addr.mk.injEq, and_true] at hv
  obtain ⟨rfl, _⟩ := hv
  exact .inr ⟨g, cap', cur, h0, hg, by rw [hb.block g (Array.getElem?_eq_some_iff.1 hh).1]; exact hh, r⟩
theorem row_set4 {w : World} {g e n cap : Nat} {l : List UpM} (h : w.ownsRow g e 4 (.slice (some ⟨g, 0, none⟩) n cap) n (vu l)) (k : Nat) (hl : l.length = n) (hk : k < n) (u : UpM) :
  ((((w.setCell ⟨g, k * 4, none⟩ (.int .i64 u.kind)).setCell ⟨g, k * 4 + 1, none⟩ (.int .i64 u.bucket)).setCell ⟨g, k * 4 + 2, none⟩ (.int .i64 u.key)).setCell ⟨g, k * 4 + 3, none⟩ (.int .i64 u.val)).ownsRow g e 4 (.slice (some ⟨g, 0, none⟩) n cap) n (vu (l.set k u)) := by
 rw [← vu_set l k u (by omega)]
 exact ((((h.stored _ _).1.stored _ _).1.stored _ _).1.stored _ _).1
theorem row_cells4 {w : World} {g e n cap : Nat} {l : List UpM} (h : w.ownsRow g e 4 (.slice (some ⟨g, 0, none⟩) n cap) n (vu l)) (k : Nat) (hl : l.length = n) (hk : k < n) : UpAt w g (k * 4) (l.getD k up0) := by
 obtain ⟨q0, q1, q2, q3⟩ := vu_at l k (by omega)
 exact ⟨(h.cellAt _ (by omega)).trans q0, (h.cellAt _ (by omega)).trans q1, (h.cellAt _ (by omega)).trans q2, (h.cellAt _ (by omega)).trans q3⟩
set_option maxHeartbeats 400000 in
theorem toUpS_some (b off cap n : Nat) (us : List UpM) (w : World) (hn : us.length = n) (hb : b < w.heap.size) (hl : n ≤ 1048576)
  (hc : ∀ i, i < n → UpAt w b (off + i * 4) (us.getD i up0)) :
  Calls Tryz.prog 67 #[.slice (some ⟨b, off, none⟩) n cap] w fun e w' =>
   e = .returned (.slice (some ⟨w.heap.size, 0, none⟩) n n) ∧
   w'.ownsRow w.heap.size 116 4 (.slice (some ⟨w.heap.size, 0, none⟩) n n) n (vu us) ∧ Below w.heap.size w w' := by
 obtain ⟨i0, hi, hz0, hz1, hz2⟩ := info_parts Tryz.infoUp
 have hmk : ∀ w : World, (Instr.makeSlice 30 (.int .i64 (n : Int)) (.int .i64 (n : Int))).run Tryz.prog w = .ok (.slice (some ⟨w.heap.size, 0, none⟩) n n) (w.alloc (.cells (vu (List.replicate n up0)).toArray 116)) := by
  intro w
  have h := run_make (P := Tryz.prog) w 30 116 i0 _ Tryz.underlying30 hi hz0 .i64 .i64 n n (by omega) (by omega) (by rw [hz2]; omega) (by omega)
  rw [hz1] at h
  simp only [Int.toNat_natCast] at h
  rw [vu_zero] at h
  exact h
 have hown0 : (w.alloc (.cells (vu (List.replicate n up0)).toArray 116)).ownsRow w.heap.size 116 4 (.slice (some ⟨w.heap.size, 0, none⟩) n n) n (vu (List.replicate n up0)) := by
  have := World.ownsRow_lit (size := 4) (e := 116) (base := w.heap.size) w (vu (List.replicate n up0)).toArray n (Nat.le_refl _) (by unfold maxLen; omega) (by simp [vu_length])
  simpa using this
 have hbel0 : Below w.heap.size w (w.alloc (.cells (vu (List.replicate n up0)).toArray 116)) := (Below.refl _ _).alloc (Nat.le_refl _) _
 obtain ⟨W0, hW0⟩ : ∃ W0, W0 = (w.alloc (.cells (vu (List.replicate n up0)).toArray 116)) := ⟨_, rfl⟩
 have hmk1 := hmk w
 rw [← hW0] at hmk1 hown0 hbel0
 clear hmk hi hz0 hz1 hz2 i0 hW0
 have HN := Lib.hid hn
 have HC := Lib.hid hc
 clear hn hc
 go_enter Tryz.func67, Tryz.ntmps67
 go_wp2
 go_loopw [4] (fun i wr => ∃ k : Nat, k ≤ n ∧ i = .int .i64 k ∧ Hid (wr.ownsRow w.heap.size 116 4 (.slice (some ⟨w.heap.size, 0, none⟩) n n) n (vu (us.take k ++ List.replicate (n - k) up0))) ∧ Hid (Below w.heap.size w wr)) (fun i _ => n - (intOf i).toNat)
 case atStart => exact ⟨0, Nat.zero_le _, rfl, by simpa [Hid] using hown0, hbel0⟩
 case round =>
  obtain ⟨k, hk, rfl, hown, hbel⟩ := hrel
  clear hown0 hbel0 hmk1
  by_cases hlt : k < n
  ·obtain ⟨q0, q1, q2, q3⟩ := HC.out k hlt
   have c0 := (hbel.out.cell (p := ⟨b, off + k * 4, none⟩) hb).trans q0
   have c1 := (hbel.out.cell (p := ⟨b, off + k * 4 + 1, none⟩) hb).trans q1
   have c2 := (hbel.out.cell (p := ⟨b, off + k * 4 + 2, none⟩) hb).trans q2
   have c3 := (hbel.out.cell (p := ⟨b, off + k * 4 + 3, none⟩) hb).trans q3
   clear q0 q1 q2 q3
   obtain ⟨u, hx⟩ : ∃ u, us.getD k up0 = u := ⟨_, rfl⟩
   rw [hx] at c0 c1 c2 c3
   have hst := ups_step us k n HN.out hlt
   have hu : Hid (us.getD k up0 = u) := hx
   clear hx
   go_wp2_with fail
   refine (toUp_any _ _ _ _ _).mono ?_
   rintro e w1 ⟨rfl, b1⟩
   have HO1 := Lib.hid (row_below hown.out b1)
   have HB1 := Lib.hid (hbel.out.trans (b1.mono hbel.out.size))
   obtain ⟨p0, p1, p2, p3⟩ := row_cells4 HO1.out k (by have := HN.out; simp; omega) hlt
   have f0 := HO1.out.frozenAt
   have HS := Lib.hid (row_set4 HO1.out k (by have := HN.out; simp; omega) hlt u)
   rw [← hu.out, hst] at HS
   rw [hu.out] at HS
   clear b1 hst c0 c1 c2 c3
   generalize (us.take k ++ List.replicate (n - k) up0).getD k up0 = z at *
   go_wp2
   go_roundw
   case rel => exact ⟨k + 1, by omega, by go_num, HS.out, (((HB1.out.setCell (p := ⟨w.heap.size, k * 4, none⟩) (Nat.le_refl _) _).setCell (p := ⟨w.heap.size, k * 4 + 1, none⟩) (Nat.le_refl _) _).setCell (p := ⟨w.heap.size, k * 4 + 2, none⟩) (Nat.le_refl _) _).setCell (p := ⟨w.heap.size, k * 4 + 3, none⟩) (Nat.le_refl _) _⟩
   case measure => simp [intOf]; omega
  ·have : k = n := by omega
   subst this
   have HO : Hid (wr.ownsRow w.heap.size 116 4 (.slice (some ⟨w.heap.size, 0, none⟩) k k) k (vu us)) := by
    have h0 : us.length = k := HN.out
    subst h0
    show World.ownsRow _ _ _ _ _ _ _
    simpa using hown.out
   clear hown
   go_wp2
   go_ret
   exact ⟨rfl, HO.out, hbel.out⟩
def OwnU (w : World) (g : Nat) (v : Value) (us : List UpM) : Prop :=
 (∃ a cap, v = .slice a 0 cap ∧ us = []) ∨ (0 < us.length ∧ ∃ cap, v = .slice (some ⟨g, 0, none⟩) us.length cap ∧ w.ownsRow g 116 4 (.slice (some ⟨g, 0, none⟩) us.length cap) us.length (vu us))
theorem ups_own {w : World} {B g n cap : Nat} {us : List UpM} (hn : us.length = n) (h : w.ownsRow B 116 4 (.slice (some ⟨g, 0, none⟩) n cap) n (vu us)) : Ups w (.slice (some ⟨g, 0, none⟩) n cap) us := by
 subst hn
 have h0 := h
 rcases h.2 with ⟨h', _⟩ | ⟨g', cap', cur, h', hbg, hg, hx, hy, _⟩
 ·simp at h'
 ·simp only [Value.slice.injEq, Option.some.injEq, Addr.mk.injEq, and_true, true_and] at h'
  obtain ⟨rfl, rfl⟩ := h'
  refine .inr ⟨g, 0, cap, rfl, (Array.getElem?_eq_some_iff.1 hg).1, hx, hy, fun i hi => ?_⟩
  obtain ⟨q0, q1, q2, q3⟩ := vu_at us i hi
  rw [Nat.zero_add]
  exact ⟨(h0.cellAt _ (by omega)).trans q0, (h0.cellAt _ (by omega)).trans q1, (h0.cellAt _ (by omega)).trans q2, (h0.cellAt _ (by omega)).trans q3⟩
theorem ownU_ups {w : World} {g : Nat} {v : Value} {us : List UpM} (h : OwnU w g v us) : Ups w v us := by
 rcases h with ⟨a, cap, rfl, rfl⟩ | ⟨hp, cap, rfl, ho⟩
 ·exact .inl ⟨_, _, rfl, rfl⟩
 ·exact ups_own rfl ho
theorem ownU_new {w : World} {B g n cap : Nat} {us : List UpM} (hn : us.length = n) (h : w.ownsRow B 116 4 (.slice (some ⟨g, 0, none⟩) n cap) n (vu us)) : OwnU w g (.slice (some ⟨g, 0, none⟩) n cap) us := by
 subst hn
 by_cases hp : 0 < us.length
 ·exact .inr ⟨hp, _, rfl, (own_at h).1⟩
 ·have : us = [] := List.eq_nil_of_length_eq_zero (by omega)
  subst this
  exact .inl ⟨_, _, rfl, rfl⟩
theorem ownU_lt {w : World} {g : Nat} {v : Value} {us : List UpM} (h : OwnU w g v us) (hp : 0 < us.length) : g < w.heap.size := by
 rcases h with ⟨a, cap, rfl, rfl⟩ | ⟨hp, cap, rfl, ho⟩
 ·simp at hp
 ·exact (own_at ho).2.2
theorem OwnU.block {w w' : World} {g : Nat} {v : Value} {us : List UpM} (h : OwnU w g v us) (hb : 0 < us.length → w'.heap[g]? = w.heap[g]?) : OwnU w' g v us := by
 rcases h with h | ⟨hp, cap, rfl, ho⟩
 ·exact .inl h
 ·exact .inr ⟨hp, cap, rfl, row_block ho (hb hp)⟩
theorem OwnU.below {w w' : World} {g : Nat} {v : Value} {us : List UpM} (h : OwnU w g v us) (hb : Below w.heap.size w w') : OwnU w' g v us :=
 h.block fun hp => hb.block g (ownU_lt h hp)
theorem OwnU.other {w w' : World} {g g' : Nat} {v : Value} {us : List UpM} (h : OwnU w g v us) (hb : w.grownBy w' (some g')) (hn : 0 < us.length → g ≠ g') : OwnU w' g v us :=
 h.block fun hp => hb.block g (ownU_lt h hp) (fun e => hn hp (Option.some.inj e))
theorem own_new {w : World} {B g n cap : Nat} {xs : List Int} (hn : xs.length = n) (h : w.ownsRow B 3 1 (.slice (some ⟨g, 0, none⟩) n cap) n (vi xs)) : Own w g (.slice (some ⟨g, 0, none⟩) n cap) xs := by
 subst hn
 by_cases hp : 0 < xs.length
 ·exact .inr ⟨hp, _, rfl, (own_at h).1⟩
 ·have : xs = [] := List.eq_nil_of_length_eq_zero (by omega)
  subst this
  exact .inl ⟨_, _, rfl, rfl⟩
def OwnA (w : World) (g h : Nat) (v : Value) (a : ActM) : Prop :=
 ∃ vd vs, v = .agg #[.int .i64 a.r, .int .i64 a.n, vd, .int .i64 a.actor, .int .i64 a.kind, .int .i64 a.to, .int .i64 a.bucket, .int .i64 a.mask, .int .i64 a.gr, .int .i64 a.gn, vs] ∧ Own w g vd a.dep ∧ OwnU w h vs a.ups
theorem ownA_act {w : World} {g h : Nat} {v : Value} {a : ActM} (k : OwnA w g h v a) : ActIs w v a := by
 obtain ⟨vd, vs, hv, h1, h2⟩ := k
 exact ⟨vd, vs, hv, own_ints h1, ownU_ups h2⟩
theorem OwnA.below {w w' : World} {g h : Nat} {v : Value} {a : ActM} (k : OwnA w g h v a) (hb : Below w.heap.size w w') : OwnA w' g h v a := by
 obtain ⟨vd, vs, hv, h1, h2⟩ := k
 exact ⟨vd, vs, hv, h1.below hb, h2.below hb⟩
theorem OwnA.drewN {w : World} {g h : Nat} {v : Value} {a : ActM} (k : OwnA w g h v a) (n : Nat) : OwnA (w.drewN n) g h v a := k
end Go.Proofs.YtghgiefciijoeaaGreatDoor
namespace Go.Proofs.YtghgiefciijoeaaGreatDoor
open Go.RowKit
set_option linter.unusedVariables false
set_option maxHeartbeats 400000 in
theorem eqUp_same (k b y v : Int) (w : World) :
  Calls Tryz.prog 97 #[.agg #[.int .i64 k, .int .i64 b, .int .i64 y, .int .i64 v], .agg #[.int .i64 k, .int .i64 b, .int .i64 y, .int .i64 v]] w fun e w' => e = .returned (.bool true) ∧ Below w.heap.size w w' := by
 go_enter Tryz.func97, Tryz.ntmps97
 go_wp2
 go_ret
 exact ⟨rfl, ((Below.refl _ _).alloc (Nat.le_refl _) _).alloc (by simp) _⟩
set_option maxHeartbeats 800000 in
theorem eqUpS_some (b off cap b' off' cap' n : Nat) (us : List UpM) (w : World) (hl : n ≤ 9223372036854775807) (hb : b < w.heap.size) (hb' : b' < w.heap.size)
  (hc : ∀ i, i < n → UpAt w b (off + i * 4) (us.getD i up0)) (hc' : ∀ i, i < n → UpAt w b' (off' + i * 4) (us.getD i up0)) :
  Calls Tryz.prog 69 #[.slice (some ⟨b, off, none⟩) n cap, .slice (some ⟨b', off', none⟩) n cap'] w fun e w' => e = .returned (.bool true) ∧ Below w.heap.size w w' := by
 have HC := Lib.hid hc
 have HC' := Lib.hid hc'
 clear hc hc'
 go_enter Tryz.func69, Tryz.ntmps69
 go_wp2
 go_loopw [5] (fun i wr => ∃ k : Nat, k ≤ n ∧ i = .int .i64 k ∧ Hid (Below w.heap.size w wr)) (fun i _ => n - (intOf i).toNat)
 case atStart => exact ⟨0, Nat.zero_le _, rfl, Below.refl _ _⟩
 case round =>
  obtain ⟨k, hk, rfl, hbel⟩ := hrel
  by_cases hlt : k < n
  ·obtain ⟨q0, q1, q2, q3⟩ := HC.out k hlt
   have c0 := (hbel.out.cell (p := ⟨b, off + k * 4, none⟩) hb).trans q0
   have c1 := (hbel.out.cell (p := ⟨b, off + k * 4 + 1, none⟩) hb).trans q1
   have c2 := (hbel.out.cell (p := ⟨b, off + k * 4 + 2, none⟩) hb).trans q2
   have c3 := (hbel.out.cell (p := ⟨b, off + k * 4 + 3, none⟩) hb).trans q3
   clear q0 q1 q2 q3
   obtain ⟨q0, q1, q2, q3⟩ := HC'.out k hlt
   have d0 := (hbel.out.cell (p := ⟨b', off' + k * 4, none⟩) hb').trans q0
   have d1 := (hbel.out.cell (p := ⟨b', off' + k * 4 + 1, none⟩) hb').trans q1
   have d2 := (hbel.out.cell (p := ⟨b', off' + k * 4 + 2, none⟩) hb').trans q2
   have d3 := (hbel.out.cell (p := ⟨b', off' + k * 4 + 3, none⟩) hb').trans q3
   clear q0 q1 q2 q3
   generalize us.getD k up0 = u at *
   have i0 : (0 : Int) ≤ k := by omega
   have i1 : (k : Int) < n := by omega
   go_wp2_with fail
   go_region_with (go_at_call 97; refine (eqUp_same _ _ _ _ _).mono ?_; rintro e w1 ⟨rfl, b1⟩; have HB1 := Lib.hid b1; clear b1)
   all_goals go_wp2
   all_goals go_roundw
   case rel => exact ⟨k + 1, by omega, by go_num, hbel.out.drew.trans (HB1.out.mono hbel.out.size)⟩
   case measure => simp [intOf]; omega
   case rel => exact ⟨k + 1, by omega, by go_num, hbel.out.drew.trans (HB1.out.mono hbel.out.size)⟩
   case measure => simp [intOf]; omega
  ·go_wp2
   go_ret
   exact ⟨rfl, hbel.out⟩
theorem eqUpS_nil (a a' : Option Addr) (c c' : Nat) (w : World) : Calls Tryz.prog 69 #[.slice a 0 c, .slice a' 0 c'] w fun e w' => e = .returned (.bool true) ∧ Below w.heap.size w w' := by
 go_enter Tryz.func69, Tryz.ntmps69
 go_wp2
 go_loop [5] (fun i => i = .int .i64 0) (fun _ => 0)
 case atStart => rfl
 case round =>
  obtain rfl := hrel
  go_wp2
  go_ret
  exact ⟨rfl, Below.refl _ _⟩
theorem eqUpS_same (v v' : Value) (us : List UpM) (w : World) (h : Ups w v us) (h' : Ups w v' us) :
  Calls Tryz.prog 69 #[v, v'] w fun e w' => e = .returned (.bool true) ∧ Below w.heap.size w w' := by
 rcases h with ⟨a, cap, rfl, rfl⟩ | ⟨b, off, cap, rfl, h1, h2, h3, h4⟩
 ·rcases h' with ⟨a', cap', rfl, _⟩ | ⟨b', off', cap', rfl, h1', h2', h3', h4'⟩
  ·exact eqUpS_nil _ _ _ _ w
  ·exact eqUpS_nil _ _ _ _ w
 ·rcases h' with ⟨a', cap', rfl, rfl⟩ | ⟨b', off', cap', rfl, h1', h2', h3', h4'⟩
  ·exact eqUpS_nil _ _ _ _ w
  ·exact eqUpS_some _ _ _ _ _ _ _ us w (by unfold maxLen at h3; omega) h1 h1' h4 h4'
set_option maxHeartbeats 800000 in
theorem eqAct_same (v v' : Value) (a : ActM) (w : World) (h : ActIs w v a) (h' : ActIs w v' a) :
  Calls Tryz.prog 35 #[v, v'] w fun e w' => e = .returned (.bool true) ∧ Below w.heap.size w w' := by
 obtain ⟨vd, vs, rfl, hd, hs⟩ := h
 obtain ⟨vd', vs', rfl, hd', hs'⟩ := h'
 have HD := Lib.hid hd
 have HD' := Lib.hid hd'
 have HS := Lib.hid hs
 have HS' := Lib.hid hs'
 clear hd hd' hs hs'
 have ee : eqB a.dep a.dep = true := by simp [eqB]
 have EE := Lib.hid ee
 clear ee
 obtain ⟨r, n, dep, actor, kind, to, bucket, mask, gr, gn, ups⟩ := a
 have B0 := Lib.hid (((Below.refl w.heap.size w).alloc (Nat.le_refl _) (.cells #[.int .i64 r, .int .i64 n, vd, .int .i64 actor, .int .i64 kind, .int .i64 to, .int .i64 bucket, .int .i64 mask, .int .i64 gr, .int .i64 gn, vs] 32)).alloc (by simp) (.cells #[.int .i64 r, .int .i64 n, vd', .int .i64 actor, .int .i64 kind, .int .i64 to, .int .i64 bucket, .int .i64 mask, .int .i64 gr, .int .i64 gn, vs'] 32))
 go_enter Tryz.func35, Tryz.ntmps35
 go_wp2_with fail
 refine (eqIntS_any _ _ dep dep _ (HD.out.below (B := 0) B0.out) (HD'.out.below (B := 0) B0.out)).mono ?_
 rintro e w1 ⟨rfl, q, rfl⟩
 rw [EE.out]
 have B1 := Lib.hid (below_drewN B0.out q)
 go_wp2_with fail
 refine (eqUpS_same _ _ ups _ (HS.out.below B1.out) (HS'.out.below B1.out)).mono ?_
 rintro e w2 ⟨rfl, b2⟩
 have B2 := Lib.hid (B1.out.trans (b2.mono B1.out.size))
 clear b2
 go_wp2
 go_ret
 exact ⟨rfl, B2.out⟩
/-! szAct: -1 where the lists are longer than left -/
def szM (d u : Nat) (left : Int) : Int := if left - d < 0 then -1 else if left - d - u < 0 then -1 else left - d - u
theorem szIntS_any (a : Option Addr) (n cap : Nat) (left : Int) (w : World) (h0 : 0 ≤ left) (h1 : left ≤ 1048576) (hn : n ≤ 9223372036854775807) :
  Calls Tryz.prog 63 #[.slice a n cap, .int .i64 left] w fun e w' => e = .returned (.int .i64 (if left - n < 0 then -1 else left - n)) ∧ w' = w := by
 by_cases h : left - n < 0
 ·rw [if_pos h]
  go_enter Tryz.func63, Tryz.ntmps63
  go_wp2
  go_ret
  exact ⟨rfl, rfl⟩
 ·rw [if_neg h]
  go_enter Tryz.func63, Tryz.ntmps63
  go_wp2
  go_ret
  exact ⟨rfl, rfl⟩
theorem szUpS_any (a : Option Addr) (n cap : Nat) (left : Int) (w : World) (h0 : 0 ≤ left) (h1 : left ≤ 1048576) (hn : n ≤ 9223372036854775807) :
  Calls Tryz.prog 64 #[.slice a n cap, .int .i64 left] w fun e w' => e = .returned (.int .i64 (if left - n < 0 then -1 else left - n)) ∧ w' = w := by
 by_cases h : left - n < 0
 ·rw [if_pos h]
  go_enter Tryz.func64, Tryz.ntmps64
  go_wp2
  go_ret
  exact ⟨rfl, rfl⟩
 ·rw [if_neg h]
  go_enter Tryz.func64, Tryz.ntmps64
  go_wp2
  go_ret
  exact ⟨rfl, rfl⟩
end Go.Proofs.YtghgiefciijoeaaGreatDoor
namespace Go.Proofs.YtghgiefciijoeaaGreatDoor
open Go.RowKit
set_option linter.unusedVariables false
set_option maxHeartbeats 400000 in
theorem szAct_any (v : Value) (a : ActM) (left : Int) (w : World) (h : ActIs w v a) (h0 : 0 ≤ left) (h1 : left ≤ 1048576) :
  Calls Tryz.prog 31 #[v, .int .i64 left] w fun e w' => e = .returned (.int .i64 (szM a.dep.length a.ups.length left)) ∧ Below w.heap.size w w' := by
 obtain ⟨vd, vs, rfl, hd, hs⟩ := h
 have m1 := ints_max hd
 have m2 := ups_max hs
 obtain ⟨da, dc, rfl⟩ : ∃ a' c', vd = .slice a' a.dep.length c' := by
  rcases hd with ⟨x, c, rfl, e⟩ | ⟨b, off, c, rfl, _⟩
  ·exact ⟨x, c, by rw [e]; rfl⟩
  ·exact ⟨_, c, rfl⟩
 obtain ⟨ua, uc, rfl⟩ := ups_len hs
 have s1 := szIntS_any da a.dep.length dc left
 have s2 := szUpS_any ua a.ups.length uc (left - a.dep.length)
 obtain ⟨r, n, dep, actor, kind, to, bucket, mask, gr, gn, ups⟩ := a
 simp only at s1 s2 m1 m2 ⊢
 clear hd hs
 generalize dep.length = d at *
 generalize ups.length = u at *
 have B0 := Lib.hid ((Below.refl w.heap.size w).alloc (Nat.le_refl _) (.cells #[.int .i64 r, .int .i64 n, .slice da d dc, .int .i64 actor, .int .i64 kind, .int .i64 to, .int .i64 bucket, .int .i64 mask, .int .i64 gr, .int .i64 gn, .slice ua u uc] 56))
 by_cases hd : left - d < 0
 ·rw [if_pos hd] at s1
  have hz : szM d u left = -1 := by rw [szM, if_pos hd]
  rw [hz]
  have S1 := Lib.hid s1
  clear s1 s2 hz
  go_enter Tryz.func31, Tryz.ntmps31
  go_wp2_with fail
  refine (S1.out _ h0 h1 m1).mono ?_
  rintro e w1 ⟨rfl, rfl⟩
  go_wp2
  go_ret
  exact ⟨rfl, B0.out⟩
 ·rw [if_neg hd] at s1
  by_cases hu : left - d - u < 0
  ·rw [if_pos hu] at s2
   have hz : szM d u left = -1 := by rw [szM, if_neg hd, if_pos hu]
   rw [hz]
   have S1 := Lib.hid s1
   have S2 := Lib.hid s2
   clear s1 s2 hz
   go_enter Tryz.func31, Tryz.ntmps31
   go_wp2_with fail
   refine (S1.out _ h0 h1 m1).mono ?_
   rintro e w1 ⟨rfl, rfl⟩
   go_wp2_with fail
   refine (S2.out _ (by omega) (by omega) m2).mono ?_
   rintro e w2 ⟨rfl, rfl⟩
   go_wp2
   go_ret
   exact ⟨rfl, B0.out⟩
  ·rw [if_neg hu] at s2
   have hz : szM d u left = left - d - u := by rw [szM, if_neg hd, if_neg hu]
   rw [hz]
   have S1 := Lib.hid s1
   have S2 := Lib.hid s2
   clear s1 s2 hz
   go_enter Tryz.func31, Tryz.ntmps31
   go_wp2_with fail
   refine (S1.out _ h0 h1 m1).mono ?_
   rintro e w1 ⟨rfl, rfl⟩
   go_wp2_with fail
   refine (S2.out _ (by omega) (by omega) m2).mono ?_
   rintro e w2 ⟨rfl, rfl⟩
   go_wp2
   go_ret
   exact ⟨rfl, B0.out⟩
theorem toUpS_nil (a : Option Addr) (cap : Nat) (w : World) :
  Calls Tryz.prog 67 #[.slice a 0 cap] w fun e w' =>
   e = .returned (.slice (some ⟨w.heap.size, 0, none⟩) 0 0) ∧
   w'.ownsRow w.heap.size 116 4 (.slice (some ⟨w.heap.size, 0, none⟩) 0 0) 0 (vu []) ∧ Below w.heap.size w w' := by
 obtain ⟨i0, hi, hz0, hz1, hz2⟩ := info_parts Tryz.infoUp
 have hmk : ∀ w : World, (Instr.makeSlice 30 (.int .i64 0) (.int .i64 0)).run Tryz.prog w = .ok (.slice (some ⟨w.heap.size, 0, none⟩) 0 0) (w.alloc (.cells #[] 116)) := by
  intro w
  have h := run_make (P := Tryz.prog) w 30 116 i0 _ Tryz.underlying30 hi hz0 .i64 .i64 (0:Nat) (0:Nat) (by omega) (by omega) (by rw [hz2]; omega) (by omega)
  rw [hz1] at h
  simp only [Int.toNat_natCast] at h
  rw [vu_zero] at h
  exact h
 clear hi hz0 hz1 hz2 i0
 go_enter Tryz.func67, Tryz.ntmps67
 go_wp2
 go_loop [4] (fun i => i = .int .i64 0) (fun _ => 0)
 case atStart => rfl
 case round =>
   obtain rfl := hrel
   go_wp2
   go_ret
   exact ⟨rfl, World.ownsRow_lit w #[] 0 (Nat.le_refl _) (by unfold maxLen; omega) rfl, (Below.refl _ _).alloc (Nat.le_refl _) _⟩
theorem toUpS_any (v : Value) (us : List UpM) (w : World) (h : Ups w v us) (hl : us.length ≤ 1048576) :
  Calls Tryz.prog 67 #[v] w fun e w' =>
   e = .returned (.slice (some ⟨w.heap.size, 0, none⟩) us.length us.length) ∧
   w'.ownsRow w.heap.size 116 4 (.slice (some ⟨w.heap.size, 0, none⟩) us.length us.length) us.length (vu us) ∧ Below w.heap.size w w' := by
 rcases h with ⟨a, cap, rfl, rfl⟩ | ⟨b, off, cap, rfl, h1, h2, h3, h4⟩
 ·exact toUpS_nil _ _ w
 ·exact toUpS_some _ _ _ _ us w rfl h1 hl h4
def ActMade (w : World) (a : ActM) (e : Ending) (w' : World) : Prop := ∃ v g h, e = .returned v ∧ OwnA w' g h v a ∧ w.heap.size ≤ g ∧ g < h ∧ h < w'.heap.size ∧ Below w.heap.size w w'
set_option maxHeartbeats 800000 in
theorem toAct_any (v : Value) (a : ActM) (w : World) (h : ActIs w v a) (hl : a.dep.length ≤ 1048576) (hu : a.ups.length ≤ 1048576) :
  Calls Tryz.prog 34 #[v] w (ActMade w a) := by
 obtain ⟨vd, vs, rfl, hd, hs⟩ := h
 have HD := Lib.hid hd
 have HS := Lib.hid hs
 have HL := Lib.hid hl
 have HU := Lib.hid hu
 clear hd hs hl hu
 obtain ⟨r, n, dep, actor, kind, to, bucket, mask, gr, gn, ups⟩ := a
 have B0 := Lib.hid ((((Below.refl w.heap.size w).alloc (Nat.le_refl _) (.cells #[.int .i64 r, .int .i64 n, vd, .int .i64 actor, .int .i64 kind, .int .i64 to, .int .i64 bucket, .int .i64 mask, .int .i64 gr, .int .i64 gn, vs] 56)).alloc (by simp) (.cells #[.int .i64 0, .int .i64 0, .slice none 0 0, .int .i64 0, .int .i64 0, .int .i64 0, .int .i64 0, .int .i64 0, .int .i64 0, .int .i64 0, .slice none 0 0] 32)).alloc (by simp; omega) (.cells #[.int .i64 r, .int .i64 n, .slice none 0 0, .int .i64 0, .int .i64 0, .int .i64 0, .int .i64 0, .int .i64 0, .int .i64 0, .int .i64 0, .slice none 0 0] 32))
 have K1 := Lib.hid (((Blk.new w #[.int .i64 r, .int .i64 n, vd, .int .i64 actor, .int .i64 kind, .int .i64 to, .int .i64 bucket, .int .i64 mask, .int .i64 gr, .int .i64 gn, vs] 56).alloc (.cells #[.int .i64 0, .int .i64 0, .slice none 0 0, .int .i64 0, .int .i64 0, .int .i64 0, .int .i64 0, .int .i64 0, .int .i64 0, .int .i64 0, .slice none 0 0] 32)).alloc (.cells #[.int .i64 r, .int .i64 n, .slice none 0 0, .int .i64 0, .int .i64 0, .int .i64 0, .int .i64 0, .int .i64 0, .int .i64 0, .int .i64 0, .slice none 0 0] 32))
 have K2 := Lib.hid ((Blk.new (w.alloc (.cells #[.int .i64 r, .int .i64 n, vd, .int .i64 actor, .int .i64 kind, .int .i64 to, .int .i64 bucket, .int .i64 mask, .int .i64 gr, .int .i64 gn, vs] 56)) #[.int .i64 0, .int .i64 0, .slice none 0 0, .int .i64 0, .int .i64 0, .int .i64 0, .int .i64 0, .int .i64 0, .int .i64 0, .int .i64 0, .slice none 0 0] 32).alloc (.cells #[.int .i64 r, .int .i64 n, .slice none 0 0, .int .i64 0, .int .i64 0, .int .i64 0, .int .i64 0, .int .i64 0, .int .i64 0, .int .i64 0, .slice none 0 0] 32))
 have K3 := Lib.hid (Blk.new ((w.alloc (.cells #[.int .i64 r, .int .i64 n, vd, .int .i64 actor, .int .i64 kind, .int .i64 to, .int .i64 bucket, .int .i64 mask, .int .i64 gr, .int .i64 gn, vs] 56)).alloc (.cells #[.int .i64 0, .int .i64 0, .slice none 0 0, .int .i64 0, .int .i64 0, .int .i64 0, .int .i64 0, .int .i64 0, .int .i64 0, .int .i64 0, .slice none 0 0] 32)) #[.int .i64 r, .int .i64 n, .slice none 0 0, .int .i64 0, .int .i64 0, .int .i64 0, .int .i64 0, .int .i64 0, .int .i64 0, .int .i64 0, .slice none 0 0] 32)
 simp only [World.size_alloc] at K2 K3
 go_enter Tryz.func34, Tryz.ntmps34
 go_wp2_with fail
 refine (toIntS_any _ dep _ (HD.out.below (B := 0) B0.out) HL.out).mono ?_
 rintro e w1 ⟨rfl, o1, b1⟩
 have z1 : w.heap.size + 1 + 1 + 1 ≤ w1.heap.size := by have := b1.size; simpa using this
 have M1 := K1.out.below b1 (by simp; omega)
 have M2 := K2.out.below b1 (by simp)
 have M3 := K3.out.below b1 (by simp)
 have z1' := (own_at o1).2.2
 simp only [World.size_alloc] at z1'
 have d1 := own_new rfl o1
 simp only [World.size_alloc] at d1
 have D1 := Lib.hid d1
 clear d1
 have B1 := Lib.hid (B0.out.trans (b1.mono B0.out.size))
 have c1 := M1.cell
 have c3 := M3.cell
 have f3 := M3.free
 have P1 := Lib.hid ((((((((((((((((M1).other (p := ⟨w.heap.size + 1 + 1, 2, none⟩) (by simp; omega) (.slice (some ⟨w.heap.size + 1 + 1 + 1, 0, none⟩) dep.length dep.length))).other (p := ⟨w.heap.size + 1 + 1, 3, none⟩) (by simp; omega) (.int .i64 actor))).other (p := ⟨w.heap.size + 1 + 1, 4, none⟩) (by simp; omega) (.int .i64 kind))).other (p := ⟨w.heap.size + 1 + 1, 5, none⟩) (by simp; omega) (.int .i64 to))).other (p := ⟨w.heap.size + 1 + 1, 6, none⟩) (by simp; omega) (.int .i64 bucket))).other (p := ⟨w.heap.size + 1 + 1, 7, none⟩) (by simp; omega) (.int .i64 mask))).other (p := ⟨w.heap.size + 1 + 1, 8, none⟩) (by simp; omega) (.int .i64 gr))).other (p := ⟨w.heap.size + 1 + 1, 9, none⟩) (by simp; omega) (.int .i64 gn))
 have P2 := Lib.hid ((((((((((((((((M2).other (p := ⟨w.heap.size + 1 + 1, 2, none⟩) (by simp) (.slice (some ⟨w.heap.size + 1 + 1 + 1, 0, none⟩) dep.length dep.length))).other (p := ⟨w.heap.size + 1 + 1, 3, none⟩) (by simp) (.int .i64 actor))).other (p := ⟨w.heap.size + 1 + 1, 4, none⟩) (by simp) (.int .i64 kind))).other (p := ⟨w.heap.size + 1 + 1, 5, none⟩) (by simp) (.int .i64 to))).other (p := ⟨w.heap.size + 1 + 1, 6, none⟩) (by simp) (.int .i64 bucket))).other (p := ⟨w.heap.size + 1 + 1, 7, none⟩) (by simp) (.int .i64 mask))).other (p := ⟨w.heap.size + 1 + 1, 8, none⟩) (by simp) (.int .i64 gr))).other (p := ⟨w.heap.size + 1 + 1, 9, none⟩) (by simp) (.int .i64 gn))
 have P3 := Lib.hid ((((((((((((((((M3).set (j := 2) (by simp) (.slice (some ⟨w.heap.size + 1 + 1 + 1, 0, none⟩) dep.length dep.length))).set (j := 3) (by simp) (.int .i64 actor))).set (j := 4) (by simp) (.int .i64 kind))).set (j := 5) (by simp) (.int .i64 to))).set (j := 6) (by simp) (.int .i64 bucket))).set (j := 7) (by simp) (.int .i64 mask))).set (j := 8) (by simp) (.int .i64 gr))).set (j := 9) (by simp) (.int .i64 gn))
 have BW := Lib.hid ((((((((((((((((B1.out).setCell (p := ⟨w.heap.size + 1 + 1, 2, none⟩) (by simp; omega) (.slice (some ⟨w.heap.size + 1 + 1 + 1, 0, none⟩) dep.length dep.length))).setCell (p := ⟨w.heap.size + 1 + 1, 3, none⟩) (by simp; omega) (.int .i64 actor))).setCell (p := ⟨w.heap.size + 1 + 1, 4, none⟩) (by simp; omega) (.int .i64 kind))).setCell (p := ⟨w.heap.size + 1 + 1, 5, none⟩) (by simp; omega) (.int .i64 to))).setCell (p := ⟨w.heap.size + 1 + 1, 6, none⟩) (by simp; omega) (.int .i64 bucket))).setCell (p := ⟨w.heap.size + 1 + 1, 7, none⟩) (by simp; omega) (.int .i64 mask))).setCell (p := ⟨w.heap.size + 1 + 1, 8, none⟩) (by simp; omega) (.int .i64 gr))).setCell (p := ⟨w.heap.size + 1 + 1, 9, none⟩) (by simp; omega) (.int .i64 gn))
 have DW := Lib.hid (D1.out.other ((((((((grown_set (w := w1) (w.heap.size + 1 + 1) 2 (.slice (some ⟨w.heap.size + 1 + 1 + 1, 0, none⟩) dep.length dep.length)).trans (grown_set (w.heap.size + 1 + 1) 3 (.int .i64 actor))).trans (grown_set (w.heap.size + 1 + 1) 4 (.int .i64 kind))).trans (grown_set (w.heap.size + 1 + 1) 5 (.int .i64 to))).trans (grown_set (w.heap.size + 1 + 1) 6 (.int .i64 bucket))).trans (grown_set (w.heap.size + 1 + 1) 7 (.int .i64 mask))).trans (grown_set (w.heap.size + 1 + 1) 8 (.int .i64 gr))).trans (grown_set (w.heap.size + 1 + 1) 9 (.int .i64 gn))) (fun _ => by simp))
 clear b1 o1 M1 M2 M3 K1 K2 K3
 simp only [World.size_alloc]
 go_wp2_with fail
 refine (toUpS_any _ ups _ (HS.out.below BW.out) HU.out).mono ?_
 rintro e w2 ⟨rfl, o2, b2⟩
 clear c1 c3 f3
 have s2 := ownU_new rfl o2
 have s3 := (own_at o2).2.2
 simp only [World.size_setCell] at s2 s3
 have S2 := Lib.hid s2
 have S3 := Lib.hid s3
 clear s2 s3
 have D2 := Lib.hid (DW.out.below b2)
 have Q1 := P1.out.below b2 (by simp; omega)
 have Q2 := P2.out.below b2 (by simp; omega)
 have Q3 := P3.out.below b2 (by simp; omega)
 have z2 : w.heap.size + 1 + 1 + 1 ≤ w2.heap.size := by have := b2.size; simp at this; omega
 have B2 := Lib.hid (BW.out.trans (b2.mono BW.out.size))
 have c1 := Q1.cell
 have c2 := Q2.cell
 have c3 := Q3.cell
 have f2 := Q2.free
 have f3 := Q3.free
 clear b2 o2 Q1 Q2 Q3 P1 P2 P3 DW BW
 simp only [World.size_setCell]
 go_wp2_with fail
 have g1 := grown_set (w := w2) (w.heap.size + 1 + 1) 10 (.slice (some ⟨w1.heap.size, 0, none⟩) ups.length ups.length)
 have g2 : (w2.setCell ⟨w.heap.size + 1 + 1, 10, none⟩ (.slice (some ⟨w1.heap.size, 0, none⟩) ups.length ups.length)).grownBy _ (some (w.heap.size + 1)) := (((((((((((grown_set (w.heap.size + 1) 0 (.int .i64 r)).trans (grown_set (w.heap.size + 1) 1 (.int .i64 n))).trans (grown_set (w.heap.size + 1) 2 (.slice (some ⟨w.heap.size + 1 + 1 + 1, 0, none⟩) dep.length dep.length))).trans (grown_set (w.heap.size + 1) 3 (.int .i64 actor))).trans (grown_set (w.heap.size + 1) 4 (.int .i64 kind))).trans (grown_set (w.heap.size + 1) 5 (.int .i64 to))).trans (grown_set (w.heap.size + 1) 6 (.int .i64 bucket))).trans (grown_set (w.heap.size + 1) 7 (.int .i64 mask))).trans (grown_set (w.heap.size + 1) 8 (.int .i64 gr))).trans (grown_set (w.heap.size + 1) 9 (.int .i64 gn))).trans (grown_set (w.heap.size + 1) 10 (.slice (some ⟨w1.heap.size, 0, none⟩) ups.length ups.length)))
 refine bodyPost_ret (v := .agg #[.int .i64 r, .int .i64 n, .slice (some ⟨w.heap.size + 1 + 1 + 1, 0, none⟩) dep.length dep.length, .int .i64 actor, .int .i64 kind, .int .i64 to, .int .i64 bucket, .int .i64 mask, .int .i64 gr, .int .i64 gn, .slice (some ⟨w1.heap.size, 0, none⟩) ups.length ups.length]) (by simp [results, Tryz.results34, go_sem, c2]) rfl ⟨_, w.heap.size + 1 + 1 + 1, w1.heap.size, rfl, ⟨_, _, rfl, (D2.out.other g1 (fun _ => by omega)).other g2 (fun _ => by omega), (S2.out.other g1 (fun _ => by omega)).other g2 (fun _ => by omega)⟩, by omega, ?_, ?_, ?_⟩
 ·omega
 ·simp only [World.size_setCell]
  exact S3.out
 ·exact (B2.out.grown g1 B2.out.size (fun k hk => by cases hk; omega)).grown g2 (by have := g1.size; have := B2.out.size; omega) (fun k hk => by cases hk; omega)
end Go.Proofs.YtghgiefciijoeaaGreatDoor
namespace Go.Proofs.YtghgiefciijoeaaGreatDoor
open Go.RowKit
set_option linter.unusedVariables false
def knowsM (a b : ActM) : Bool := decide (0 ≤ b.r) && decide (b.r < a.dep.length) && decide (1 ≤ b.n) && decide (b.n ≤ a.dep.getD b.r.toNat 0)
set_option maxHeartbeats 800000 in
theorem specKnows_any (v v' : Value) (a b : ActM) (w : World) (h : ActIs w v a) (h' : ActIs w v' b) :
  Calls Tryz.prog 48 #[v, v'] w fun e w' => e = .returned (.bool (knowsM a b)) ∧ Below w.heap.size w w' := by
 obtain ⟨vd, vs, rfl, hd, hs⟩ := h
 obtain ⟨vd', vs', rfl, hd', hs'⟩ := h'
 clear hs hs' hd'
 obtain ⟨r', n', dep', actor', kind', to', bucket', mask', gr', gn', ups'⟩ := b
 obtain ⟨r, n, dep, actor, kind, to, bucket, mask, gr, gn, ups⟩ := a
 obtain ⟨R, hR⟩ : ∃ R, R = knowsM ⟨r, n, dep, actor, kind, to, bucket, mask, gr, gn, ups⟩ ⟨r', n', dep', actor', kind', to', bucket', mask', gr', gn', ups'⟩ := ⟨_, rfl⟩
 rw [← hR]
 simp only [knowsM] at hR
 have bb := Lib.hid (((Below.refl w.heap.size w).alloc (Nat.le_refl _) (.cells #[.int .i64 r, .int .i64 n, vd, .int .i64 actor, .int .i64 kind, .int .i64 to, .int .i64 bucket, .int .i64 mask, .int .i64 gr, .int .i64 gn, vs] 32)).alloc (by simp) (.cells #[.int .i64 r', .int .i64 n', vd', .int .i64 actor', .int .i64 kind', .int .i64 to', .int .i64 bucket', .int .i64 mask', .int .i64 gr', .int .i64 gn', vs'] 32))
 by_cases h0 : 0 ≤ r'
 ·obtain ⟨a0, c0, hvd⟩ := ints_len hd
  have hmm := ints_max hd
  by_cases h1 : r' < dep.length
  ·obtain ⟨k, rfl⟩ := Int.eq_ofNat_of_zero_le h0
   have hk : k < dep.length := by omega
   by_cases h2 : 1 ≤ n'
   ·have HR : Hid (R = decide (n' ≤ dep.getD k 0)) := by
     show R = _
     rw [hR]; simp [h1, h2]
    clear hR hvd
    rcases hd with ⟨x, c, rfl, rfl⟩ | ⟨b, off, c, rfl, hb, hl, hm, hc⟩
    ·simp at hk
    ·have hck := hc k hk
     clear hc
     generalize dep.getD k 0 = x at *
     generalize dep.length = len at *
     have e1 : decide ((k : Int) < len) = true := by simp; omega
     have e2 : decide (0 ≤ (k : Int)) = true := by simp
     have e3 : decide (1 ≤ n') = true := by simp; omega
     go_enter Tryz.func48, Tryz.ntmps48
     go_wp2
     go_quiet (fail)
     go_wp2
     go_ret
     exact ⟨ret_bool HR.out.symm, below_drewN bb.out _⟩
   ·have HR : Hid (R = false) := by
     show R = _
     rw [hR]; simp [h2]
    clear hR hd
    subst hvd
    generalize dep.length = len at *
    have e1 : decide ((k : Int) < len) = true := by simp; omega
    have e2 : decide (0 ≤ (k : Int)) = true := by simp
    have e3 : decide (1 ≤ n') = false := by simp; omega
    go_enter Tryz.func48, Tryz.ntmps48
    go_wp2
    go_quiet (fail)
    go_wp2
    go_ret
    exact ⟨ret_bool HR.out.symm, below_drewN bb.out _⟩
  ·have HR : Hid (R = false) := by
    show R = _
    rw [hR]; simp [h1]
   clear hR hd
   subst hvd
   generalize dep.length = len at *
   have e1 : decide (r' < len) = false := by simp; omega
   have e2 : decide (0 ≤ r') = true := by simp; omega
   go_enter Tryz.func48, Tryz.ntmps48
   go_wp2
   go_quiet (fail)
   go_wp2
   go_ret
   exact ⟨ret_bool HR.out.symm, below_drewN bb.out _⟩
 ·have HR : Hid (R = false) := by
   show R = _
   rw [hR]; simp [h0]
  clear hR hd
  have e2 : decide (0 ≤ r') = false := by simp; omega
  go_enter Tryz.func48, Tryz.ntmps48
  go_wp2
  go_quiet (fail)
  go_wp2
  go_ret
  exact ⟨ret_bool HR.out.symm, below_drewN bb.out _⟩
def sumW (xs : List Int) : Int := xs.foldl (fun n x => wrap64 (n + x)) 0
theorem sumW_step (xs : List Int) (k : Nat) (hk : k < xs.length) : sumW (xs.take (k + 1)) = wrap64 (sumW (xs.take k) + xs.getD k 0) := by
 unfold sumW
 rw [List.take_succ_eq_append_getElem hk, List.foldl_append]
 simp [List.getD, hk]
set_option maxHeartbeats 400000 in
theorem l2sum_some (b off cap n : Nat) (xs : List Int) (w : World) (hn : xs.length = n) (hl : n ≤ 9223372036854775807)
  (hc : ∀ i, i < n → w.cell? ⟨b, off + i, none⟩ = some (.int .i64 (xs.getD i 0))) :
  Calls Tryz.prog 87 #[.slice (some ⟨b, off, none⟩) n cap] w fun e w' => e = .returned (.int .i64 (sumW xs)) ∧ w' = w := by
 have HN := Lib.hid hn
 have HC := Lib.hid hc
 clear hn hc
 go_enter Tryz.func87, Tryz.ntmps87
 go_wp2
 go_loop [3, 4] (fun t i => ∃ (k : Nat) (s : Int), k ≤ n ∧ i = .int .i64 k ∧ t = .int .i64 s ∧ Hid (s = sumW (xs.take k))) (fun _ i => n - (intOf i).toNat)
 case atStart => exact ⟨0, 0, Nat.zero_le _, rfl, rfl, by simp [Hid, sumW]⟩
 case round =>
  obtain ⟨k, s, hk, rfl, rfl, hs⟩ := hrel
  by_cases hlt : k < n
  ·have hc1 := HC.out k hlt
   have hst := sumW_step xs k (by rw [HN.out]; exact hlt)
   generalize xs.getD k 0 = x at *
   have HS := Lib.hid hst
   clear hst
   go_wp2
   go_round
   case rel => exact ⟨k + 1, _, by omega, by go_num, rfl, by show _ = _; rw [HS.out, hs.out]⟩
   case measure => simp [intOf]; omega
  ·have : k = n := by omega
   subst this
   go_wp2
   go_ret
   exact ⟨ret_int (by rw [hs.out, List.take_of_length_le (by rw [HN.out]; omega)]), rfl⟩
theorem l2sum_nil (a : Option Addr) (cap : Nat) (w : World) :
  Calls Tryz.prog 87 #[.slice a 0 cap] w fun e w' => e = .returned (.int .i64 (sumW [])) ∧ w' = w := by
 go_enter Tryz.func87, Tryz.ntmps87
 go_wp2
 go_loop [3, 4] (fun t i => t = .int .i64 0 ∧ i = .int .i64 0) (fun _ _ => 0)
 case atStart => exact ⟨rfl, rfl⟩
 case round =>
  obtain ⟨rfl, rfl⟩ := hrel
  go_wp2
  go_ret
  exact ⟨rfl, rfl⟩
theorem l2sum_any (v : Value) (xs : List Int) (w : World) (h : Ints w v xs) :
  Calls Tryz.prog 87 #[v] w fun e w' => e = .returned (.int .i64 (sumW xs)) ∧ w' = w := by
 rcases h with ⟨a, cap, rfl, rfl⟩ | ⟨b, off, cap, rfl, h1, h2, h3, h4⟩
 ·exact l2sum_nil _ _ w
 ·exact l2sum_some b off cap _ xs w rfl (by unfold maxLen at h3; omega) h4
def aheadM (a b : ActM) : Bool :=
 if sumW a.dep = sumW b.dep then decide (a.r < b.r) || (decide (a.r = b.r) && decide (a.n < b.n)) else decide (sumW a.dep < sumW b.dep)
set_option maxHeartbeats 800000 in
theorem specAhead_any (v v' : Value) (a b : ActM) (w : World) (h : ActIs w v a) (h' : ActIs w v' b) :
  Calls Tryz.prog 46 #[v, v'] w fun e w' => e = .returned (.bool (aheadM a b)) ∧ Below w.heap.size w w' := by
 obtain ⟨vd, vs, rfl, hd, hs⟩ := h
 obtain ⟨vd', vs', rfl, hd', hs'⟩ := h'
 clear hs hs'
 obtain ⟨r', n', dep', actor', kind', to', bucket', mask', gr', gn', ups'⟩ := b
 obtain ⟨r, n, dep, actor, kind, to, bucket, mask, gr, gn, ups⟩ := a
 obtain ⟨R, hR⟩ : ∃ R, R = aheadM ⟨r, n, dep, actor, kind, to, bucket, mask, gr, gn, ups⟩ ⟨r', n', dep', actor', kind', to', bucket', mask', gr', gn', ups'⟩ := ⟨_, rfl⟩
 rw [← hR]
 simp only [aheadM] at hR
 have bb := Lib.hid (((Below.refl w.heap.size w).alloc (Nat.le_refl _) (.cells #[.int .i64 r, .int .i64 n, vd, .int .i64 actor, .int .i64 kind, .int .i64 to, .int .i64 bucket, .int .i64 mask, .int .i64 gr, .int .i64 gn, vs] 32)).alloc (by simp) (.cells #[.int .i64 r', .int .i64 n', vd', .int .i64 actor', .int .i64 kind', .int .i64 to', .int .i64 bucket', .int .i64 mask', .int .i64 gr', .int .i64 gn', vs'] 32))
 have S1 := Lib.hid (fun w h => l2sum_any vd dep w h)
 have S2 := Lib.hid (fun w h => l2sum_any vd' dep' w h)
 have HD := Lib.hid hd
 have HD' := Lib.hid hd'
 clear hd hd'
 generalize sumW dep = x at *
 generalize sumW dep' = y at *
 by_cases h0 : x = y
 ·subst h0
  rw [if_pos rfl] at hR
  by_cases h1 : r < r'
  ·have HR := Lib.hid (show R = true by rw [hR]; simp [h1])
   clear hR
   go_enter Tryz.func46, Tryz.ntmps46
   go_wp2_with fail
   refine (S1.out _ (HD.out.below (B := 0) bb.out)).mono ?_
   rintro e w1 ⟨rfl, rfl⟩
   go_wp2_with fail
   refine (S2.out _ (HD'.out.below (B := 0) bb.out)).mono ?_
   rintro e w1 ⟨rfl, rfl⟩
   go_wp2
   go_ret
   exact ⟨ret_bool HR.out.symm, bb.out⟩
  ·by_cases h2 : r = r'
   ·have HR := Lib.hid (show R = decide (n < n') by rw [hR]; simp [h2])
    clear hR
    subst h2
    go_enter Tryz.func46, Tryz.ntmps46
    go_wp2_with fail
    refine (S1.out _ (HD.out.below (B := 0) bb.out)).mono ?_
    rintro e w1 ⟨rfl, rfl⟩
    go_wp2_with fail
    refine (S2.out _ (HD'.out.below (B := 0) bb.out)).mono ?_
    rintro e w1 ⟨rfl, rfl⟩
    go_wp2
    go_ret
    exact ⟨ret_bool HR.out.symm, bb.out⟩
   ·have HR := Lib.hid (show R = false by rw [hR]; simp [h1, h2])
    have e1 : (r == r') = false := by simpa using h2
    have e0 : decide (r < r') = false := by simp; omega
    clear hR h2
    go_enter Tryz.func46, Tryz.ntmps46
    go_wp2_with fail
    refine (S1.out _ (HD.out.below (B := 0) bb.out)).mono ?_
    rintro e w1 ⟨rfl, rfl⟩
    go_wp2_with fail
    refine (S2.out _ (HD'.out.below (B := 0) bb.out)).mono ?_
    rintro e w1 ⟨rfl, rfl⟩
    go_wp2
    go_ret
    exact ⟨ret_bool HR.out.symm, bb.out⟩
 ·rw [if_neg h0] at hR
  have HR := Lib.hid hR
  have e1 : (x == y) = false := by simpa using h0
  have e2 : (x != y) = true := by simpa using h0
  clear hR h0
  go_enter Tryz.func46, Tryz.ntmps46
  go_wp2_with fail
  refine (S1.out _ (HD.out.below (B := 0) bb.out)).mono ?_
  rintro e w1 ⟨rfl, rfl⟩
  go_wp2_with fail
  refine (S2.out _ (HD'.out.below (B := 0) bb.out)).mono ?_
  rintro e w1 ⟨rfl, rfl⟩
  go_wp2
  go_ret
  exact ⟨ret_bool HR.out.symm, bb.out⟩
end Go.Proofs.YtghgiefciijoeaaGreatDoor
namespace Go.Proofs.YtghgiefciijoeaaGreatDoor
open Go.Joins Go.ChangeShapes Go.WideShapes Go.RowKit Go.Deep
set_option linter.unusedVariables false
section
variable {H : Type} {enc : TypeId × Value → H} {P : Program} {w : World} {base : Nat} {spare : Nat → Bool} {held : Bool}
theorem open_agg11 {r : Reach} {b0 : Nat} {t : TypeId} {f0 f1 f2 f3 f4 f5 f6 f7 f8 f9 f10 : Field} {v : Value} {d : DataW H} {p : List MemPlace} (hs : P.underlying t = some (.struct #[f0, f1, f2, f3, f4, f5, f6, f7, f8, f9, f10])) (hone : oneCellFields P #[f0, f1, f2, f3, f4, f5, f6, f7, f8, f9, f10] = true) (hC : P.cellsOf t = 11)
  (hv : Value.okWide P w r b0 t v) (h : DataW.Trod enc P w base spare held t v d p) :
  ∃ (v0 v1 v2 v3 v4 v5 v6 v7 v8 v9 v10 : Value) (y0 y1 y2 y3 y4 y5 y6 y7 y8 y9 y10 : DataW H × List MemPlace) (n : Nat), v = .agg #[v0, v1, v2, v3, v4, v5, v6, v7, v8, v9, v10] ∧
   DataW.trod enc P w base spare held n f0.type [v0] = some y0 ∧ DataW.trod enc P w base spare held n f1.type [v1] = some y1 ∧ DataW.trod enc P w base spare held n f2.type [v2] = some y2 ∧ DataW.trod enc P w base spare held n f3.type [v3] = some y3 ∧ DataW.trod enc P w base spare held n f4.type [v4] = some y4 ∧ DataW.trod enc P w base spare held n f5.type [v5] = some y5 ∧ DataW.trod enc P w base spare held n f6.type [v6] = some y6 ∧ DataW.trod enc P w base spare held n f7.type [v7] = some y7 ∧ DataW.trod enc P w base spare held n f8.type [v8] = some y8 ∧ DataW.trod enc P w base spare held n f9.type [v9] = some y9 ∧ DataW.trod enc P w base spare held n f10.type [v10] = some y10 := by
 obtain ⟨cs, rfl, hsz⟩ := okWide_struct hs hv
 obtain ⟨l⟩ := cs
 match l, hsz.trans hC with
 | [c0, c1, c2, c3, c4, c5, c6, c7, c8, c9, c10], _ =>
  obtain ⟨fuel, hf⟩ := h
  obtain ⟨xs, n, _, hx, _, hlen, hg⟩ := DataW.trod_struct hs hf
  obtain ⟨o0, k0⟩ := hone_of hone 0 f0 rfl
  obtain ⟨o1, k1⟩ := hone_of hone 1 f1 rfl
  obtain ⟨o2, k2⟩ := hone_of hone 2 f2 rfl
  obtain ⟨o3, k3⟩ := hone_of hone 3 f3 rfl
  obtain ⟨o4, k4⟩ := hone_of hone 4 f4 rfl
  obtain ⟨o5, k5⟩ := hone_of hone 5 f5 rfl
  obtain ⟨o6, k6⟩ := hone_of hone 6 f6 rfl
  obtain ⟨o7, k7⟩ := hone_of hone 7 f7 rfl
  obtain ⟨o8, k8⟩ := hone_of hone 8 f8 rfl
  obtain ⟨o9, k9⟩ := hone_of hone 9 f9 rfl
  obtain ⟨o10, k10⟩ := hone_of hone 10 f10 rfl
  match xs, hlen with
  | [y0, y1, y2, y3, y4, y5, y6, y7, y8, y9, y10], _ =>
   exact ⟨c0, c1, c2, c3, c4, c5, c6, c7, c8, c9, c10, y0, y1, y2, y3, y4, y5, y6, y7, y8, y9, y10, n, rfl, by simpa [Value.cells, o0, k0] using hg 0 f0 rfl, by simpa [Value.cells, o1, k1] using hg 1 f1 rfl, by simpa [Value.cells, o2, k2] using hg 2 f2 rfl, by simpa [Value.cells, o3, k3] using hg 3 f3 rfl, by simpa [Value.cells, o4, k4] using hg 4 f4 rfl, by simpa [Value.cells, o5, k5] using hg 5 f5 rfl, by simpa [Value.cells, o6, k6] using hg 6 f6 rfl, by simpa [Value.cells, o7, k7] using hg 7 f7 rfl, by simpa [Value.cells, o8, k8] using hg 8 f8 rfl, by simpa [Value.cells, o9, k9] using hg 9 f9 rfl, by simpa [Value.cells, o10, k10] using hg 10 f10 rfl⟩
theorem open_slice_cells {t e : TypeId} {fs : Array Field} {fuel : Nat} {cs : List Value} {x : DataW H × List MemPlace} (ht : P.underlying t = some (.slice e)) (he : P.underlying e = some (.struct fs))
  (hone : oneCellFields P fs = true) (hC : P.cellsOf e = fs.size) (h : DataW.trod enc P w base spare held fuel t cs = some x) :
  cs = [.slice none 0 0] ∨
  ∃ (a : Addr) (len cap m : Nat), cs = [.slice (some a) len cap] ∧ len ≤ cap ∧ cap ≤ maxLen ∧ len ≤ m ∧
   ∀ i, i < m → ∃ n : Nat, ∀ (j : Nat) (f : Field), fs[j]? = some f → ∃ (v : Value) (y : DataW H × List MemPlace), w.cell? (a.add (i * fs.size + j)) = some v ∧ DataW.trod enc P w base spare held n f.type [v] = some y := by
 rcases open_slice ht h with h0 | ⟨a, len, cap, m, n, D, Pl, hcs, hb, hl, hm, hmm, hx, hi⟩
 ·exact .inl h0.1
 ·refine .inr ⟨a, len, cap, m, hcs, hl, hm, by rw [hmm]; split <;> omega, fun i him => ?_⟩
  obtain ⟨cs', hc, ht'⟩ := hi i him
  rw [hC] at hc
  obtain ⟨ys, n', hn', hy, hlen, hyl, hf⟩ := DataW.trod_struct he ht'
  obtain ⟨_, hcl, hat⟩ := World.cells?_some hc
  refine ⟨n', fun j f hj => ?_⟩
  obtain ⟨ho, hk⟩ := hone_of hone j f hj
  have hjl : j < fs.size := (Array.getElem?_eq_some_iff.1 hj).1
  have hcell := hat j hjl
  have hv : cs'[j]? = some (cs'[j]'(by omega)) := List.getElem?_eq_getElem (by omega)
  have h1 := hf j f hj
  rw [ho, hk] at h1
  have hone' : (cs'.drop j).take 1 = [cs'[j]'(by omega)] := by
   rw [List.drop_eq_getElem_cons (by omega)]
   rfl
  rw [hone'] at h1
  have hys : ys[j]? = some (ys[j]'(by omega)) := List.getElem?_eq_getElem (by omega)
  refine ⟨_, _, ?_, h1.trans hys⟩
  rw [← Go.Deep.add_add, hcell, hv]
end
end Go.Proofs.YtghgiefciijoeaaGreatDoor
namespace Go.Proofs.YtghgiefciijoeaaGreatDoor
open Go.Joins Go.ChangeShapes Go.WideShapes Go.ChangeAt Go.RowKit Go.Deep
set_option linter.unusedVariables false
theorem int_in {H : Type} {enc : TypeId × Value → H} {W : World} {base : Nat} {spare : Nat → Bool} {held : Bool} {n : Nat} {v : Value} {y : DataW H × List MemPlace} (h : DataW.trod enc Tryz.prog W base spare held n 3 [v] = some y) :
  ∃ x : Int, v = .int .i64 x := by
 obtain ⟨a, e0, _, _⟩ := DataW.trod_int Tryz.underlying3 h
 simp only [List.cons.injEq, and_true] at e0
 exact ⟨a, e0⟩
theorem ints_in {H : Type} {enc : TypeId × Value → H} {W : World} {base : Nat} {n : Nat} {v : Value} {y : DataW H × List MemPlace} (h : DataW.trod enc Tryz.prog W base (fun _ => true) true n 29 [v] = some y) :
  ∃ xs, Ints W v xs := by
 rcases open_ints Tryz.underlying29 Tryz.underlying3 (by kernel_rfl) h with ⟨hcs, _⟩ | ⟨x, l, c, zs, hcs, _, hl, hm, hz, _, hcell, hwz⟩
 ·simp only [List.cons.injEq, and_true] at hcs
  exact ⟨[], .inl ⟨_, _, hcs, rfl⟩⟩
 ·simp only [List.cons.injEq, and_true] at hcs
  subst hcs
  exact ⟨_, (ints_row W (some x) l c zs (.inr ⟨x, rfl, hl, hm, by simpa using hz, hcell, hwz⟩)).1⟩
theorem ups_in {H : Type} {enc : TypeId × Value → H} {W : World} {base : Nat} {n : Nat} {v : Value} {y : DataW H × List MemPlace} (h : DataW.trod enc Tryz.prog W base (fun _ => true) true n 54 [v] = some y) :
  ∃ us, Ups W v us := by
 rcases open_slice_cells Tryz.underlying54 Tryz.underlying122 (by kernel_rfl) (by kernel_rfl) h with hcs | ⟨a, len, cap, m, hcs, hl, hm, hlm, hi⟩
 ·simp only [List.cons.injEq, and_true] at hcs
  exact ⟨[], .inl ⟨_, _, hcs, rfl⟩⟩
 ·simp only [List.cons.injEq, and_true] at hcs
  subst hcs
  by_cases h0 : len = 0
  ·subst h0
   exact ⟨[], .inl ⟨_, _, rfl, rfl⟩⟩
  ·have hu : ∀ i, i < len → ∃ u : UpM, W.cell? (a.add (i * 4 + 0)) = some (.int .i64 u.kind) ∧ W.cell? (a.add (i * 4 + 1)) = some (.int .i64 u.bucket) ∧ W.cell? (a.add (i * 4 + 2)) = some (.int .i64 u.key) ∧ W.cell? (a.add (i * 4 + 3)) = some (.int .i64 u.val) := by
    intro i hil
    obtain ⟨n', hf⟩ := hi i (by omega)
    obtain ⟨v0, y0, q0, t0⟩ := hf 0 _ rfl
    obtain ⟨v1, y1, q1, t1⟩ := hf 1 _ rfl
    obtain ⟨v2, y2, q2, t2⟩ := hf 2 _ rfl
    obtain ⟨v3, y3, q3, t3⟩ := hf 3 _ rfl
    obtain ⟨x0, rfl⟩ := int_in t0
    obtain ⟨x1, rfl⟩ := int_in t1
    obtain ⟨x2, rfl⟩ := int_in t2
    obtain ⟨x3, rfl⟩ := int_in t3
    exact ⟨⟨x0, x1, x2, x3⟩, q0, q1, q2, q3⟩
   let f : Nat → UpM := fun i => if hil : i < len then (hu i hil).choose else up0
   have hf : ∀ i, i < len → W.cell? (a.add (i * 4 + 0)) = some (.int .i64 (f i).kind) ∧ W.cell? (a.add (i * 4 + 1)) = some (.int .i64 (f i).bucket) ∧ W.cell? (a.add (i * 4 + 2)) = some (.int .i64 (f i).key) ∧ W.cell? (a.add (i * 4 + 3)) = some (.int .i64 (f i).val) := by
    intro i hil
    have := (hu i hil).choose_spec
    simp only [f, dif_pos hil]
    exact this
   have c0 := (hf 0 (by omega)).1
   have hs := World.cell?_spot c0
   have hb := cell_lt c0
   obtain ⟨b, off, spot⟩ := a
   simp only [Addr.add] at hs hb
   simp at hs
   subst hs
   have hadd : ∀ k, (Addr.add ⟨b, off, none⟩ k) = ⟨b, off + k, none⟩ := by
    intro k
    unfold Addr.add; split
    ·subst k; rfl
    ·rfl
   refine ⟨(List.range len).map f, .inr ⟨b, off, cap, by simp, by simpa using hb, by simpa using hl, hm, fun i hil => ?_⟩⟩
   have hil' : i < len := by simpa using hil
   have hg : ((List.range len).map f).getD i up0 = f i := by simp [List.getD, hil']
   rw [hg]
   have := hf i hil'
   simp only [hadd, Nat.add_zero] at this
   exact ⟨this.1, by rw [Nat.add_assoc]; exact this.2.1, by rw [Nat.add_assoc]; exact this.2.2.1, by rw [Nat.add_assoc]; exact this.2.2.2⟩
set_option maxRecDepth 100000 in
theorem act_in {H : Type} {enc : TypeId × Value → H} {W : World} {b0 base : Nat} {r : Reach} {v : Value} {d : DataW H} {p : List MemPlace} (hv : Value.okWide Tryz.prog W r b0 56 v) (h : DataW.Trod enc Tryz.prog W base (fun _ => true) true 56 v d p) :
  ∃ a, ActIs W v a := by
 obtain ⟨v0, v1, v2, v3, v4, v5, v6, v7, v8, v9, v10, y0, y1, y2, y3, y4, y5, y6, y7, y8, y9, y10, n, rfl, h0, h1, h2, h3, h4, h5, h6, h7, h8, h9, h10⟩ := open_agg11 Tryz.underlying56 (by kernel_rfl) (by kernel_rfl) hv h
 obtain ⟨x0, rfl⟩ := int_in h0
 obtain ⟨x1, rfl⟩ := int_in h1
 obtain ⟨xs, hxs⟩ := ints_in h2
 obtain ⟨x3, rfl⟩ := int_in h3
 obtain ⟨x4, rfl⟩ := int_in h4
 obtain ⟨x5, rfl⟩ := int_in h5
 obtain ⟨x6, rfl⟩ := int_in h6
 obtain ⟨x7, rfl⟩ := int_in h7
 obtain ⟨x8, rfl⟩ := int_in h8
 obtain ⟨x9, rfl⟩ := int_in h9
 obtain ⟨us, hus⟩ := ups_in h10
 exact ⟨⟨x0, x1, xs, x3, x4, x5, x6, x7, x8, x9, us⟩, v2, v10, rfl, hxs, hus⟩
end Go.Proofs.YtghgiefciijoeaaGreatDoor
namespace Go.Proofs.YtghgiefciijoeaaGreatDoor
open Go.RowKit
set_option linter.unusedVariables false
theorem szM_ok {d u : Nat} {left : Int} (h : ¬ szM d u left < 0) : (d : Int) ≤ left ∧ (u : Int) ≤ left ∧ szM d u left = left - d - u := by
 unfold szM at h ⊢
 split at h
 ·omega
 ·split at h
  ·omega
  ·rename_i h1 h2
   rw [if_neg h1, if_neg h2]
   omega
theorem szM_range (d u : Nat) (left : Int) (h : left ≤ 1048576) : -1 ≤ szM d u left ∧ szM d u left ≤ 1048576 := by
 unfold szM
 split
 ·omega
 ·split <;> omega
def okUp (u : UpM) : Bool := decide (1 ≤ u.kind) && decide (u.kind ≤ 4) && decide (0 ≤ u.bucket) && decide (u.bucket < 3) && decide (0 ≤ u.key) && decide (u.key < 4)
def okUps (l : List UpM) : Bool := decide (l.length ≤ 5) && l.all okUp
def maskM (a : ActM) : Bool := decide (0 ≤ a.bucket) && decide (a.bucket < 3) && decide (0 ≤ a.mask) && decide (a.mask ≤ 15)
def fieldsM (a : ActM) (n : Int) : Bool :=
 if a.kind = 1 then decide (0 ≤ a.to) && decide (a.to < 6) && maskM a && decide (a.gr = 0) && decide (a.gn = 0) && decide (a.ups.length = 0)
 else if a.kind = 2 then decide (0 ≤ a.gr) && decide (a.gr < n) && decide (1 ≤ a.gn) && decide (a.gn ≤ a.dep.getD a.gr.toNat 0) && decide (a.to = 0) && decide (a.bucket = 0) && decide (a.mask = 0) && decide (a.ups.length = 0)
 else if a.kind = 3 then maskM a && decide (a.to = 0) && decide (a.gr = 0) && decide (a.gn = 0) && decide (a.ups.length = 0)
 else if a.kind = 4 then okUps a.ups && decide (a.to = 0) && decide (a.bucket = 0) && decide (a.mask = 0) && decide (a.gr = 0) && decide (a.gn = 0)
 else false
def actOkM (a : ActM) (n : Int) : Bool :=
 decide (1 ≤ n) && decide (n ≤ 4) && decide (0 ≤ a.r) && decide (a.r < n) && decide (1 ≤ a.n) && decide (a.n ≤ 100000) && okB a.dep && decide ((a.dep.length : Int) = n) && decide (a.dep.getD a.r.toNat 0 = a.n - 1) && decide (0 ≤ a.actor) && decide (a.actor < 6) && fieldsM a n
def needsM (a : ActM) (b : Int) : Int :=
 (if a.ups.any (fun u => u.bucket = b && u.kind = 2) = true then 4 else 0) + (if a.ups.any (fun u => u.bucket = b && (u.kind = 1 || u.kind = 3 || u.kind = 4)) = true then 2 else 0)
def sameM (a b : ActM) : Bool := decide (a = b)
def ImplKnows : Prop := ∀ (v v' : Value) (a b : ActM) (w : World), ActIs w v a → ActIs w v' b →
 Calls Tryz.prog 94 #[v, v'] w fun e w' => e = .returned (.bool (knowsM a b)) ∧ Below w.heap.size w w'
def SpecKnows : Prop := ∀ (v v' : Value) (a b : ActM) (w : World), ActIs w v a → ActIs w v' b →
 Calls Tryz.prog 48 #[v, v'] w fun e w' => e = .returned (.bool (knowsM a b)) ∧ Below w.heap.size w w'
def ImplAhead : Prop := ∀ (v v' : Value) (a b : ActM) (w : World), ActIs w v a → ActIs w v' b →
 Calls Tryz.prog 100 #[v, v'] w fun e w' => e = .returned (.bool (aheadM a b)) ∧ Below w.heap.size w w'
def SpecAhead : Prop := ∀ (v v' : Value) (a b : ActM) (w : World), ActIs w v a → ActIs w v' b →
 Calls Tryz.prog 46 #[v, v'] w fun e w' => e = .returned (.bool (aheadM a b)) ∧ Below w.heap.size w w'
def ImplActOk : Prop := ∀ (v : Value) (a : ActM) (n : Int) (w : World), ActIs w v a → (-9223372036854775808 ≤ n ∧ n ≤ 9223372036854775807) →
 Calls Tryz.prog 99 #[v, .int .i64 n] w fun e w' => e = .returned (.bool (actOkM a n)) ∧ Below w.heap.size w w'
def ImplSameAct : Prop := ∀ (v v' : Value) (a b : ActM) (w : World), ActIs w v a → ActIs w v' b →
 Calls Tryz.prog 126 #[v, v'] w fun e w' => e = .returned (.bool (sameM a b)) ∧ Below w.heap.size w w'
def SpecActOk : Prop := ∀ (v : Value) (a : ActM) (n : Int) (w : World), ActIs w v a → (-9223372036854775808 ≤ n ∧ n ≤ 9223372036854775807) →
 Calls Tryz.prog 45 #[v, .int .i64 n] w fun e w' => e = .returned (.bool (actOkM a n)) ∧ Below w.heap.size w w'
def SpecSameAct : Prop := ∀ (v v' : Value) (a b : ActM) (w : World), ActIs w v a → ActIs w v' b →
 Calls Tryz.prog 149 #[v, v'] w fun e w' => e = .returned (.bool (sameM a b)) ∧ Below w.heap.size w w'
end Go.Proofs.YtghgiefciijoeaaGreatDoor
namespace Go.Proofs.YtghgiefciijoeaaGreatDoor
open Go.RowKit
set_option linter.unusedVariables false
theorem below_grown {w w' : World} (h : Below w.heap.size w w') (r : Option Nat) : w.grownBy w' r := ⟨h.os, h.tape, h.output, h.size, fun k hk _ => h.block k hk⟩
theorem wp_gen {P : Program} {cc : Go.Code} {Q : Exit → Act → World → Prop} {a : Act} {W : World} (h : ∀ V, V = W → Go.Code.wp P cc Q a V) : Go.Code.wp P cc Q a W := h W rfl
end Go.Proofs.YtghgiefciijoeaaGreatDoor
