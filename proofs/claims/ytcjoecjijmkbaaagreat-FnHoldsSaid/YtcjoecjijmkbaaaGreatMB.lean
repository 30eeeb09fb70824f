/- Acts: the model of ups and acts; how they read in memory; toUp, toUpS. Acts: eqUp, eqUpS of what is the same; szAct. Acts: szAct, toAct. The reference's Knows, Ahead. Structs of eleven one-cell fields by value; slices of structs of one-cell fields; what an act that came in reads as. What an act that came in reads as. What the reference and the program are to answer on acts; the law FnExactActOk from it. Small words for worlds. -/
import Derived.Test.YtcjoecjijmkbaaaGreatMA
import Derived.WalkSmall
import Derived.Deep.RegionWith
import Derived.BigQuiet
import Derived.Deep.QuietTactic
import Derived.Lib.SmallJoins
import Derived.Deep.Slices
import Derived.Deep.Fields
import Derived.ChangeSame
import Derived.ProofKit
import Derived.OpenShut

namespace Go.Proofs.YtcjoecjijmkbaaaGreat
open Go.RowKit
set_option linter.unusedVariables false
structure UpM where
 kind : Int
 bucket : Int
 key : Int
 val : Int
 deriving DecidableEq
def up0 : UpM := ⟨0, 0, 0, 0⟩
structure ActM where
 r : Int
 n : Int
 dep : List Int
 actor : Int
 kind : Int
 to : Int
 bucket : Int
 mask : Int
 gr : Int
 gn : Int
 ups : List UpM
 deriving DecidableEq
def upCells (u : UpM) : List Value := [.int .i64 u.kind, .int .i64 u.bucket, .int .i64 u.key, .int .i64 u.val]
def vu (l : List UpM) : List Value := l.flatMap upCells
def UpAt (w : World) (b o : Nat) (u : UpM) : Prop :=
 w.cell? ⟨b, o, none⟩ = some (.int .i64 u.kind) ∧ w.cell? ⟨b, o + 1, none⟩ = some (.int .i64 u.bucket) ∧ w.cell? ⟨b, o + 2, none⟩ = some (.int .i64 u.key) ∧ w.cell? ⟨b, o + 3, none⟩ = some (.int .i64 u.val)
def Ups (w : World) (v : Value) (us : List UpM) : Prop :=
 (∃ a cap, v = .slice a 0 cap ∧ us = []) ∨
 ∃ b off cap, v = .slice (some ⟨b, off, none⟩) us.length cap ∧ b < w.heap.size ∧ us.length ≤ cap ∧ cap ≤ maxLen ∧ ∀ i, i < us.length → UpAt w b (off + i * 4) (us.getD i up0)
def ActIs (w : World) (v : Value) (a : ActM) : Prop :=
 ∃ vd vs, v = .agg #[.int .i64 a.r, .int .i64 a.n, vd, .int .i64 a.actor, .int .i64 a.kind, .int .i64 a.to, .int .i64 a.bucket, .int .i64 a.mask, .int .i64 a.gr, .int .i64 a.gn, vs] ∧ Ints w vd a.dep ∧ Ups w vs a.ups
theorem Ups.below {w w' : World} {v : Value} {us : List UpM} (h : Ups w v us) (hb : Below w.heap.size w w') : Ups w' v us := by
 rcases h with h | ⟨b, off, cap, rfl, h1, h2, h3, h4⟩
 ·exact .inl h
 ·refine .inr ⟨b, off, cap, rfl, Nat.lt_of_lt_of_le h1 hb.size, h2, h3, fun i hi => ?_⟩
  obtain ⟨q0, q1, q2, q3⟩ := h4 i hi
  exact ⟨(hb.cell (p := ⟨b, _, none⟩) h1).trans q0, (hb.cell (p := ⟨b, _, none⟩) h1).trans q1, (hb.cell (p := ⟨b, _, none⟩) h1).trans q2, (hb.cell (p := ⟨b, _, none⟩) h1).trans q3⟩
theorem ups_len {w : World} {v : Value} {us : List UpM} (h : Ups w v us) : ∃ a cap, v = .slice a us.length cap := by
 rcases h with ⟨a, cap, rfl, rfl⟩ | ⟨b, off, cap, rfl, _⟩
 ·exact ⟨a, cap, rfl⟩
 ·exact ⟨_, cap, rfl⟩
theorem ups_max {w : World} {v : Value} {us : List UpM} (h : Ups w v us) : us.length ≤ 9223372036854775807 := by
 rcases h with ⟨a, cap, rfl, rfl⟩ | ⟨b, off, cap, rfl, _, h2, h3, _⟩
 ·simp
 ·unfold maxLen at h3; omega
theorem ups_drewN {w : World} {v : Value} {us : List UpM} (h : Ups w v us) (n : Nat) : Ups (w.drewN n) v us := h
theorem ActIs.below {w w' : World} {v : Value} {a : ActM} (h : ActIs w v a) (hb : Below w.heap.size w w') : ActIs w' v a := by
 obtain ⟨vd, vs, hv, h1, h2⟩ := h
 exact ⟨vd, vs, hv, h1.below (B := 0) hb, h2.below hb⟩
theorem Tryz.infoUp : (Tryz.prog.info? 111).map (fun i => (i.zero, i.size, i.bytes)) = some (some (.agg #[.int .i64 0, .int .i64 0, .int .i64 0, .int .i64 0]), 4, 32) := by kernel_rfl
theorem vu_length (l : List UpM) : (vu l).length = l.length * 4 := by
 induction l with
 | nil => rfl
 | cons u l ih => simp only [vu, List.flatMap_cons, List.length_append, List.length_cons] at ih ⊢; rw [ih]; simp [upCells]; omega
theorem vu_at (l : List UpM) (i : Nat) (h : i < l.length) : (vu l)[i * 4]? = some (.int .i64 (l.getD i up0).kind) ∧ (vu l)[i * 4 + 1]? = some (.int .i64 (l.getD i up0).bucket) ∧ (vu l)[i * 4 + 2]? = some (.int .i64 (l.getD i up0).key) ∧ (vu l)[i * 4 + 3]? = some (.int .i64 (l.getD i up0).val) := by
 induction l generalizing i with
 | nil => simp at h
 | cons u l ih =>
  cases i with
  | zero => exact ⟨rfl, rfl, rfl, rfl⟩
  | succ i =>
   have := ih i (by simpa using h)
   simp only [List.getD_cons_succ]
   have hv : vu (u :: l) = .int .i64 u.kind :: .int .i64 u.bucket :: .int .i64 u.key :: .int .i64 u.val :: vu l := rfl
   rw [hv, show (i + 1) * 4 = i * 4 + 4 from by omega]
   exact this
def OwnU (w : World) (g : Nat) (v : Value) (us : List UpM) : Prop :=
 (∃ a cap, v = .slice a 0 cap ∧ us = []) ∨ (0 < us.length ∧ ∃ cap, v = .slice (some ⟨g, 0, none⟩) us.length cap ∧ w.ownsRow g 111 4 (.slice (some ⟨g, 0, none⟩) us.length cap) us.length (vu us))
theorem ups_own {w : World} {B g n cap : Nat} {us : List UpM} (hn : us.length = n) (h : w.ownsRow B 111 4 (.slice (some ⟨g, 0, none⟩) n cap) n (vu us)) : Ups w (.slice (some ⟨g, 0, none⟩) n cap) us := by
 subst hn
 have h0 := h
 rcases h.2 with ⟨h', _⟩ | ⟨g', cap', cur, h', hbg, hg, hx, hy, _⟩
 ·simp at h'
 ·simp only [Value.slice.injEq, Option.some.injEq, Addr.mk.injEq, and_true, true_and] at h'
  obtain ⟨rfl, rfl⟩ := h'
  refine .inr ⟨g, 0, cap, rfl, (Array.getElem?_eq_some_iff.1 hg).1, hx, hy, fun i hi => ?_⟩
  obtain ⟨q0, q1, q2, q3⟩ := vu_at us i hi
  rw [Nat.zero_add]
  exact ⟨(h0.cellAt _ (by omega)).trans q0, (h0.cellAt _ (by omega)).trans q1, (h0.cellAt _ (by omega)).trans q2, (h0.cellAt _ (by omega)).trans q3⟩
theorem ownU_ups {w : World} {g : Nat} {v : Value} {us : List UpM} (h : OwnU w g v us) : Ups w v us := by
 rcases h with ⟨a, cap, rfl, rfl⟩ | ⟨hp, cap, rfl, ho⟩
 ·exact .inl ⟨_, _, rfl, rfl⟩
 ·exact ups_own rfl ho
theorem ownU_new {w : World} {B g n cap : Nat} {us : List UpM} (hn : us.length = n) (h : w.ownsRow B 111 4 (.slice (some ⟨g, 0, none⟩) n cap) n (vu us)) : OwnU w g (.slice (some ⟨g, 0, none⟩) n cap) us := by
 subst hn
 by_cases hp : 0 < us.length
 ·exact .inr ⟨hp, _, rfl, (own_at h).1⟩
 ·have : us = [] := List.eq_nil_of_length_eq_zero (by omega)
  subst this
  exact .inl ⟨_, _, rfl, rfl⟩
theorem ownU_lt {w : World} {g : Nat} {v : Value} {us : List UpM} (h : OwnU w g v us) (hp : 0 < us.length) : g < w.heap.size := by
 rcases h with ⟨a, cap, rfl, rfl⟩ | ⟨hp, cap, rfl, ho⟩
 ·simp at hp
 ·exact (own_at ho).2.2
theorem OwnU.block {w w' : World} {g : Nat} {v : Value} {us : List UpM} (h : OwnU w g v us) (hb : 0 < us.length → w'.heap[g]? = w.heap[g]?) : OwnU w' g v us := by
 rcases h with h | ⟨hp, cap, rfl, ho⟩
 ·exact .inl h
 ·exact .inr ⟨hp, cap, rfl, row_block ho (hb hp)⟩
theorem OwnU.below {w w' : World} {g : Nat} {v : Value} {us : List UpM} (h : OwnU w g v us) (hb : Below w.heap.size w w') : OwnU w' g v us :=
 h.block fun hp => hb.block g (ownU_lt h hp)
theorem OwnU.other {w w' : World} {g g' : Nat} {v : Value} {us : List UpM} (h : OwnU w g v us) (hb : w.grownBy w' (some g')) (hn : 0 < us.length → g ≠ g') : OwnU w' g v us :=
 h.block fun hp => hb.block g (ownU_lt h hp) (fun e => hn hp (Option.some.inj e))
def OwnA (w : World) (g h : Nat) (v : Value) (a : ActM) : Prop :=
 ∃ vd vs, v = .agg #[.int .i64 a.r, .int .i64 a.n, vd, .int .i64 a.actor, .int .i64 a.kind, .int .i64 a.to, .int .i64 a.bucket, .int .i64 a.mask, .int .i64 a.gr, .int .i64 a.gn, vs] ∧ Own w g vd a.dep ∧ OwnU w h vs a.ups
theorem OwnA.below {w w' : World} {g h : Nat} {v : Value} {a : ActM} (k : OwnA w g h v a) (hb : Below w.heap.size w w') : OwnA w' g h v a := by
 obtain ⟨vd, vs, hv, h1, h2⟩ := k
 exact ⟨vd, vs, hv, h1.below hb, h2.below hb⟩
theorem OwnA.drewN {w : World} {g h : Nat} {v : Value} {a : ActM} (k : OwnA w g h v a) (n : Nat) : OwnA (w.drewN n) g h v a := k
end Go.Proofs.YtcjoecjijmkbaaaGreat
namespace Go.Proofs.YtcjoecjijmkbaaaGreat
open Go.RowKit
set_option linter.unusedVariables false
end Go.Proofs.YtcjoecjijmkbaaaGreat
namespace Go.Proofs.YtcjoecjijmkbaaaGreat
open Go.RowKit
set_option linter.unusedVariables false
end Go.Proofs.YtcjoecjijmkbaaaGreat
namespace Go.Proofs.YtcjoecjijmkbaaaGreat
open Go.RowKit
set_option linter.unusedVariables false
def knowsM (a b : ActM) : Bool := decide (0 ≤ b.r) && decide (b.r < a.dep.length) && decide (1 ≤ b.n) && decide (b.n ≤ a.dep.getD b.r.toNat 0)
set_option maxHeartbeats 800000 in
theorem specKnows_any (v v' : Value) (a b : ActM) (w : World) (h : ActIs w v a) (h' : ActIs w v' b) :
  Calls Tryz.prog 64 #[v, v'] w fun e w' => e = .returned (.bool (knowsM a b)) ∧ Below w.heap.size w w' := by
 obtain ⟨vd, vs, rfl, hd, hs⟩ := h
 obtain ⟨vd', vs', rfl, hd', hs'⟩ := h'
 clear hs hs' hd'
 obtain ⟨r', n', dep', actor', kind', to', bucket', mask', gr', gn', ups'⟩ := b
 obtain ⟨r, n, dep, actor, kind, to, bucket, mask, gr, gn, ups⟩ := a
 obtain ⟨R, hR⟩ : ∃ R, R = knowsM ⟨r, n, dep, actor, kind, to, bucket, mask, gr, gn, ups⟩ ⟨r', n', dep', actor', kind', to', bucket', mask', gr', gn', ups'⟩ := ⟨_, rfl⟩
 rw [← hR]
 simp only [knowsM] at hR
 have bb := Lib.hid (((Below.refl w.heap.size w).alloc (Nat.le_refl _) (.cells #[.int .i64 r, .int .i64 n, vd, .int .i64 actor, .int .i64 kind, .int .i64 to, .int .i64 bucket, .int .i64 mask, .int .i64 gr, .int .i64 gn, vs] 33)).alloc (by simp) (.cells #[.int .i64 r', .int .i64 n', vd', .int .i64 actor', .int .i64 kind', .int .i64 to', .int .i64 bucket', .int .i64 mask', .int .i64 gr', .int .i64 gn', vs'] 33))
 by_cases h0 : 0 ≤ r'
 ·obtain ⟨a0, c0, hvd⟩ := ints_len hd
  have hmm := ints_max hd
  by_cases h1 : r' < dep.length
  ·obtain ⟨k, rfl⟩ := Int.eq_ofNat_of_zero_le h0
   have hk : k < dep.length := by omega
   by_cases h2 : 1 ≤ n'
   ·have HR : Hid (R = decide (n' ≤ dep.getD k 0)) := by
     show R = _
     rw [hR]; simp [h1, h2]
    clear hR hvd
    rcases hd with ⟨x, c, rfl, rfl⟩ | ⟨b, off, c, rfl, hb, hl, hm, hc⟩
    ·simp at hk
    ·have hck := hc k hk
     clear hc
     generalize dep.getD k 0 = x at *
     generalize dep.length = len at *
     have e1 : decide ((k : Int) < len) = true := by simp; omega
     have e2 : decide (0 ≤ (k : Int)) = true := by simp
     have e3 : decide (1 ≤ n') = true := by simp; omega
     go_enter Tryz.func64, Tryz.ntmps64
     go_wp2
     go_quiet (fail)
     go_wp2
     go_ret
     exact ⟨ret_bool HR.out.symm, below_drewN bb.out _⟩
   ·have HR : Hid (R = false) := by
     show R = _
     rw [hR]; simp [h2]
    clear hR hd
    subst hvd
    generalize dep.length = len at *
    have e1 : decide ((k : Int) < len) = true := by simp; omega
    have e2 : decide (0 ≤ (k : Int)) = true := by simp
    have e3 : decide (1 ≤ n') = false := by simp; omega
    go_enter Tryz.func64, Tryz.ntmps64
    go_wp2
    go_quiet (fail)
    go_wp2
    go_ret
    exact ⟨ret_bool HR.out.symm, below_drewN bb.out _⟩
  ·have HR : Hid (R = false) := by
    show R = _
    rw [hR]; simp [h1]
   clear hR hd
   subst hvd
   generalize dep.length = len at *
   have e1 : decide (r' < len) = false := by simp; omega
   have e2 : decide (0 ≤ r') = true := by simp; omega
   go_enter Tryz.func64, Tryz.ntmps64
   go_wp2
   go_quiet (fail)
   go_wp2
   go_ret
   exact ⟨ret_bool HR.out.symm, below_drewN bb.out _⟩
 ·have HR : Hid (R = false) := by
   show R = _
   rw [hR]; simp [h0]
  clear hR hd
  have e2 : decide (0 ≤ r') = false := by simp; omega
  go_enter Tryz.func64, Tryz.ntmps64
  go_wp2
  go_quiet (fail)
  go_wp2
  go_ret
  exact ⟨ret_bool HR.out.symm, below_drewN bb.out _⟩
def sumW (xs : List Int) : Int := xs.foldl (fun n x => wrap64 (n + x)) 0
theorem sumW_step (xs : List Int) (k : Nat) (hk : k < xs.length) : sumW (xs.take (k + 1)) = wrap64 (sumW (xs.take k) + xs.getD k 0) := by
 unfold sumW
 rw [List.take_succ_eq_append_getElem hk, List.foldl_append]
 simp [List.getD, hk]
set_option maxHeartbeats 400000 in
theorem l2sum_some (b off cap n : Nat) (xs : List Int) (w : World) (hn : xs.length = n) (hl : n ≤ 9223372036854775807)
  (hc : ∀ i, i < n → w.cell? ⟨b, off + i, none⟩ = some (.int .i64 (xs.getD i 0))) :
  Calls Tryz.prog 91 #[.slice (some ⟨b, off, none⟩) n cap] w fun e w' => e = .returned (.int .i64 (sumW xs)) ∧ w' = w := by
 have HN := Lib.hid hn
 have HC := Lib.hid hc
 clear hn hc
 go_enter Tryz.func91, Tryz.ntmps91
 go_wp2
 go_loop [3, 4] (fun t i => ∃ (k : Nat) (s : Int), k ≤ n ∧ i = .int .i64 k ∧ t = .int .i64 s ∧ Hid (s = sumW (xs.take k))) (fun _ i => n - (intOf i).toNat)
 case atStart => exact ⟨0, 0, Nat.zero_le _, rfl, rfl, by simp [Hid, sumW]⟩
 case round =>
  obtain ⟨k, s, hk, rfl, rfl, hs⟩ := hrel
  by_cases hlt : k < n
  ·have hc1 := HC.out k hlt
   have hst := sumW_step xs k (by rw [HN.out]; exact hlt)
   generalize xs.getD k 0 = x at *
   have HS := Lib.hid hst
   clear hst
   go_wp2
   go_round
   case rel => exact ⟨k + 1, _, by omega, by go_num, rfl, by show _ = _; rw [HS.out, hs.out]⟩
   case measure => simp [intOf]; omega
  ·have : k = n := by omega
   subst this
   go_wp2
   go_ret
   exact ⟨ret_int (by rw [hs.out, List.take_of_length_le (by rw [HN.out]; omega)]), rfl⟩
theorem l2sum_nil (a : Option Addr) (cap : Nat) (w : World) :
  Calls Tryz.prog 91 #[.slice a 0 cap] w fun e w' => e = .returned (.int .i64 (sumW [])) ∧ w' = w := by
 go_enter Tryz.func91, Tryz.ntmps91
 go_wp2
 go_loop [3, 4] (fun t i => t = .int .i64 0 ∧ i = .int .i64 0) (fun _ _ => 0)
 case atStart => exact ⟨rfl, rfl⟩
 case round =>
  obtain ⟨rfl, rfl⟩ := hrel
  go_wp2
  go_ret
  exact ⟨rfl, rfl⟩
theorem l2sum_any (v : Value) (xs : List Int) (w : World) (h : Ints w v xs) :
  Calls Tryz.prog 91 #[v] w fun e w' => e = .returned (.int .i64 (sumW xs)) ∧ w' = w := by
 rcases h with ⟨a, cap, rfl, rfl⟩ | ⟨b, off, cap, rfl, h1, h2, h3, h4⟩
 ·exact l2sum_nil _ _ w
 ·exact l2sum_some b off cap _ xs w rfl (by unfold maxLen at h3; omega) h4
def aheadM (a b : ActM) : Bool :=
 if sumW a.dep = sumW b.dep then decide (a.r < b.r) || (decide (a.r = b.r) && decide (a.n < b.n)) else decide (sumW a.dep < sumW b.dep)
set_option maxHeartbeats 800000 in
theorem specAhead_any (v v' : Value) (a b : ActM) (w : World) (h : ActIs w v a) (h' : ActIs w v' b) :
  Calls Tryz.prog 73 #[v, v'] w fun e w' => e = .returned (.bool (aheadM a b)) ∧ Below w.heap.size w w' := by
 obtain ⟨vd, vs, rfl, hd, hs⟩ := h
 obtain ⟨vd', vs', rfl, hd', hs'⟩ := h'
 clear hs hs'
 obtain ⟨r', n', dep', actor', kind', to', bucket', mask', gr', gn', ups'⟩ := b
 obtain ⟨r, n, dep, actor, kind, to, bucket, mask, gr, gn, ups⟩ := a
 obtain ⟨R, hR⟩ : ∃ R, R = aheadM ⟨r, n, dep, actor, kind, to, bucket, mask, gr, gn, ups⟩ ⟨r', n', dep', actor', kind', to', bucket', mask', gr', gn', ups'⟩ := ⟨_, rfl⟩
 rw [← hR]
 simp only [aheadM] at hR
 have bb := Lib.hid (((Below.refl w.heap.size w).alloc (Nat.le_refl _) (.cells #[.int .i64 r, .int .i64 n, vd, .int .i64 actor, .int .i64 kind, .int .i64 to, .int .i64 bucket, .int .i64 mask, .int .i64 gr, .int .i64 gn, vs] 33)).alloc (by simp) (.cells #[.int .i64 r', .int .i64 n', vd', .int .i64 actor', .int .i64 kind', .int .i64 to', .int .i64 bucket', .int .i64 mask', .int .i64 gr', .int .i64 gn', vs'] 33))
 have S1 := Lib.hid (fun w h => l2sum_any vd dep w h)
 have S2 := Lib.hid (fun w h => l2sum_any vd' dep' w h)
 have HD := Lib.hid hd
 have HD' := Lib.hid hd'
 clear hd hd'
 generalize sumW dep = x at *
 generalize sumW dep' = y at *
 by_cases h0 : x = y
 ·subst h0
  rw [if_pos rfl] at hR
  by_cases h1 : r < r'
  ·have HR := Lib.hid (show R = true by rw [hR]; simp [h1])
   clear hR
   go_enter Tryz.func73, Tryz.ntmps73
   go_wp2_with fail
   refine (S1.out _ (HD.out.below (B := 0) bb.out)).mono ?_
   rintro e w1 ⟨rfl, rfl⟩
   go_wp2_with fail
   refine (S2.out _ (HD'.out.below (B := 0) bb.out)).mono ?_
   rintro e w1 ⟨rfl, rfl⟩
   go_wp2
   go_ret
   exact ⟨ret_bool HR.out.symm, bb.out⟩
  ·by_cases h2 : r = r'
   ·have HR := Lib.hid (show R = decide (n < n') by rw [hR]; simp [h2])
    clear hR
    subst h2
    go_enter Tryz.func73, Tryz.ntmps73
    go_wp2_with fail
    refine (S1.out _ (HD.out.below (B := 0) bb.out)).mono ?_
    rintro e w1 ⟨rfl, rfl⟩
    go_wp2_with fail
    refine (S2.out _ (HD'.out.below (B := 0) bb.out)).mono ?_
    rintro e w1 ⟨rfl, rfl⟩
    go_wp2
    go_ret
    exact ⟨ret_bool HR.out.symm, bb.out⟩
   ·have HR := Lib.hid (show R = false by rw [hR]; simp [h1, h2])
    have e1 : (r == r') = false := by simpa using h2
    have e0 : decide (r < r') = false := by simp; omega
    clear hR h2
    go_enter Tryz.func73, Tryz.ntmps73
    go_wp2_with fail
    refine (S1.out _ (HD.out.below (B := 0) bb.out)).mono ?_
    rintro e w1 ⟨rfl, rfl⟩
    go_wp2_with fail
    refine (S2.out _ (HD'.out.below (B := 0) bb.out)).mono ?_
    rintro e w1 ⟨rfl, rfl⟩
    go_wp2
    go_ret
    exact ⟨ret_bool HR.out.symm, bb.out⟩
 ·rw [if_neg h0] at hR
  have HR := Lib.hid hR
  have e1 : (x == y) = false := by simpa using h0
  have e2 : (x != y) = true := by simpa using h0
  clear hR h0
  go_enter Tryz.func73, Tryz.ntmps73
  go_wp2_with fail
  refine (S1.out _ (HD.out.below (B := 0) bb.out)).mono ?_
  rintro e w1 ⟨rfl, rfl⟩
  go_wp2_with fail
  refine (S2.out _ (HD'.out.below (B := 0) bb.out)).mono ?_
  rintro e w1 ⟨rfl, rfl⟩
  go_wp2
  go_ret
  exact ⟨ret_bool HR.out.symm, bb.out⟩
end Go.Proofs.YtcjoecjijmkbaaaGreat
namespace Go.Proofs.YtcjoecjijmkbaaaGreat
open Go.Joins Go.ChangeShapes Go.WideShapes Go.RowKit Go.Deep
set_option linter.unusedVariables false
section
variable {H : Type} {enc : TypeId × Value → H} {P : Program} {w : World} {base : Nat} {spare : Nat → Bool} {held : Bool}
end
end Go.Proofs.YtcjoecjijmkbaaaGreat
namespace Go.Proofs.YtcjoecjijmkbaaaGreat
open Go.Joins Go.ChangeShapes Go.WideShapes Go.ChangeAt Go.RowKit Go.Deep
set_option linter.unusedVariables false
end Go.Proofs.YtcjoecjijmkbaaaGreat
namespace Go.Proofs.YtcjoecjijmkbaaaGreat
open Go.RowKit
set_option linter.unusedVariables false
def okUp (u : UpM) : Bool := decide (1 ≤ u.kind) && decide (u.kind ≤ 4) && decide (0 ≤ u.bucket) && decide (u.bucket < 3) && decide (0 ≤ u.key) && decide (u.key < 4)
def okUps (l : List UpM) : Bool := decide (l.length ≤ 5) && l.all okUp
def maskM (a : ActM) : Bool := decide (0 ≤ a.bucket) && decide (a.bucket < 3) && decide (0 ≤ a.mask) && decide (a.mask ≤ 15)
def fieldsM (a : ActM) (n : Int) : Bool :=
 if a.kind = 1 then decide (0 ≤ a.to) && decide (a.to < 6) && maskM a && decide (a.gr = 0) && decide (a.gn = 0) && decide (a.ups.length = 0)
 else if a.kind = 2 then decide (0 ≤ a.gr) && decide (a.gr < n) && decide (1 ≤ a.gn) && decide (a.gn ≤ a.dep.getD a.gr.toNat 0) && decide (a.to = 0) && decide (a.bucket = 0) && decide (a.mask = 0) && decide (a.ups.length = 0)
 else if a.kind = 3 then maskM a && decide (a.to = 0) && decide (a.gr = 0) && decide (a.gn = 0) && decide (a.ups.length = 0)
 else if a.kind = 4 then okUps a.ups && decide (a.to = 0) && decide (a.bucket = 0) && decide (a.mask = 0) && decide (a.gr = 0) && decide (a.gn = 0)
 else false
def actOkM (a : ActM) (n : Int) : Bool :=
 decide (1 ≤ n) && decide (n ≤ 4) && decide (0 ≤ a.r) && decide (a.r < n) && decide (1 ≤ a.n) && decide (a.n ≤ 100000) && okB a.dep && decide ((a.dep.length : Int) = n) && decide (a.dep.getD a.r.toNat 0 = a.n - 1) && decide (0 ≤ a.actor) && decide (a.actor < 6) && fieldsM a n
def sameM (a b : ActM) : Bool := decide (a = b)
def ImplKnows : Prop := ∀ (v v' : Value) (a b : ActM) (w : World), ActIs w v a → ActIs w v' b →
 Calls Tryz.prog 11 #[v, v'] w fun e w' => e = .returned (.bool (knowsM a b)) ∧ Below w.heap.size w w'
def ImplAhead : Prop := ∀ (v v' : Value) (a b : ActM) (w : World), ActIs w v a → ActIs w v' b →
 Calls Tryz.prog 106 #[v, v'] w fun e w' => e = .returned (.bool (aheadM a b)) ∧ Below w.heap.size w w'
def ImplActOk : Prop := ∀ (v : Value) (a : ActM) (n : Int) (w : World), ActIs w v a → (-9223372036854775808 ≤ n ∧ n ≤ 9223372036854775807) →
 Calls Tryz.prog 105 #[v, .int .i64 n] w fun e w' => e = .returned (.bool (actOkM a n)) ∧ Below w.heap.size w w'
def ImplSameAct : Prop := ∀ (v v' : Value) (a b : ActM) (w : World), ActIs w v a → ActIs w v' b →
 Calls Tryz.prog 114 #[v, v'] w fun e w' => e = .returned (.bool (sameM a b)) ∧ Below w.heap.size w w'
def SpecActOk : Prop := ∀ (v : Value) (a : ActM) (n : Int) (w : World), ActIs w v a → (-9223372036854775808 ≤ n ∧ n ≤ 9223372036854775807) →
 Calls Tryz.prog 72 #[v, .int .i64 n] w fun e w' => e = .returned (.bool (actOkM a n)) ∧ Below w.heap.size w w'
def SpecSameAct : Prop := ∀ (v v' : Value) (a b : ActM) (w : World), ActIs w v a → ActIs w v' b →
 Calls Tryz.prog 110 #[v, v'] w fun e w' => e = .returned (.bool (sameM a b)) ∧ Below w.heap.size w w'
end Go.Proofs.YtcjoecjijmkbaaaGreat
namespace Go.Proofs.YtcjoecjijmkbaaaGreat
open Go.RowKit
set_option linter.unusedVariables false
theorem below_grown {w w' : World} (h : Below w.heap.size w w') (r : Option Nat) : w.grownBy w' r := ⟨h.os, h.tape, h.output, h.size, fun k hk _ => h.block k hk⟩
theorem wp_gen {P : Program} {cc : Go.Code} {Q : Exit → Act → World → Prop} {a : Act} {W : World} (h : ∀ V, V = W → Go.Code.wp P cc Q a V) : Go.Code.wp P cc Q a W := h W rfl
end Go.Proofs.YtcjoecjijmkbaaaGreat
