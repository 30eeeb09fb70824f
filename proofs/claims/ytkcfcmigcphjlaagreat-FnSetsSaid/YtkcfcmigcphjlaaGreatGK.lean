/- S, T, CN, U. -/
import Derived.Test.YtkcfcmigcphjlaaGreatGA
import Derived.Test.YtkcfcmigcphjlaaGreatGAA
import Derived.BigQuiet
import Derived.Deep.QuietTactic



namespace Go.Proofs.YtkcfcmigcphjlaaGreat
open Go.RowKit
set_option linter.unusedVariables false

/-- a slice of bytes, as far as the draws look into it: its cells lie below block B -/
def Code (w : World) (B : Nat) (a : Option Addr) (len : Nat) : Prop :=
  ∀ j, j < len → ∃ b off x, a = some ⟨b, off, none⟩ ∧ b < B ∧ w.cell? ⟨b, off + j, none⟩ = some (.int .u8 x) ∧ 0 ≤ x ∧ x ≤ 255
/-- block B is a cursor over a slice of bytes -/
def Cur (w : World) (B : Nat) : Prop := ∃ (a : Option Addr) (len cap : Nat) (i h : Int), Blk w B [.slice a len cap, .int .i64 i, .int .i64 h] ∧ 0 ≤ i ∧ i ≤ len ∧ len ≤ 9223372036854775807 ∧ Code w B a len

/-- a draw: an int from 0 to m, by a call that writes into the cursor alone -/
def Drawn (w : World) (B : Nat) (m : Int) (e : Ending) (w' : World) : Prop := ∃ x : Int, e = .returned (.int .i64 x) ∧ 0 ≤ x ∧ x ≤ m ∧ Cur w' B ∧ w.grownBy w' (some B)

theorem and255 (a : Int) : 0 ≤ bits .and .i64 a 255 ∧ bits .and .i64 a 255 ≤ 255 := by
  have h : (BitVec.ofInt 64 a &&& 255#64).toNat < 256 := by
    rw [BitVec.toNat_and]
    exact Nat.and_lt_two_pow (n := 8) _ (by decide)
  have e : bits .and .i64 a 255 = IntKind.i64.wrap ((BitVec.ofInt 64 a &&& 255#64).toNat : Int) := rfl
  rw [e, IntKind.wrap_i64]
  omega
theorem Code.other {w w' : World} {B : Nat} {a : Option Addr} {len : Nat} (h : Code w B a len) (hb : ∀ b o, b < B → w'.cell? ⟨b, o, none⟩ = w.cell? ⟨b, o, none⟩) : Code w' B a len := by
  intro j hj
  obtain ⟨b, off, x, h1, h2, h3, h4⟩ := h j hj
  exact ⟨b, off, x, h1, h2, by rw [hb b _ h2]; exact h3, h4⟩
theorem Code.set {w : World} {B : Nat} {a : Option Addr} {len : Nat} (h : Code w B a len) (o : Nat) (v : Value) : Code (w.setCell ⟨B, o, none⟩ v) B a len :=
  h.other fun b _ hb => World.cell?_setCell_other (h := by intro e; injection e with e _ _; omega) ..
set_option maxHeartbeats 400000 in
theorem byte_any (B : Nat) (w : World) (h : Cur w B) : Calls Tryz.prog 98 #[.pointer (some ⟨B, 0, none⟩)] w (Drawn w B 255) := by
  obtain ⟨a, len, cap, i, h, hb, h0, h1, hm, hc⟩ := h
  have c0 := hb.cell 0
  have c1 := hb.cell 1
  have c2 := hb.cell 2
  have f2 := hb.free 2
  have f1 := hb.free 1
  simp only [List.getElem?_cons_zero, List.getElem?_cons_succ] at c0 c1 c2
  have HB := Lib.hid hb
  have HC := Lib.hid hc
  clear hb hc
  by_cases hlt : i < len
  · obtain ⟨n, rfl⟩ := Int.eq_ofNat_of_zero_le h0
    obtain ⟨b, off, x, ha, hbB, hx, hx0, hx1⟩ := HC.out n (by omega)
    have HA := Lib.hid ha
    have e1 : decide ((n : Int) < len) = true := by simp; omega
    have hne : b ≠ B := by omega
    subst ha
    clear h1
    go_enter Tryz.func98, Tryz.ntmps98
    go_wp2
    go_quiet (fail)
    go_wp2
    go_quiet (fail)
    go_wp2
    go_quiet (fail)
    go_wp2
    go_ret
    refine ⟨_, rfl, (and255 _).1, (and255 _).2, ?_, ?_⟩
    · exact ⟨some ⟨b, off, none⟩, len, cap, n + 1, _, ((HB.out.set (j := 2) (by simp) _).set (j := 1) (by simp) _).drewN _, by omega, by omega, hm, (HC.out.set 2 _).set 1 _⟩
    · exact (grown_set B 2 _).trans ((grown_set B 1 _).trans (grown_drewN _ _ _))
  · have e1 : decide (i < len) = false := by simp; omega
    go_enter Tryz.func98, Tryz.ntmps98
    go_wp2
    go_quiet (fail)
    go_wp2
    go_quiet (fail)
    go_wp2
    go_ret
    refine ⟨_, rfl, (and255 _).1, (and255 _).2, ?_, ?_⟩
    · exact ⟨a, len, cap, i, _, ((HB.out.set (j := 2) (by simp) _).drewN _).drewN _, h0, h1, hm, HC.out.set 2 _⟩
    · exact (grown_set B 2 _).trans ((grown_drewN _ _ _).trans (grown_drewN _ _ _))

theorem Cur.lt {w : World} {B : Nat} (h : Cur w B) : B < w.heap.size := by
  obtain ⟨a, len, cap, i, h, hb, _⟩ := h
  exact hb.lt
theorem Cur.grown {w w' : World} {B : Nat} {r : Option Nat} (h : Cur w B) (hg : w.grownBy w' r) (hr : ∀ g, r = some g → B < g) : Cur w' B := by
  have hl := h.lt
  obtain ⟨a, len, cap, i, h, hb, h0, h1, hm, hc⟩ := h
  have key : ∀ k, k ≤ B → w'.heap[k]? = w.heap[k]? := fun k hk => hg.block k (by omega) (fun e => by have := hr k e.symm; omega)
  exact ⟨a, len, cap, i, h, hb.same hg.size (key B (Nat.le_refl _)), h0, h1, hm, hc.other fun b o hb => World.cell?_of_block (a := ⟨b, o, none⟩) (key b (by show b ≤ B; omega))⟩
/-- an int below n (0 where n is not above 0) -/
def Lesser (w : World) (B : Nat) (n : Int) (e : Ending) (w' : World) : Prop := ∃ x : Int, e = .returned (.int .i64 x) ∧ 0 ≤ x ∧ (n ≤ 0 → x = 0) ∧ (0 < n → x < n) ∧ Cur w' B ∧ w.grownBy w' (some B)

set_option maxHeartbeats 400000 in
theorem below_any (B : Nat) (n : Int) (w : World) (h : Cur w B) (hn : n ≤ 256) : Calls Tryz.prog 72 #[.pointer (some ⟨B, 0, none⟩), .int .i64 n] w (Lesser w B n) := by
  by_cases h0 : n ≤ 0
  · have HC := Lib.hid h
    clear h
    go_enter Tryz.func72, Tryz.ntmps72
    go_wp2
    go_ret
    exact ⟨0, rfl, by omega, fun _ => rfl, fun h => by omega, HC.out, grown_refl _ _⟩
  · have HB := Lib.hid (byte_any B w h)
    have h1 : 0 < n := by omega
    have h2 : (n == 0) = false := by simp; omega
    clear h
    go_enter Tryz.func72, Tryz.ntmps72
    go_wp2_with fail
    refine HB.out.mono ?_
    rintro e w1 ⟨x, rfl, x0, x1, hc, hg⟩
    have HC := Lib.hid hc
    have HG := Lib.hid hg
    clear hc hg
    go_wp2
    go_ret
    refine ⟨_, rfl, ?_, fun h => by omega, fun _ => ?_, HC.out, HG.out⟩
    · exact Int.emod_nonneg _ (by omega)
    · exact Int.emod_lt_of_pos _ (by omega)
end Go.Proofs.YtkcfcmigcphjlaaGreat

namespace Go.Proofs.YtkcfcmigcphjlaaGreat
open Go.RowKit
set_option linter.unusedVariables false

set_option maxHeartbeats 400000 in
/-- l1PickInt of a list that is not empty: one of its ints -/
theorem pick_any (B g cap n : Nat) (xs : List Int) (w : World) (hnn : xs.length = n) (h : Cur w B) (hn : 0 < n) (hm : n ≤ 256) (hg : B < g) (hgl : g < w.heap.size) (hc : ∀ i, i < n → w.cell? ⟨g, i, none⟩ = some (.int .i64 (xs.getD i 0))) :
    Calls Tryz.prog 73 #[.pointer (some ⟨B, 0, none⟩), .slice (some ⟨g, 0, none⟩) n cap] w fun e w' => ∃ x, e = .returned (.int .i64 x) ∧ x ∈ xs ∧ Cur w' B ∧ w.grownBy w' (some B) := by
  have HC := Lib.hid h
  have HX := Lib.hid hc
  have HN := Lib.hid hnn
  have hB := h.lt
  clear h hc hnn
  go_enter Tryz.func73, Tryz.ntmps73
  go_wp2_with fail
  refine (below_any B n _ HC.out (by omega)).mono ?_
  rintro e w1 ⟨x, rfl, x0, _, x1, hc1, hg1⟩
  have x2 := x1 (by omega)
  obtain ⟨j, rfl⟩ := Int.eq_ofNat_of_zero_le x0
  have q : w1.cell? ⟨g, j, none⟩ = some (.int .i64 (xs.getD j 0)) := (World.cell?_of_block (a := ⟨g, j, none⟩) (hg1.block g hgl (fun e => by cases e; omega))).trans (HX.out j (by omega))
  have hj : j < xs.length := by rw [HN.out]; omega
  have hmem : Hid (xs.getD j 0 ∈ xs) := by
    show _ ∈ _
    simp [List.getD, hj]
  have HC1 := Lib.hid hc1
  have HG1 := Lib.hid hg1
  clear hc1 hg1 x1 hj
  generalize xs.getD j 0 = z at *
  go_wp2
  go_ret
  exact ⟨z, rfl, hmem.out, HC1.out, HG1.out⟩
end Go.Proofs.YtkcfcmigcphjlaaGreat


namespace Go.Proofs.YtkcfcmigcphjlaaGreat
open Go.RowKit
set_option linter.unusedVariables false

/-- yes or no, by a call that writes into the cursor alone -/
def DrawnBool (w : World) (B : Nat) (e : Ending) (w' : World) : Prop := ∃ b : Bool, e = .returned (.bool b) ∧ Cur w' B ∧ w.grownBy w' (some B)
set_option maxHeartbeats 400000 in
theorem once_any (B : Nat) (n : Int) (w : World) (h : Cur w B) (hn : n ≤ 256) : Calls Tryz.prog 49 #[.pointer (some ⟨B, 0, none⟩), .int .i64 n] w (DrawnBool w B) := by
  have HC := Lib.hid h
  clear h
  go_enter Tryz.func49, Tryz.ntmps49
  go_wp2_with fail
  refine (below_any B n _ HC.out hn).mono ?_
  rintro e w1 ⟨x, rfl, _, _, _, hc1, hg1⟩
  have C1 := Lib.hid hc1
  have G1 := Lib.hid hg1
  clear hc1 hg1
  go_wp2_with fail
  go_ret
  exact ⟨_, rfl, C1.out, G1.out⟩

/-- an up, by a call that writes into the cursor alone -/
def DrawnUp (w : World) (B : Nat) (e : Ending) (w' : World) : Prop := ∃ u : UpM, e = .returned (.agg #[.int .i64 u.kind, .int .i64 u.bucket, .int .i64 u.key, .int .i64 u.val]) ∧ Cur w' B ∧ w.grownBy w' (some B)
set_option maxHeartbeats 1600000 in
theorem l2up_any (B : Nat) (w : World) (h : Cur w B) : Calls Tryz.prog 114 #[.pointer (some ⟨B, 0, none⟩)] w (DrawnUp w B) := by
  have hB := h.lt
  have K0 := Lib.hid (Blk.new w #[.int .i64 0, .int .i64 0, .int .i64 0, .int .i64 0] 83)
  have G0 := Lib.hid (grown_alloc w (.cells #[.int .i64 0, .int .i64 0, .int .i64 0, .int .i64 0] 83) (some B))
  have C0 := Lib.hid (h.grown (grown_alloc w (.cells #[.int .i64 0, .int .i64 0, .int .i64 0, .int .i64 0] 83) none) (fun g e => by cases e))
  clear h
  go_enter Tryz.func114, Tryz.ntmps114
  go_wp2_with fail
  refine (below_any B 4 _ C0.out (by omega)).mono ?_
  rintro e w1 ⟨x1, rfl, a1, _, q1, hc1, hg1⟩
  have u1 := q1 (by omega)
  have C1 := Lib.hid hc1
  have K1 := Lib.hid (K0.out.grown hg1 (by omega))
  have G1 := Lib.hid (grown_then G0.out hg1 (fun g e => .inl (by cases e; rfl)))
  clear hc1 hg1 q1
  go_wp2_with fail
  refine (below_any B 2 _ C1.out (by omega)).mono ?_
  rintro e w2 ⟨x2, rfl, _, _, _, hc2, hg2⟩
  have C2 := Lib.hid hc2
  have K2 := Lib.hid (K1.out.grown hg2 (by omega))
  have G2 := Lib.hid (grown_then G1.out hg2 (fun g e => .inl (by cases e; rfl)))
  clear hc2 hg2
  go_wp2_with fail
  refine (below_any B 2 _ C2.out (by omega)).mono ?_
  rintro e w3 ⟨x3, rfl, _, _, _, hc3, hg3⟩
  have C3 := Lib.hid hc3
  have K3 := Lib.hid (K2.out.grown hg3 (by omega))
  have G3 := Lib.hid (grown_then G2.out hg3 (fun g e => .inl (by cases e; rfl)))
  clear hc3 hg3
  go_wp2_with fail
  refine (below_any B 4 _ C3.out (by omega)).mono ?_
  rintro e w4 ⟨x4, rfl, _, _, _, hc4, hg4⟩
  have C4 := Lib.hid hc4
  have K4 := Lib.hid (K3.out.grown hg4 (by omega))
  have G4 := Lib.hid (grown_then G3.out hg4 (fun g e => .inl (by cases e; rfl)))
  clear hc4 hg4
  have c := K4.out.cell
  have f := K4.out.free
  go_wp2_with fail
  refine bodyPost_ret (v := .agg #[.int .i64 (1 + x1), .int .i64 x2, .int .i64 x3, .int .i64 x4]) (by simp [results, Tryz.results114, go_sem, c]) rfl ⟨⟨1 + x1, x2, x3, x4⟩, rfl, ?_, ?_⟩
  · have GS := (grown_set (w := w4) w.heap.size 0 (.int .i64 (1 + x1))).trans ((grown_set w.heap.size 1 (.int .i64 x2)).trans ((grown_set w.heap.size 2 (.int .i64 x3)).trans (grown_set w.heap.size 3 (.int .i64 x4))))
    exact C4.out.grown GS (fun g e => by cases e; exact hB)
  · have GS := (grown_set (w := w4) w.heap.size 0 (.int .i64 (1 + x1))).trans ((grown_set w.heap.size 1 (.int .i64 x2)).trans ((grown_set w.heap.size 2 (.int .i64 x3)).trans (grown_set w.heap.size 3 (.int .i64 x4))))
    exact grown_then G4.out GS (fun g e => .inr (by cases e; exact Nat.le_refl _))
end Go.Proofs.YtkcfcmigcphjlaaGreat

namespace Go.Proofs.YtkcfcmigcphjlaaGreat
open Go.RowKit
set_option linter.unusedVariables false

def NewCur (w : World) (e : Ending) (w' : World) : Prop := ∃ B, e = .returned (.pointer (some ⟨B, 0, none⟩)) ∧ w.heap.size ≤ B ∧ Cur w' B ∧ Below w.heap.size w w'

theorem newCur_mk (w : World) (a : Option Addr) (len cap : Nat) (h : Int) (hm : len ≤ 9223372036854775807) (hc : Code w w.heap.size a len) :
    NewCur w (.returned (.pointer (some ⟨w.heap.size, 0, none⟩))) (w.alloc (.cells #[.slice a len cap, .int .i64 0, .int .i64 h] 105)) :=
  ⟨w.heap.size, rfl, Nat.le_refl _, ⟨a, len, cap, 0, h, Blk.new w #[.slice a len cap, .int .i64 0, .int .i64 h] 105, by omega, by omega, hm, hc.other fun b o hb => World.cell?_alloc_old (h := by show b ≠ _; omega) ..⟩, (Below.refl _ _).alloc (Nat.le_refl _) _⟩

set_option maxHeartbeats 400000 in
set_option maxRecDepth 100000 in
theorem new_any (a : Option Addr) (len cap : Nat) (w : World) (hm : len ≤ 9223372036854775807) (hc : Code w w.heap.size a len) : Calls Tryz.prog 32 #[.slice a len cap] w (NewCur w) := by
  have HC := Lib.hid hc
  clear hc
  go_enter Tryz.func32, Tryz.ntmps32
  go_wp2
  go_loop [3, 4] (fun t i => ∃ (k : Nat) (h : Int), k ≤ len ∧ k ≤ 4000 ∧ i = .int .i64 k ∧ t = .int .i64 h) (fun _ i => len - (intOf i).toNat)
  case atStart => exact ⟨0, _, Nat.zero_le _, by omega, rfl, rfl⟩
  case round =>
    obtain ⟨k, h, hk, hk4, rfl, rfl⟩ := hrel
    by_cases hlt : k < len
    · by_cases hl4 : k < 4000
      · obtain ⟨b, off, x, ha, hb, hx, hx0, hx1⟩ := HC.out k hlt
        subst ha
        go_wp2
        go_round
        case rel => exact ⟨k + 1, _, by omega, by omega, by go_num, rfl⟩
        case measure => simp [intOf]; omega
      · go_wp2
        go_ret
        exact newCur_mk w a len cap h hm HC.out
    · go_wp2
      go_ret
      exact newCur_mk w a len cap h hm HC.out
end Go.Proofs.YtkcfcmigcphjlaaGreat
