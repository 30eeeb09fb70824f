/- S, T, U, T2. -/
import Derived.Test.YtcjoecjijmkbaaaGreatMA
import Derived.BigQuiet
import Derived.Deep.QuietTactic

namespace Go.Proofs.YtcjoecjijmkbaaaGreat
open Go.RowKit
set_option linter.unusedVariables false
def Code (w : World) (B : Nat) (a : Option Addr) (len : Nat) : Prop :=
 ∀ j, j < len → ∃ b off x, a = some ⟨b, off, none⟩ ∧ b < B ∧ w.cell? ⟨b, off + j, none⟩ = some (.int .u8 x) ∧ 0 ≤ x ∧ x ≤ 255
def Cur (w : World) (B : Nat) : Prop := ∃ (a : Option Addr) (len cap : Nat) (i h : Int), Blk w B [.slice a len cap, .int .i64 i, .int .i64 h] ∧ 0 ≤ i ∧ i ≤ len ∧ len ≤ 9223372036854775807 ∧ Code w B a len
def Drawn (w : World) (B : Nat) (m : Int) (e : Ending) (w' : World) : Prop := ∃ x : Int, e = .returned (.int .i64 x) ∧ 0 ≤ x ∧ x ≤ m ∧ Cur w' B ∧ w.grownBy w' (some B)
theorem and255 (a : Int) : 0 ≤ bits .and .i64 a 255 ∧ bits .and .i64 a 255 ≤ 255 := by
 have h : (BitVec.ofInt 64 a &&& 255#64).toNat < 256 := by
  rw [BitVec.toNat_and]
  exact Nat.and_lt_two_pow (n := 8) _ (by decide)
 have e : bits .and .i64 a 255 = IntKind.i64.wrap ((BitVec.ofInt 64 a &&& 255#64).toNat : Int) := rfl
 rw [e, IntKind.wrap_i64]
 omega
theorem Code.other {w w' : World} {B : Nat} {a : Option Addr} {len : Nat} (h : Code w B a len) (hb : ∀ b o, b < B → w'.cell? ⟨b, o, none⟩ = w.cell? ⟨b, o, none⟩) : Code w' B a len := by
 intro j hj
 obtain ⟨b, off, x, h1, h2, h3, h4⟩ := h j hj
 exact ⟨b, off, x, h1, h2, by rw [hb b _ h2]; exact h3, h4⟩
theorem Code.set {w : World} {B : Nat} {a : Option Addr} {len : Nat} (h : Code w B a len) (o : Nat) (v : Value) : Code (w.setCell ⟨B, o, none⟩ v) B a len :=
 h.other fun b _ hb => World.cell?_setCell_other (h := by intro e; injection e with e _ _; omega) ..
set_option maxHeartbeats 400000 in
theorem byte_any (B : Nat) (w : World) (h : Cur w B) : Calls Tryz.prog 50 #[.pointer (some ⟨B, 0, none⟩)] w (Drawn w B 255) := by
 obtain ⟨a, len, cap, i, h, hb, h0, h1, hm, hc⟩ := h
 have c0 := hb.cell 0
 have c1 := hb.cell 1
 have c2 := hb.cell 2
 have f2 := hb.free 2
 have f1 := hb.free 1
 simp only [List.getElem?_cons_zero, List.getElem?_cons_succ] at c0 c1 c2
 have HB := Lib.hid hb
 have HC := Lib.hid hc
 clear hb hc
 by_cases hlt : i < len
 ·obtain ⟨n, rfl⟩ := Int.eq_ofNat_of_zero_le h0
  obtain ⟨b, off, x, ha, hbB, hx, hx0, hx1⟩ := HC.out n (by omega)
  have HA := Lib.hid ha
  have e1 : decide ((n : Int) < len) = true := by simp; omega
  have hne : b ≠ B := by omega
  subst ha
  clear h1
  go_enter Tryz.func50, Tryz.ntmps50
  go_wp2
  go_quiet (fail)
  go_wp2
  go_quiet (fail)
  go_wp2
  go_quiet (fail)
  go_wp2
  go_ret
  refine ⟨_, rfl, (and255 _).1, (and255 _).2, ?_, ?_⟩
  ·exact ⟨some ⟨b, off, none⟩, len, cap, n + 1, _, ((HB.out.set (j := 2) (by simp) _).set (j := 1) (by simp) _).drewN _, by omega, by omega, hm, (HC.out.set 2 _).set 1 _⟩
  ·exact (grown_set B 2 _).trans ((grown_set B 1 _).trans (grown_drewN _ _ _))
 ·have e1 : decide (i < len) = false := by simp; omega
  go_enter Tryz.func50, Tryz.ntmps50
  go_wp2
  go_quiet (fail)
  go_wp2
  go_quiet (fail)
  go_wp2
  go_ret
  refine ⟨_, rfl, (and255 _).1, (and255 _).2, ?_, ?_⟩
  ·exact ⟨a, len, cap, i, _, ((HB.out.set (j := 2) (by simp) _).drewN _).drewN _, h0, h1, hm, HC.out.set 2 _⟩
  ·exact (grown_set B 2 _).trans ((grown_drewN _ _ _).trans (grown_drewN _ _ _))
theorem Cur.lt {w : World} {B : Nat} (h : Cur w B) : B < w.heap.size := by
 obtain ⟨a, len, cap, i, h, hb, _⟩ := h
 exact hb.lt
theorem Cur.grown {w w' : World} {B : Nat} {r : Option Nat} (h : Cur w B) (hg : w.grownBy w' r) (hr : ∀ g, r = some g → B < g) : Cur w' B := by
 have hl := h.lt
 obtain ⟨a, len, cap, i, h, hb, h0, h1, hm, hc⟩ := h
 have key : ∀ k, k ≤ B → w'.heap[k]? = w.heap[k]? := fun k hk => hg.block k (by omega) (fun e => by have := hr k e.symm; omega)
 exact ⟨a, len, cap, i, h, hb.same hg.size (key B (Nat.le_refl _)), h0, h1, hm, hc.other fun b o hb => World.cell?_of_block (a := ⟨b, o, none⟩) (key b (by show b ≤ B; omega))⟩
def Lesser (w : World) (B : Nat) (n : Int) (e : Ending) (w' : World) : Prop := ∃ x : Int, e = .returned (.int .i64 x) ∧ 0 ≤ x ∧ (n ≤ 0 → x = 0) ∧ (0 < n → x < n) ∧ Cur w' B ∧ w.grownBy w' (some B)
set_option maxHeartbeats 400000 in
theorem below_any (B : Nat) (n : Int) (w : World) (h : Cur w B) (hn : n ≤ 256) : Calls Tryz.prog 26 #[.pointer (some ⟨B, 0, none⟩), .int .i64 n] w (Lesser w B n) := by
 by_cases h0 : n ≤ 0
 ·have HC := Lib.hid h
  clear h
  go_enter Tryz.func26, Tryz.ntmps26
  go_wp2
  go_ret
  exact ⟨0, rfl, by omega, fun _ => rfl, fun h => by omega, HC.out, grown_refl _ _⟩
 ·have HB := Lib.hid (byte_any B w h)
  have h1 : 0 < n := by omega
  have h2 : (n == 0) = false := by simp; omega
  clear h
  go_enter Tryz.func26, Tryz.ntmps26
  go_wp2_with fail
  refine HB.out.mono ?_
  rintro e w1 ⟨x, rfl, x0, x1, hc, hg⟩
  have HC := Lib.hid hc
  have HG := Lib.hid hg
  clear hc hg
  go_wp2
  go_ret
  refine ⟨_, rfl, ?_, fun h => by omega, fun _ => ?_, HC.out, HG.out⟩
  ·exact Int.emod_nonneg _ (by omega)
  ·exact Int.emod_lt_of_pos _ (by omega)
end Go.Proofs.YtcjoecjijmkbaaaGreat
namespace Go.Proofs.YtcjoecjijmkbaaaGreat
open Go.RowKit
set_option linter.unusedVariables false
set_option maxHeartbeats 400000 in
theorem pick_any (B g cap n : Nat) (xs : List Int) (w : World) (hnn : xs.length = n) (h : Cur w B) (hn : 0 < n) (hm : n ≤ 256) (hg : B < g) (hgl : g < w.heap.size) (hc : ∀ i, i < n → w.cell? ⟨g, i, none⟩ = some (.int .i64 (xs.getD i 0))) :
  Calls Tryz.prog 48 #[.pointer (some ⟨B, 0, none⟩), .slice (some ⟨g, 0, none⟩) n cap] w fun e w' => ∃ x, e = .returned (.int .i64 x) ∧ x ∈ xs ∧ Cur w' B ∧ w.grownBy w' (some B) := by
 have HC := Lib.hid h
 have HX := Lib.hid hc
 have HN := Lib.hid hnn
 have hB := h.lt
 clear h hc hnn
 go_enter Tryz.func48, Tryz.ntmps48
 go_wp2_with fail
 refine (below_any B n _ HC.out (by omega)).mono ?_
 rintro e w1 ⟨x, rfl, x0, _, x1, hc1, hg1⟩
 have x2 := x1 (by omega)
 obtain ⟨j, rfl⟩ := Int.eq_ofNat_of_zero_le x0
 have q : w1.cell? ⟨g, j, none⟩ = some (.int .i64 (xs.getD j 0)) := (World.cell?_of_block (a := ⟨g, j, none⟩) (hg1.block g hgl (fun e => by cases e; omega))).trans (HX.out j (by omega))
 have hj : j < xs.length := by rw [HN.out]; omega
 have hmem : Hid (xs.getD j 0 ∈ xs) := by
  show _ ∈ _
  simp [List.getD, hj]
 have HC1 := Lib.hid hc1
 have HG1 := Lib.hid hg1
 clear hc1 hg1 x1 hj
 generalize xs.getD j 0 = z at *
 go_wp2
 go_ret
 exact ⟨z, rfl, hmem.out, HC1.out, HG1.out⟩
end Go.Proofs.YtcjoecjijmkbaaaGreat
namespace Go.Proofs.YtcjoecjijmkbaaaGreat
open Go.RowKit
set_option linter.unusedVariables false
def NewCur (w : World) (e : Ending) (w' : World) : Prop := ∃ B, e = .returned (.pointer (some ⟨B, 0, none⟩)) ∧ w.heap.size ≤ B ∧ Cur w' B ∧ Below w.heap.size w w'
theorem newCur_mk (w : World) (a : Option Addr) (len cap : Nat) (h : Int) (hm : len ≤ 9223372036854775807) (hc : Code w w.heap.size a len) :
  NewCur w (.returned (.pointer (some ⟨w.heap.size, 0, none⟩))) (w.alloc (.cells #[.slice a len cap, .int .i64 0, .int .i64 h] 87)) :=
 ⟨w.heap.size, rfl, Nat.le_refl _, ⟨a, len, cap, 0, h, Blk.new w #[.slice a len cap, .int .i64 0, .int .i64 h] 87, by omega, by omega, hm, hc.other fun b o hb => World.cell?_alloc_old (h := by show b ≠ _; omega) ..⟩, (Below.refl _ _).alloc (Nat.le_refl _) _⟩
set_option maxHeartbeats 400000 in
set_option maxRecDepth 100000 in
theorem new_any (a : Option Addr) (len cap : Nat) (w : World) (hm : len ≤ 9223372036854775807) (hc : Code w w.heap.size a len) : Calls Tryz.prog 24 #[.slice a len cap] w (NewCur w) := by
 have HC := Lib.hid hc
 clear hc
 go_enter Tryz.func24, Tryz.ntmps24
 go_wp2
 go_loop [3, 4] (fun t i => ∃ (k : Nat) (h : Int), k ≤ len ∧ k ≤ 4000 ∧ i = .int .i64 k ∧ t = .int .i64 h) (fun _ i => len - (intOf i).toNat)
 case atStart => exact ⟨0, _, Nat.zero_le _, by omega, rfl, rfl⟩
 case round =>
  obtain ⟨k, h, hk, hk4, rfl, rfl⟩ := hrel
  by_cases hlt : k < len
  ·by_cases hl4 : k < 4000
   ·obtain ⟨b, off, x, ha, hb, hx, hx0, hx1⟩ := HC.out k hlt
    subst ha
    go_wp2
    go_round
    case rel => exact ⟨k + 1, _, by omega, by omega, by go_num, rfl⟩
    case measure => simp [intOf]; omega
   ·go_wp2
    go_ret
    exact newCur_mk w a len cap h hm HC.out
  ·go_wp2
   go_ret
   exact newCur_mk w a len cap h hm HC.out
end Go.Proofs.YtcjoecjijmkbaaaGreat
namespace Go.Proofs.YtcjoecjijmkbaaaGreat
open Go.RowKit
set_option linter.unusedVariables false
def DrawnInts (w : World) (B : Nat) (n : Nat) (e : Ending) (w' : World) : Prop := ∃ g v xs, e = .returned v ∧ Own w' g v xs ∧ w.heap.size ≤ g ∧ xs.length = n ∧ (∀ x ∈ xs, 0 ≤ x ∧ x ≤ 3) ∧ Cur w' B ∧ w.grownBy w' (some B)
set_option maxHeartbeats 800000 in
theorem clock_any (B n : Nat) (w : World) (h : Cur w B) (hn : n ≤ 5) : Calls Tryz.prog 54 #[.pointer (some ⟨B, 0, none⟩), .int .i64 n] w (DrawnInts w B n) := by
 obtain ⟨i0, hi, hz0, hz1, hz2⟩ := info_parts Tryz.info3
 have HC := Lib.hid h
 have hB := h.lt
 clear h
 go_enter Tryz.func54, Tryz.ntmps54
 go_wp2
 go_loopw [5, 6] (fun sv i wr => ∃ (k : Nat) (l : List Int) (v : Value), v = sv ∧ k ≤ n ∧ i = .int .i64 k ∧ Hid (l.length = k) ∧ Hid (∀ x ∈ l, 0 ≤ x ∧ x ≤ 3) ∧ Hid (wr.ownsRow w.heap.size 3 1 v k (vi l)) ∧ Hid (Cur wr B) ∧ Hid (w.grownBy wr (some B))) (fun _ i _ => n - (intOf i).toNat)
 case atStart => exact ⟨0, [], _, rfl, Nat.zero_le _, rfl, rfl, (by intro x hx; cases hx), ⟨rfl, .inl ⟨rfl, rfl⟩⟩, HC.out, grown_refl _ _⟩
 case round =>
  obtain ⟨k, l, v, hv, hk, rfl, hl, hr, ho, hc, hg⟩ := hrel
  subst hv
  by_cases hlt : k < n
  ·go_wp2_with fail
   refine (below_any B 4 _ hc.out (by omega)).mono ?_
   rintro e w1 ⟨x, rfl, x0, _, x1, hc1, hg1⟩
   have H1 : Hid (w1.ownsRow w.heap.size 3 1 v k (vi l)) := row_grown ho.out hg1 (fun g e => by cases e; exact hB)
   have hs1 := hg.out.size
   have hs2 := hg1.size
   have HC1 := Lib.hid hc1
   have HG1 := Lib.hid (hg.out.trans hg1)
   have X1 := Lib.hid (x1 (by omega))
   clear hc1 hg1 x1 hc hg ho
   go_wp2_with (at_builtin; refine wpList_append_own _ rfl (.tmp 12) (.tmp 15) 24 rfl w.heap.size 3 i0 (.int .i64 0) 1 8 Tryz.underlying24 hi hz0 hz1 hz2 rfl (by decide) _ k (vi l) rfl (H1.out.alloc _) ⟨w1.heap.size, 0, none⟩ 1 1 [.int .i64 x] rfl rfl ?c1 ?c2 ?c3 ?c4 ?c5 ?_)
   case c1 => exact cell_one_new _ _ _
   case c2 => simp [Value.oneCell']
   case c3 => unfold maxLen; omega
   case c4 => omega
   case c5 => simp; omega
   intro v2 w2 hown2 hgrow2 _
   have G2 := Lib.hid (grown_then (grown_then HG1.out (grown_alloc w1 (.cells #[.int .i64 x] 3) none) (fun g hg => by cases hg)) hgrow2 (fun g hg => .inr (own_block_ge H1.out g hg)))
   have C2 := Lib.hid ((HC1.out.grown (grown_alloc w1 (.cells #[.int .i64 x] 3) none) (fun g hg => by cases hg)).grown hgrow2 (fun g hg => by have := own_block_ge H1.out g hg; omega))
   have O2 : Hid (w2.ownsRow w.heap.size 3 1 v2 (k + 1) (vi (l ++ [x]))) := by
    show World.ownsRow _ _ _ _ _ _ _
    simpa [vi] using hown2
   clear hown2 hgrow2
   go_wp2
   go_roundw
   case rel => exact ⟨k + 1, l ++ [x], _, rfl, by omega, by go_num, by show _ = _; rw [List.length_append, hl.out]; rfl, (fun y hy => by
     rcases List.mem_append.1 hy with h | h
     ·exact hr.out y h
     ·simp only [List.mem_singleton] at h; subst h; have := X1.out; omega), O2.out, C2.out, G2.out⟩
   case measure => simp [intOf]; omega
  ·go_wp2
   go_ret
   obtain ⟨g, hge, hown⟩ := own_of_row hl.out ho.out
   have : k = n := by omega
   subst this
   exact ⟨g, _, l, rfl, hown, hge, hl.out, hr.out, hc.out, hg.out⟩
end Go.Proofs.YtcjoecjijmkbaaaGreat
