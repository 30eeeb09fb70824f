/- The reference's draws: l1Byte, l1Below. -/
import Derived.Test.YtcgncaiehdcooaaMem
import Derived.BigQuiet
import Derived.Deep.QuietTactic
namespace Go.Proofs.Ytcgncaiehdcooaa
open Go.RowKit
set_option linter.unusedVariables false

/-- a slice of bytes, as far as the draws look into it: its cells lie below block B -/
def Code (w : World) (B : Nat) (a : Option Addr) (len : Nat) : Prop :=
  ∀ j, j < len → ∃ b off x, a = some ⟨b, off, none⟩ ∧ b < B ∧ w.cell? ⟨b, off + j, none⟩ = some (.int .u8 x) ∧ 0 ≤ x ∧ x ≤ 255
/-- block B is a cursor over a slice of bytes -/
def Cur (w : World) (B : Nat) : Prop := ∃ (a : Option Addr) (len cap : Nat) (i h : Int), Blk w B [.slice a len cap, .int .i64 i, .int .i64 h] ∧ 0 ≤ i ∧ i ≤ len ∧ len ≤ 9223372036854775807 ∧ Code w B a len

/-- a draw: an int from 0 to m, by a call that writes into the cursor alone -/
def Drawn (w : World) (B : Nat) (m : Int) (e : Ending) (w' : World) : Prop := ∃ x : Int, e = .returned (.int .i64 x) ∧ 0 ≤ x ∧ x ≤ m ∧ Cur w' B ∧ w.grownBy w' (some B)

theorem and255 (a : Int) : 0 ≤ bits .and .i64 a 255 ∧ bits .and .i64 a 255 ≤ 255 := by
  have h : (BitVec.ofInt 64 a &&& 255#64).toNat < 256 := by
    rw [BitVec.toNat_and]
    exact Nat.and_lt_two_pow (n := 8) _ (by decide)
  have e : bits .and .i64 a 255 = IntKind.i64.wrap ((BitVec.ofInt 64 a &&& 255#64).toNat : Int) := rfl
  rw [e, IntKind.wrap_i64]
  omega
theorem Code.other {w w' : World} {B : Nat} {a : Option Addr} {len : Nat} (h : Code w B a len) (hb : ∀ b o, b < B → w'.cell? ⟨b, o, none⟩ = w.cell? ⟨b, o, none⟩) : Code w' B a len := by
  intro j hj
  obtain ⟨b, off, x, h1, h2, h3, h4⟩ := h j hj
  exact ⟨b, off, x, h1, h2, by rw [hb b _ h2]; exact h3, h4⟩
theorem Code.set {w : World} {B : Nat} {a : Option Addr} {len : Nat} (h : Code w B a len) (o : Nat) (v : Value) : Code (w.setCell ⟨B, o, none⟩ v) B a len :=
  h.other fun b _ hb => World.cell?_setCell_other (h := by intro e; injection e with e _ _; omega) ..
set_option maxHeartbeats 400000 in
theorem byte_any (B : Nat) (w : World) (h : Cur w B) : Calls Try.prog 106 #[.pointer (some ⟨B, 0, none⟩)] w (Drawn w B 255) := by
  obtain ⟨a, len, cap, i, h, hb, h0, h1, hm, hc⟩ := h
  have c0 := hb.cell 0
  have c1 := hb.cell 1
  have c2 := hb.cell 2
  have f2 := hb.free 2
  have f1 := hb.free 1
  simp only [List.getElem?_cons_zero, List.getElem?_cons_succ] at c0 c1 c2
  have HB := Lib.hid hb
  have HC := Lib.hid hc
  clear hb hc
  by_cases hlt : i < len
  · obtain ⟨n, rfl⟩ := Int.eq_ofNat_of_zero_le h0
    obtain ⟨b, off, x, ha, hbB, hx, hx0, hx1⟩ := HC.out n (by omega)
    have HA := Lib.hid ha
    have e1 : decide ((n : Int) < len) = true := by simp; omega
    have hne : b ≠ B := by omega
    subst ha
    clear h1
    go_enter Try.func106, Try.ntmps106
    go_wp2
    go_quiet (fail)
    go_wp2
    go_quiet (fail)
    go_wp2
    go_quiet (fail)
    go_wp2
    go_ret
    refine ⟨_, rfl, (and255 _).1, (and255 _).2, ?_, ?_⟩
    · exact ⟨some ⟨b, off, none⟩, len, cap, n + 1, _, ((HB.out.set (j := 2) (by simp) _).set (j := 1) (by simp) _).drewN _, by omega, by omega, hm, (HC.out.set 2 _).set 1 _⟩
    · exact (grown_set B 2 _).trans ((grown_set B 1 _).trans (grown_drewN _ _ _))
  · have e1 : decide (i < len) = false := by simp; omega
    go_enter Try.func106, Try.ntmps106
    go_wp2
    go_quiet (fail)
    go_wp2
    go_quiet (fail)
    go_wp2
    go_ret
    refine ⟨_, rfl, (and255 _).1, (and255 _).2, ?_, ?_⟩
    · exact ⟨a, len, cap, i, _, ((HB.out.set (j := 2) (by simp) _).drewN _).drewN _, h0, h1, hm, HC.out.set 2 _⟩
    · exact (grown_set B 2 _).trans ((grown_drewN _ _ _).trans (grown_drewN _ _ _))

theorem Cur.lt {w : World} {B : Nat} (h : Cur w B) : B < w.heap.size := by
  obtain ⟨a, len, cap, i, h, hb, _⟩ := h
  exact hb.lt
theorem Cur.grown {w w' : World} {B : Nat} {r : Option Nat} (h : Cur w B) (hg : w.grownBy w' r) (hr : ∀ g, r = some g → B < g) : Cur w' B := by
  have hl := h.lt
  obtain ⟨a, len, cap, i, h, hb, h0, h1, hm, hc⟩ := h
  have key : ∀ k, k ≤ B → w'.heap[k]? = w.heap[k]? := fun k hk => hg.block k (by omega) (fun e => by have := hr k e.symm; omega)
  exact ⟨a, len, cap, i, h, hb.same hg.size (key B (Nat.le_refl _)), h0, h1, hm, hc.other fun b o hb => World.cell?_of_block (a := ⟨b, o, none⟩) (key b (by show b ≤ B; omega))⟩
/-- an int below n (0 where n is not above 0) -/
def Lesser (w : World) (B : Nat) (n : Int) (e : Ending) (w' : World) : Prop := ∃ x : Int, e = .returned (.int .i64 x) ∧ 0 ≤ x ∧ (n ≤ 0 → x = 0) ∧ (0 < n → x < n) ∧ Cur w' B ∧ w.grownBy w' (some B)

set_option maxHeartbeats 400000 in
theorem below_any (B : Nat) (n : Int) (w : World) (h : Cur w B) (hn : n ≤ 256) : Calls Try.prog 66 #[.pointer (some ⟨B, 0, none⟩), .int .i64 n] w (Lesser w B n) := by
  by_cases h0 : n ≤ 0
  · have HC := Lib.hid h
    clear h
    go_enter Try.func66, Try.ntmps66
    go_wp2
    go_ret
    exact ⟨0, rfl, by omega, fun _ => rfl, fun h => by omega, HC.out, grown_refl _ _⟩
  · have HB := Lib.hid (byte_any B w h)
    have h1 : 0 < n := by omega
    have h2 : (n == 0) = false := by simp; omega
    clear h
    go_enter Try.func66, Try.ntmps66
    go_wp2_with fail
    refine HB.out.mono ?_
    rintro e w1 ⟨x, rfl, x0, x1, hc, hg⟩
    have HC := Lib.hid hc
    have HG := Lib.hid hg
    clear hc hg
    go_wp2
    go_ret
    refine ⟨_, rfl, ?_, fun h => by omega, fun _ => ?_, HC.out, HG.out⟩
    · exact Int.emod_nonneg _ (by omega)
    · exact Int.emod_lt_of_pos _ (by omega)
end Go.Proofs.Ytcgncaiehdcooaa
