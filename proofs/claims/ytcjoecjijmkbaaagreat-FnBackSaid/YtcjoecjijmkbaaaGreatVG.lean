/- at(): a byte out of the code; what FnBack and FnCeils come to. -/
import Derived.Test.YtcjoecjijmkbaaaGreatVA
import Derived.Test.YtcjoecjijmkbaaaGreatS
import Derived.Test.YtcjoecjijmkbaaaGreatEA

namespace Go.Proofs.YtcjoecjijmkbaaaGreat
open Go.RowKit
set_option linter.unusedVariables false
set_option linter.unusedSimpArgs false
set_option maxHeartbeats 1600000 in
theorem at_any (a : Option Addr) (len cap B : Nat) (i : Int) (w : World) (hm : len ≤ 9223372036854775807) (hc : Code w B a len) (h0 : 0 ≤ i) : Calls Tryz.prog 17 #[.slice a len cap, .int .i64 i] w fun e w' => (∃ x : Int, 0 ≤ x ∧ x ≤ 255 ∧ e = .returned (.int .i64 x)) ∧ Below w.heap.size w w' := by
  by_cases hl : len = 0
  · subst hl
    go_enter Tryz.func17, Tryz.ntmps17
    go_wp2
    go_ret
    exact ⟨⟨0, by omega, by omega, rfl⟩, Below.refl _ _⟩
  · have k0 : 0 ≤ i.tmod (len : Int) := Int.tmod_nonneg _ h0
    have k1 : i.tmod (len : Int) < (len : Int) := Int.tmod_lt_of_pos _ (by omega)
    obtain ⟨k, hk⟩ := Int.eq_ofNat_of_zero_le k0
    have kl : k < len := by omega
    obtain ⟨b, off, x, rfl, hb, hx, x0, x1⟩ := hc k kl
    have e0 : ((len : Int) == 0) = false := by simp; omega
    have e1 : ((len : Int) != 0) = true := by simp; omega
    have e2 : IntKind.i64.wrap (i.tmod (len : Int)) = (k : Int) := by rw [hk]; exact IntWalk.i64_in _ (by omega)
    have e3 : IntKind.i64.wrap x = x := IntWalk.i64_in _ (by omega)
    have i0 : (0 : Int) ≤ (k : Int) := by omega
    have i1 : (k : Int) < (len : Int) := by omega
    have HK := Lib.hid hk
    rw [hk] at e2
    clear k0 k1 hc
    go_enter Tryz.func17, Tryz.ntmps17
    go_wp2
    go_ret
    exact ⟨⟨x, x0, x1, rfl⟩, Below.refl _ _⟩
theorem mod_lt (x : Int) (h0 : 0 ≤ x) (n : Nat) (hn : 0 < n) : 0 ≤ x.tmod (n : Int) ∧ x.tmod (n : Int) < n := ⟨Int.tmod_nonneg _ h0, Int.tmod_lt_of_pos _ (by omega)⟩
def bkL (m : Int) : List ActM := [⟨0, 1, [0, 0], 0, 1, 1, 0, m, 0, 0, []⟩, ⟨0, 2, [1, 0], 1, 1, 2, 0, bits .and .i64 m 7, 0, 0, []⟩, ⟨0, 3, [2, 0], 2, 4, 0, 0, 0, 0, 0, []⟩]
def bkR (who : Int) : ActM := ⟨1, 1, [3, 0], who, 2, 0, 0, 0, 0, 1, []⟩
def bkX (m who : Int) : List ActM := putM (bkL m) (bkR who)
def bkOk (m who : Int) : Prop := addM (bkL m) 2 (bkR who) = some (bkX m who) ∧ clockOfM (bkX m who) 2 = [3, 1] ∧ holdsM (bkX m who) 2 0 0 3 [2, 0] = true ∧ holdsM (bkX m who) 2 1 0 3 [2, 0] = true ∧ rightsM (bkX m who) 2 2 0 0 3 [2, 0] = bits .and .i64 m 7 ∧
  (who = 0 → holdsM (bkX m who) 2 0 (-1) 0 [3, 1] = false ∧ holdsM (bkX m who) 2 1 (-1) 0 [3, 1] = false ∧ rightsM (bkX m who) 2 2 0 (-1) 0 [3, 1] = 0) ∧ (who ≠ 0 → holdsM (bkX m who) 2 0 (-1) 0 [3, 1] = true ∧ rightsM (bkX m who) 2 1 0 (-1) 0 [3, 1] = m)
instance (m who : Int) : Decidable (bkOk m who) := by unfold bkOk; infer_instance
theorem bk_all : ∀ i ∈ List.range 8, ∀ j ∈ List.range 3, bkOk ((i : Int) + 8) (j : Int) := by decide +kernel
theorem bk_ok {y who : Int} (h0 : 0 ≤ y) (h8 : y < 8) (w0 : 0 ≤ who) (w3 : who < 3) : bkOk (y + 8) who := by
  have := bk_all y.toNat (List.mem_range.2 (by omega)) who.toNat (List.mem_range.2 (by omega))
  rwa [Int.toNat_of_nonneg h0, Int.toNat_of_nonneg w0] at this
def clL (a b : Int) : List ActM := [⟨0, 1, [0, 0], 0, 1, 1, 0, 15, 0, 0, []⟩, ⟨0, 2, [1, 0], 0, 3, 0, 0, a, 0, 0, []⟩, ⟨0, 3, [2, 0], 0, 3, 0, 0, b, 0, 0, []⟩, ⟨1, 1, [2, 0], 1, 4, 0, 0, 0, 0, 0, []⟩]
def clX (a b : Int) (k : Nat) : List ActM := ((clL a b).take k).foldl (fun l x => (addM l 2 x).getD []) []
def clOk (a b : Int) : Prop := (∀ k ∈ List.range 4, addM (clX a b k) 2 ((clL a b).getD k act0) = some (clX a b (k + 1))) ∧ clockOfM (clX a b 4) 2 = [3, 1] ∧ rightsM (clX a b 4) 2 1 0 (-1) 0 [3, 1] = b ∧ rightsM (clX a b 4) 2 1 0 1 1 [2, 0] = bits .and .i64 a b ∧ rightsM (clX a b 4) 2 0 0 (-1) 0 [3, 1] = 15 ∧ rightsM (clX a b 4) 2 1 0 0 2 [1, 0] = a ∧ rightsM (clX a b 4) 2 1 1 (-1) 0 [3, 1] = 0
instance (a b : Int) : Decidable (clOk a b) := by unfold clOk; infer_instance
theorem cl_all : ∀ i ∈ List.range 16, ∀ j ∈ List.range 16, clOk (i : Int) (j : Int) := by decide +kernel
theorem cl_ok {a b : Int} (a0 : 0 ≤ a) (a1 : a < 16) (b0 : 0 ≤ b) (b1 : b < 16) : clOk a b := by
  have := cl_all a.toNat (List.mem_range.2 (by omega)) b.toNat (List.mem_range.2 (by omega))
  rwa [Int.toNat_of_nonneg a0, Int.toNat_of_nonneg b0] at this
end Go.Proofs.YtcjoecjijmkbaaaGreat
