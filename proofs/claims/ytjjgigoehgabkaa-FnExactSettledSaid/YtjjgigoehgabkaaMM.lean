/- The law FnExactSetOk, from what the program's SetOk answers. The program's SetOk. -/
import Derived.Test.YtjjgigoehgabkaaNE
import Derived.Test.YtjjgigoehgabkaaCI
import Derived.Test.YtjjgigoehgabkaaND
namespace Go.Proofs.Ytjjgigoehgabkaa
open Go.RowKit
set_option linter.unusedVariables false

def ImplSetOk : Prop := ∀ (v : Value) (l : List ActM) (n : Int) (w : World), Acts w v l → (-9223372036854775808 ≤ n ∧ n ≤ 9223372036854775807) →
  Calls Try.prog 23 #[v, .int .i64 n] w fun e w' => e = .returned (.bool (setOkM l n)) ∧ Below w.heap.size w w'

set_option maxRecDepth 100000 in
set_option maxHeartbeats 3200000 in
theorem law_setOk (hI : ImplSetOk) (v : Value) (l : List ActM) (n : Int) (w : World) (h : Acts w v l) (hn : -9223372036854775808 ≤ n ∧ n ≤ 9223372036854775807) :
    Calls Try.prog 3 #[v, .int .i64 n] w fun e w' => e = .returned (.bool true) ∧ Below w.heap.size w w' := by
  have HA := Lib.hid h
  have HI := Lib.hid hI
  have HN := Lib.hid hn
  have hsh := acts_len h
  obtain ⟨va, vc, rfl⟩ := hsh
  obtain ⟨K, hK⟩ : ∃ K, K = l.length := ⟨_, rfl⟩
  rw [← hK] at HA ⊢
  clear h hI hn hK
  obtain ⟨X, hX⟩ : ∃ X, X = setOkM l n := ⟨_, rfl⟩
  have CS := Lib.hid (fun W u (h : Acts W u l) => setOk_any u l n W h HN.out)
  have CI := Lib.hid (fun W u (h : Acts W u l) => HI.out u l n W h HN.out)
  simp only [← hX] at CS CI
  clear hX
  go_enter Try.func3, Try.ntmps3
  go_wp2_with fail
  refine (szActS_any _ l 1048576 _ HA.out (by omega) (by omega)).mono ?_
  rintro e w1 ⟨r, rfl, r0, r1, rs, b1⟩
  have B1 := Lib.hid b1
  have RS := Lib.hid rs
  clear b1 rs
  by_cases hr : r < 0
  · go_wp2_with fail
    go_ret
    exact ⟨rfl, B1.out⟩
  · have SM := Lib.hid (RS.out (by omega)).1
    have A1 := Lib.hid (HA.out.below B1.out)
    go_wp2_with fail
    refine ((toActS_any _ l _ A1.out SM.out).mono (R' := fun e w' => ∃ v, e = .returned v ∧ Acts w' v l ∧ Below w1.heap.size w1 w') (fun e w' h => toMade_acts h)).mono ?_
    rintro e w2 ⟨v2, rfl, m2, b2⟩
    obtain ⟨a2, c2, rfl⟩ := acts_len m2
    have M2 := Lib.hid m2
    have A2 := Lib.hid (A1.out.below b2)
    have B2 := Lib.hid (B1.out.trans (b2.mono B1.out.size))
    clear m2 b2 A1 B1
    go_wp2_with fail
    refine (CS.out _ _ M2.out).mono ?_
    rintro e w3 ⟨rfl, b3⟩
    have A3 := Lib.hid (A2.out.below b3)
    have B3 := Lib.hid (B2.out.trans (b3.mono B2.out.size))
    clear b3 A2 B2 M2
    go_wp2_with fail
    refine ((toActS_any _ l _ A3.out SM.out).mono (R' := fun e w' => ∃ v, e = .returned v ∧ Acts w' v l ∧ Below w3.heap.size w3 w') (fun e w' h => toMade_acts h)).mono ?_
    rintro e w4 ⟨v4, rfl, m4, b4⟩
    obtain ⟨a4, c4, rfl⟩ := acts_len m4
    have M4 := Lib.hid m4
    have A4 := Lib.hid (A3.out.below b4)
    have B4 := Lib.hid (B3.out.trans (b4.mono B3.out.size))
    clear m4 b4 A3 B3
    go_wp2_with fail
    refine (CI.out _ _ M4.out).mono ?_
    rintro e w5 ⟨rfl, b5⟩
    have A5 := Lib.hid (A4.out.below b5)
    have M5 := Lib.hid (M4.out.below b5)
    have B5 := Lib.hid (B4.out.trans (b5.mono B4.out.size))
    clear b5 A4 B4 M4
    go_wp2_with fail
    refine ((toActS_any _ l _ A5.out SM.out).mono (R' := fun e w' => ∃ v, e = .returned v ∧ Acts w' v l ∧ Below w5.heap.size w5 w') (fun e w' h => toMade_acts h)).mono ?_
    rintro e w6 ⟨v6, rfl, m6, b6⟩
    obtain ⟨a6, c6, rfl⟩ := acts_len m6
    have M6 := Lib.hid m6
    have N6 := Lib.hid (M5.out.below b6)
    have B6 := Lib.hid (B5.out.trans (b6.mono B5.out.size))
    clear m6 b6 A5 B5 M5
    go_wp2_with fail
    refine (eqActS_any _ _ l _ N6.out M6.out).mono ?_
    rintro e w7 ⟨rfl, b7⟩
    have B7 := Lib.hid (B6.out.trans (b7.mono B6.out.size))
    clear b7
    go_wp2_with fail
    go_ret
    exact ⟨rfl, B7.out⟩
end Go.Proofs.Ytjjgigoehgabkaa
namespace Go.Proofs.Ytjjgigoehgabkaa
open Go.RowKit
set_option linter.unusedVariables false

set_option maxRecDepth 100000 in
set_option maxHeartbeats 1600000 in
theorem implSetOk_any : ImplSetOk := by
  intro v l n w h hn
  obtain ⟨ts, rfl, ht⟩ := h
  obtain ⟨a, cap, rfl⟩ := actsT_len ht
  have RS := Lib.hid (readSet_any _ ts n w ht hn)
  clear ht
  go_enter Try.func23, Try.ntmps23
  go_wp2_with fail
  refine RS.out.mono ?_
  rintro e w1 ⟨b1, (⟨hs, mb, _, rfl, _⟩ | ⟨hs, rfl⟩)⟩
  · have HS := Lib.hid hs
    have B1 := Lib.hid b1
    clear hs b1
    simp only [setVal]
    go_wp2_with fail
    go_ret
    refine ⟨ret_bool HS.out.symm, ?_⟩
    exact B1.out.alloc B1.out.size _
  · have HS := Lib.hid hs
    have B1 := Lib.hid b1
    clear hs b1
    simp only [noSet]
    go_wp2_with fail
    go_ret
    refine ⟨ret_bool HS.out.symm, ?_⟩
    exact B1.out.alloc B1.out.size _
end Go.Proofs.Ytjjgigoehgabkaa
