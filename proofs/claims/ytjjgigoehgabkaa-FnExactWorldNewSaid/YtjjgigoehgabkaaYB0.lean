/- One digit. -/
import Derived.Test.YtjjgigoehgabkaaYA
import Derived.Test.YtjjgigoehgabkaaMA
import Derived.Deep.DeepCutAuto
import Derived.Laws.IdiomStrings
namespace Go.Proofs.Ytjjgigoehgabkaa
open Go.RowKit
set_option linter.unusedVariables false
set_option linter.unusedSimpArgs false

def mB : Value → Nat
  | .bool true => 1
  | _ => 0
theorem app_bytes (a b : List UInt8) : (⟨a.toArray⟩ : ByteArray) ++ ⟨b.toArray⟩ = ⟨(a ++ b).toArray⟩ := by
  apply ByteArray.ext
  simp
theorem app_one (c : UInt8) (b : List UInt8) : (⟨#[c]⟩ : ByteArray) ++ ⟨b.toArray⟩ = ⟨(c :: b).toArray⟩ := app_bytes [c] b
theorem conv_one (w : World) (C : Int) (D : UInt8) (h : C = (D.toNat : Int)) : (convert 193 9 (.slice (some ⟨w.heap.size, 0, none⟩) 1 1)).run Try.prog (w.alloc (.cells #[.int .u8 C] 5)) = .ok (.string ⟨#[D]⟩) (w.alloc (.cells #[.int .u8 C] 5)) := by
  subst h
  exact run_convert_bytes_back (P := Try.prog) (w.alloc (.cells #[.int .u8 (D.toNat : Int)] 5)) 193 9 5 ⟨w.heap.size, 0, none⟩ 1 [D] Try.underlying193 Try.underlying5 Try.underlying9 (fun j hj => by
    obtain rfl : j = 0 := by simpa using hj
    simp [Addr.add])
/-- what one digit says -/
theorem dig_facts (x : Int) (h0 : -9223372036854775808 ≤ x) (h1 : x ≤ 9223372036854775807) : ∃ d q : Int, x.tmod 10 = d ∧ x.tdiv 10 = q ∧ -9 ≤ d ∧ d ≤ 9 ∧ (d < 0 → x < 0) ∧ (q = 0 → d = x) ∧ (-9223372036854775808 ≤ q ∧ q ≤ 9223372036854775807) ∧ (x < 0 → d ≤ 0) ∧ (q ≠ 0 → q.natAbs < x.natAbs) ∧ (dgt x).toNat = 48 + d.natAbs := by
  refine ⟨_, _, rfl, rfl, ?_⟩
  have hd : (dgt x).toNat = 48 + (x.tmod 10).natAbs := by
    have : (x.tmod 10).natAbs < 10 := by
      rcases Int.lt_or_le x 0 with hn | hn
      · obtain ⟨u, rfl⟩ : ∃ u : Nat, x = -(u : Int) := ⟨x.natAbs, by omega⟩
        rw [tmod_neg10]; omega
      · obtain ⟨u, rfl⟩ := Int.eq_ofNat_of_zero_le hn
        rw [tmod_pos10]; omega
    simp only [dgt, UInt8.toNat_ofNat']
    omega
  rw [hd]
  rcases Int.lt_or_le x 0 with hn | hn
  · obtain ⟨u, rfl⟩ : ∃ u : Nat, x = -(u : Int) := ⟨x.natAbs, by omega⟩
    have e1 : (-(u : Int)).tmod 10 = -((u % 10 : Nat) : Int) := by rw [Int.neg_tmod, Int.tmod_eq_emod_of_nonneg (by omega)]; omega
    rw [tdiv_neg10, e1]
    refine ⟨?_, ?_, ?_, ?_, ?_, ?_, ?_, rfl⟩ <;> omega
  · obtain ⟨u, rfl⟩ := Int.eq_ofNat_of_zero_le hn
    have e1 : (u : Int).tmod 10 = ((u % 10 : Nat) : Int) := by rw [Int.tmod_eq_emod_of_nonneg (by omega)]; omega
    rw [tdiv_pos10, e1]
    refine ⟨?_, ?_, ?_, ?_, ?_, ?_, ?_, rfl⟩ <;> omega

end Go.Proofs.Ytjjgigoehgabkaa
