/- Marks as text; houses. -/
import Derived.Test.YtjjgigoehgabkaaYB0
namespace Go.Proofs.Ytjjgigoehgabkaa
open Go.RowKit
set_option linter.unusedVariables false
set_option linter.unusedSimpArgs false

/-- what markText gives -/
def mtx (k : Int) : List UInt8 := 109 :: Lib.itoa k
set_option maxRecDepth 100000 in
set_option maxHeartbeats 3200000 in
theorem markText_any (n : Int) (w : World) (h0 : 0 < n) (h1 : n ≤ 9223372036854775807) :
    Calls Try.prog 162 #[.int .i64 n] w fun e w' => e = .returned (.string ⟨(mtx n).toArray⟩) ∧ Below w.heap.size w w' := by
  have HL := Lib.hid (Lib.itoa_length_le n (by omega) h1)
  have a1 : ∀ b : List UInt8, (⟨#[109]⟩ : ByteArray) ++ ⟨b.toArray⟩ = ⟨(109 :: b).toArray⟩ := app_one 109
  go_enter Try.func162, Try.ntmps162
  go_wp2_with fail
  go_loopw [0, 3] (fun t s wr => ∃ (x : Int) (l : List UInt8), t = .int .i64 x ∧ s = .string ⟨l.toArray⟩ ∧ Hid (0 ≤ x ∧ x ≤ 9223372036854775807) ∧ Hid (Lib.itoa n = if 0 < x then Lib.itoa x ++ l else l) ∧ Hid (Below w.heap.size w wr)) (fun t _ _ => (intOf t).toNat)
  case atStart => exact ⟨n, [], rfl, rfl, ⟨by omega, h1⟩, by show _ = _; simp [h0], Below.refl _ _⟩
  case round =>
    obtain ⟨x, l, rfl, rfl, hx, hg, hb⟩ := hrel
    by_cases hx0 : 0 < x
    · have HG := Lib.hid (show Lib.itoa n = Lib.itoa x ++ l by rw [hg.out, if_pos hx0])
      have hll : l.length ≤ 21 := by have h2 := HL.out; rw [HG.out, List.length_append] at h2; omega
      obtain ⟨d, q, hd, hq, d0, d1, dn, qd, qb, xd, ms, tn⟩ := dig_facts x (by have := hx.out.1; omega) hx.out.2
      have HS := Lib.hid (fun h : q ≠ 0 => itoa_step x (by rw [hq]; exact h))
      have HE := Lib.hid (fun h : q = 0 => itoa_end x (by rw [hq]; exact h))
      rw [hq] at HS
      have hd0 : 0 ≤ d := by
        have e : (x.tmod 10) = x % 10 := Int.tmod_eq_emod_of_nonneg (by omega)
        omega
      have hq0 : 0 ≤ q := by
        have e : (x.tdiv 10) = x / 10 := Int.tdiv_eq_ediv_of_nonneg (by omega)
        omega
      have hqx : q < x := by
        have e : (x.tdiv 10) = x / 10 := Int.tdiv_eq_ediv_of_nonneg (by omega)
        omega
      have TN := Lib.hid tn
      obtain ⟨D, hD⟩ : ∃ D, D = dgt x := ⟨_, rfl⟩
      rw [← hD] at HS HE TN
      have a2 : ∀ b : List UInt8, (⟨#[D]⟩ : ByteArray) ++ ⟨b.toArray⟩ = ⟨(D :: b).toArray⟩ := app_one D
      have cv := conv_one wr (48 + d) D (by have := TN.out; omega)
      have BA := Lib.hid (hb.out.alloc hb.out.size (.cells #[.int .u8 (48 + d)] 5))
      have QB : Hid (0 ≤ q ∧ q ≤ 9223372036854775807) := ⟨hq0, qb.2⟩
      have HF : Hid (Lib.itoa n = if 0 < q then Lib.itoa q ++ (D :: l) else D :: l) := by
        show _ = _
        by_cases c : q = 0
        · rw [if_neg (by omega), HG.out, HE.out c, if_neg (by omega)]; rfl
        · rw [if_pos (by omega), HG.out, HS.out c]; simp
      have qb1 := qb.1
      have qb2 := qb.2
      clear hg tn qb ms hD dn qd xd
      go_wp2_with fail
      go_roundw
      case rel => exact ⟨q, D :: l, by go_num, rfl, QB.out, HF.out, BA.out⟩
      case measure => simp [intOf]; omega
    · have HG := Lib.hid (show Lib.itoa n = l by rw [hg.out, if_neg hx0])
      have hll : l.length ≤ 21 := by have h2 := HL.out; rw [HG.out] at h2; omega
      clear hg
      have HM := Lib.hid (show mtx n = 109 :: l by rw [mtx, HG.out])
      go_wp2_with fail
      go_ret
      exact ⟨by show Ending.returned (Value.string _) = _; rw [HM.out], hb.out⟩
end Go.Proofs.Ytjjgigoehgabkaa
