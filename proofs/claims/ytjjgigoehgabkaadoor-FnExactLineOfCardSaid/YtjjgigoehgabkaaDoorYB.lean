/- The reference's l10dec. -/
import Derived.Test.YtjjgigoehgabkaaDoorYA
import Derived.Test.YtjjgigoehgabkaaDoorMA
import Derived.Deep.DeepCutAuto
import Derived.Laws.IdiomStrings




namespace Go.Proofs.YtjjgigoehgabkaaDoor
open Go.RowKit
set_option linter.unusedVariables false
set_option linter.unusedSimpArgs false

def mB : Value → Nat
  | .bool true => 1
  | _ => 0
theorem app_bytes (a b : List UInt8) : (⟨a.toArray⟩ : ByteArray) ++ ⟨b.toArray⟩ = ⟨(a ++ b).toArray⟩ := by
  apply ByteArray.ext
  simp
theorem app_one (c : UInt8) (b : List UInt8) : (⟨#[c]⟩ : ByteArray) ++ ⟨b.toArray⟩ = ⟨(c :: b).toArray⟩ := app_bytes [c] b
theorem conv_one (w : World) (C : Int) (D : UInt8) (h : C = (D.toNat : Int)) : (convert 61 9 (.slice (some ⟨w.heap.size, 0, none⟩) 1 1)).run Tryd.prog (w.alloc (.cells #[.int .u8 C] 5)) = .ok (.string ⟨#[D]⟩) (w.alloc (.cells #[.int .u8 C] 5)) := by
  subst h
  exact run_convert_bytes_back (P := Tryd.prog) (w.alloc (.cells #[.int .u8 (D.toNat : Int)] 5)) 61 9 5 ⟨w.heap.size, 0, none⟩ 1 [D] Tryd.underlying61 Tryd.underlying5 Tryd.underlying9 (fun j hj => by
    obtain rfl : j = 0 := by simpa using hj
    simp [Addr.add])
/-- what one digit says -/
theorem dig_facts (x : Int) (h0 : -9223372036854775808 ≤ x) (h1 : x ≤ 9223372036854775807) : ∃ d q : Int, x.tmod 10 = d ∧ x.tdiv 10 = q ∧ -9 ≤ d ∧ d ≤ 9 ∧ (d < 0 → x < 0) ∧ (q = 0 → d = x) ∧ (-9223372036854775808 ≤ q ∧ q ≤ 9223372036854775807) ∧ (x < 0 → d ≤ 0) ∧ (q ≠ 0 → q.natAbs < x.natAbs) ∧ (dgt x).toNat = 48 + d.natAbs := by
  refine ⟨_, _, rfl, rfl, ?_⟩
  have hd : (dgt x).toNat = 48 + (x.tmod 10).natAbs := by
    have : (x.tmod 10).natAbs < 10 := by
      rcases Int.lt_or_le x 0 with hn | hn
      · obtain ⟨u, rfl⟩ : ∃ u : Nat, x = -(u : Int) := ⟨x.natAbs, by omega⟩
        rw [tmod_neg10]; omega
      · obtain ⟨u, rfl⟩ := Int.eq_ofNat_of_zero_le hn
        rw [tmod_pos10]; omega
    simp only [dgt, UInt8.toNat_ofNat']
    omega
  rw [hd]
  rcases Int.lt_or_le x 0 with hn | hn
  · obtain ⟨u, rfl⟩ : ∃ u : Nat, x = -(u : Int) := ⟨x.natAbs, by omega⟩
    have e1 : (-(u : Int)).tmod 10 = -((u % 10 : Nat) : Int) := by rw [Int.neg_tmod, Int.tmod_eq_emod_of_nonneg (by omega)]; omega
    rw [tdiv_neg10, e1]
    refine ⟨?_, ?_, ?_, ?_, ?_, ?_, ?_, rfl⟩ <;> omega
  · obtain ⟨u, rfl⟩ := Int.eq_ofNat_of_zero_le hn
    have e1 : (u : Int).tmod 10 = ((u % 10 : Nat) : Int) := by rw [Int.tmod_eq_emod_of_nonneg (by omega)]; omega
    rw [tdiv_pos10, e1]
    refine ⟨?_, ?_, ?_, ?_, ?_, ?_, ?_, rfl⟩ <;> omega

set_option maxRecDepth 100000 in
set_option maxHeartbeats 3200000 in
theorem dec_any (n : Int) (w : World) (h0 : -9223372036854775808 ≤ n) (h1 : n ≤ 9223372036854775807) :
    Calls Tryd.prog 27 #[.int .i64 n] w fun e w' => e = .returned (.string ⟨(Lib.itoa n).toArray⟩) ∧ Below w.heap.size w w' := by
  have HL := Lib.hid (Lib.itoa_length_le n h0 h1)
  go_enter Tryd.func27, Tryd.ntmps27
  go_wp2_with fail
  go_loopw [0, 3, 4] (fun t s b wr => ∃ (x : Int) (l : List UInt8) (B : Bool), t = .int .i64 x ∧ s = .string ⟨l.toArray⟩ ∧ b = .bool B ∧ Hid (-9223372036854775808 ≤ x ∧ x ≤ 9223372036854775807) ∧ Hid (Lib.itoa n = if B = true then Lib.itoa x ++ l else l) ∧ Hid (Below w.heap.size w wr)) (fun t _ b _ => (intOf t).natAbs + mB b)
  case atStart => exact ⟨n, [], true, rfl, rfl, rfl, ⟨h0, h1⟩, by show _ = _; simp, Below.refl _ _⟩
  case round =>
    obtain ⟨x, l, B, rfl, rfl, rfl, hx, hg, hb⟩ := hrel
    cases B
    · have HG := Lib.hid (show Lib.itoa n = l by rw [hg.out]; rfl)
      clear hg
      go_wp2_with fail
      go_ret
      exact ⟨by show Ending.returned (.string _) = _; rw [HG.out], hb.out⟩
    · have HG := Lib.hid (show Lib.itoa n = Lib.itoa x ++ l by rw [hg.out]; rfl)
      have hll : l.length ≤ 21 := by have h2 := HL.out; rw [HG.out, List.length_append] at h2; omega
      obtain ⟨d, q, hd, hq, d0, d1, dn, qd, qb, xd, ms, tn⟩ := dig_facts x hx.out.1 hx.out.2
      have HS := Lib.hid (fun h : q ≠ 0 => itoa_step x (by rw [hq]; exact h))
      have HE := Lib.hid (fun h : q = 0 => itoa_end x (by rw [hq]; exact h))
      rw [hq] at HS
      have TN := Lib.hid tn
      have QB := Lib.hid qb
      have MS := Lib.hid ms
      obtain ⟨D, hD⟩ : ∃ D, D = dgt x := ⟨_, rfl⟩
      rw [← hD] at HS HE TN
      have a1 : ∀ b : List UInt8, (⟨#[D]⟩ : ByteArray) ++ ⟨b.toArray⟩ = ⟨(D :: b).toArray⟩ := app_one D
      have a2 : ∀ b : List UInt8, (⟨#[45]⟩ : ByteArray) ++ ⟨b.toArray⟩ = ⟨(45 :: b).toArray⟩ := app_one 45
      clear hg tn qb ms hD
      have qb1 := QB.out.1
      have qb2 := QB.out.2
      by_cases c2 : q = 0
      · have e2 : (q == 0) = true := by simp [c2]
        have e3 : (q != 0) = false := by simp [c2]
        have hdx := qd c2
        have HIT := Lib.hid (HE.out c2)
        have HQ := Lib.hid c2
        clear c2
        by_cases c1 : d < 0
        · have e1 : decide (d < 0) = true := by simp [c1]
          have HF := Lib.hid (show Lib.itoa n = 45 :: D :: l by rw [HG.out, HIT.out, if_pos (by omega)]; rfl)
          have cv := conv_one wr (48 - d) D (by have := TN.out; omega)
          have BA := Lib.hid (hb.out.alloc hb.out.size (.cells #[.int .u8 (48 - d)] 5))
          clear dn qd xd hdx
          go_wp2_with fail
          go_roundw
          case rel => exact ⟨q, 45 :: D :: l, false, by go_num, rfl, rfl, QB.out, HF.out, BA.out⟩
          case measure => have := HQ.out; simp [intOf, mB, this]
        · have e1 : decide (d < 0) = false := by simp; omega
          have e4 : decide (x < 0) = false := by simp; omega
          have HF := Lib.hid (show Lib.itoa n = D :: l by rw [HG.out, HIT.out, if_neg (by omega)]; rfl)
          have cv := conv_one wr (48 + d) D (by have := TN.out; omega)
          have BA := Lib.hid (hb.out.alloc hb.out.size (.cells #[.int .u8 (48 + d)] 5))
          clear dn qd xd hdx
          go_wp2_with fail
          go_roundw
          case rel => exact ⟨q, D :: l, false, by go_num, rfl, rfl, QB.out, HF.out, BA.out⟩
          case measure => have := HQ.out; simp [intOf, mB, this]
      · have e2 : (q == 0) = false := by simp [c2]
        have e3 : (q != 0) = true := by simp [c2]
        have HF := Lib.hid (show Lib.itoa n = Lib.itoa q ++ (D :: l) by rw [HG.out, HS.out c2]; simp)
        have HM := Lib.hid (MS.out c2)
        by_cases c1 : d < 0
        · have e1 : decide (d < 0) = true := by simp [c1]
          have cv := conv_one wr (48 - d) D (by have := TN.out; omega)
          have BA := Lib.hid (hb.out.alloc hb.out.size (.cells #[.int .u8 (48 - d)] 5))
          clear dn qd xd
          go_wp2_with fail
          go_roundw
          case rel => exact ⟨q, D :: l, true, by go_num, rfl, rfl, QB.out, HF.out, BA.out⟩
          case measure => have := HM.out; simp [intOf, mB]; omega
        · have e1 : decide (d < 0) = false := by simp; omega
          have cv := conv_one wr (48 + d) D (by have := TN.out; omega)
          have BA := Lib.hid (hb.out.alloc hb.out.size (.cells #[.int .u8 (48 + d)] 5))
          clear dn qd xd
          by_cases c3 : x < 0
          · have e4 : decide (x < 0) = true := by simp [c3]
            go_wp2_with fail
            go_roundw
            case rel => exact ⟨q, D :: l, true, by go_num, rfl, rfl, QB.out, HF.out, BA.out⟩
            case measure => have := HM.out; simp [intOf, mB]; omega
          · have e4 : decide (x < 0) = false := by simp; omega
            go_wp2_with fail
            go_roundw
            case rel => exact ⟨q, D :: l, true, by go_num, rfl, rfl, QB.out, HF.out, BA.out⟩
            case measure => have := HM.out; simp [intOf, mB]; omega
end Go.Proofs.YtjjgigoehgabkaaDoor
