/- Mark: the reference's, the program's, the law. -/
import Derived.Test.YtjjgigoehgabkaaDoorRows
import Derived.Test.YtjjgigoehgabkaaDoorMA
import Derived.WalkKit
import Derived.WalkSpells
import Derived.WalkLawsBesides
import Derived.ProofKit
import Derived.Below
import Derived.Lib.Hide
import Derived.WalkSmall
import Derived.Laws.Strings










namespace Go.Proofs.YtjjgigoehgabkaaDoor
open Go.RowKit
set_option linter.unusedVariables false

/-- the number behind the first k bytes -/
def markN (s : ByteArray) : Nat → Int
  | 0 => 7
  | k + 1 => (markN s k * 263 + ((s[k]?.getD 0).toNat : Int) + 1) % 1000003
theorem markN_range (s : ByteArray) : ∀ k, 0 ≤ markN s k ∧ markN s k < 1000003
  | 0 => by simp [markN]
  | k + 1 => by rw [markN]; omega
theorem byte_at (s : ByteArray) (k : Nat) (h : k < s.size) : (s[k]?.getD 0).toNat = s[k].toNat := by
  rw [getElem?_pos s k h]; rfl

set_option maxHeartbeats 1600000 in
theorem specMark_any (s : ByteArray) (w : World) (hs : s.size ≤ 1073741824) : Calls Tryd.prog 28 #[.string s] w fun e w' => e = .returned (.int .i64 (markN s s.size)) ∧ Below w.heap.size w w' := by
  obtain ⟨R, hR⟩ : ∃ R, R = markN s s.size := ⟨_, rfl⟩
  rw [← hR]
  have HR := Lib.hid hR
  clear hR
  obtain ⟨n, hn⟩ : ∃ n, n = s.size := ⟨_, rfl⟩
  have HN := Lib.hid hn
  go_enter Tryd.func28, Tryd.ntmps28
  go_wp2
  go_loop [3, 4] (fun m i => ∃ k : Nat, k ≤ n ∧ i = .int .i64 k ∧ m = .int .i64 (markN s k)) (fun _ i => n - (intOf i).toNat)
  case atStart => exact ⟨0, Nat.zero_le _, rfl, rfl⟩
  case round =>
    obtain ⟨k, hk, rfl, rfl⟩ := hrel
    by_cases hlt : k < s.size
    · have hm := markN_range s k
      have hst : markN s (k + 1) = (markN s k * 263 + (s[k].toNat : Int) + 1) % 1000003 := by rw [markN, byte_at s k hlt]
      have hb : s[k].toNat < 256 := s[k].toNat_lt
      have HST := Lib.hid hst
      clear hst
      go_wp2
      refine ⟨⟨k + 1, by omega, by simp, by rw [HST.out]⟩, ?_⟩
      simp [intOf]
      omega
    · have hk2 : s.size = k := by omega
      have HRR := Lib.hid (show R = markN s k by rw [HR.out, hk2])
      go_wp2
      go_ret
      exact ⟨ret_int HRR.out.symm, Below.refl _ _⟩
set_option maxHeartbeats 1600000 in
theorem implMark_any (s : ByteArray) (w : World) (hs : s.size ≤ 1073741824) : Calls Tryd.prog 35 #[.string s] w fun e w' => e = .returned (.int .i64 (markN s s.size)) ∧ Below w.heap.size w w' := by
  obtain ⟨R, hR⟩ : ∃ R, R = markN s s.size := ⟨_, rfl⟩
  rw [← hR]
  have HR := Lib.hid hR
  clear hR
  obtain ⟨n, hn⟩ : ∃ n, n = s.size := ⟨_, rfl⟩
  have HN := Lib.hid hn
  go_enter Tryd.func35, Tryd.ntmps35
  go_wp2
  go_loop [3, 7] (fun m i => ∃ k : Nat, k ≤ n ∧ i = .int .i64 k ∧ m = .int .i64 (markN s k)) (fun _ i => n - (intOf i).toNat)
  case atStart => exact ⟨0, Nat.zero_le _, rfl, rfl⟩
  case round =>
    obtain ⟨k, hk, rfl, rfl⟩ := hrel
    by_cases hlt : k < s.size
    · have hm := markN_range s k
      have hst : markN s (k + 1) = (markN s k * 263 + (s[k].toNat : Int) + 1) % 1000003 := by rw [markN, byte_at s k hlt]
      have hb : s[k].toNat < 256 := s[k].toNat_lt
      have HST := Lib.hid hst
      clear hst
      go_wp2
      refine ⟨⟨k + 1, by omega, by simp, by rw [HST.out]⟩, ?_⟩
      simp [intOf]
      omega
    · have hk2 : s.size = k := by omega
      have HRR := Lib.hid (show R = markN s k by rw [HR.out, hk2])
      go_wp2
      go_ret
      exact ⟨ret_int HRR.out.symm, Below.refl _ _⟩
end Go.Proofs.YtjjgigoehgabkaaDoor
