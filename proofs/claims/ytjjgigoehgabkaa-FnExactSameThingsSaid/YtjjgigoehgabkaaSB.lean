/- Lists of things: their size; like lists are told alike. -/
import Derived.Test.YtjjgigoehgabkaaSA
import Derived.Deep.DeepCutAuto
namespace Go.Proofs.Ytjjgigoehgabkaa
open Go.RowKit
set_option linter.unusedVariables false
set_option linter.unusedSimpArgs false

def SmallT (ts : List ThingT) : Prop := ts.length ≤ 1048576 ∧ ∀ t ∈ ts, t.a.items.length ≤ 1048576
theorem tdrop {ts : List ThingT} {k : Nat} (h : k < ts.length) : ts.drop k = ts.getD k tt0 :: ts.drop (k + 1) := by
  rw [List.drop_eq_getElem_cons h]
  simp [List.getD, h]
set_option maxRecDepth 100000 in
set_option maxHeartbeats 6400000 in
theorem szTS_some (b off cap len : Nat) (left : Int) (ts : List ThingT) (w : World) (h1 : ts.length = len) (hl : len ≤ 9223372036854775807) (hb : b < w.heap.size) (hr : ∀ t ∈ ts, Ints w t.v t.a.items) (hc : ∀ i, i < len → ThingAt w b (off + i * 6) (ts.getD i tt0)) (h0 : 0 ≤ left) (hf : left ≤ 1048576) :
    Calls Try.prog 54 #[.slice (some ⟨b, off, none⟩) len cap, .int .i64 left] w fun e w' => ∃ r, e = .returned (.int .i64 r) ∧ r ≤ 1048576 ∧ (0 ≤ r → SmallT ts) ∧ Below w.heap.size w w' := by
  have N1 := Lib.hid h1
  have HC := Lib.hid hc
  have HRd := Lib.hid hr
  have b00 := Lib.hid hb
  have B00 := Lib.hid (Below.refl w.heap.size w)
  clear h1 hc hr hb
  by_cases hd : left - (len : Int) < 0
  · have kk : decide (left - (len : Int) < 0) = true := by simpa using hd
    go_enter Try.func54, Try.ntmps54
    go_wp2
    go_ret
    exact ⟨-1, rfl, by omega, by omega, B00.out⟩
  have kk : decide (left - (len : Int) < 0) = false := by simpa using hd
  have HLN : Hid (len ≤ 1048576) := by show _ ≤ _; omega
  go_enter Try.func54, Try.ntmps54
  go_wp2_with fail
  go_loopw [1, 5] (fun lf i wr => ∃ (k : Nat) (lv : Int), k ≤ len ∧ lf = .int .i64 lv ∧ i = .int .i64 k ∧ 0 ≤ lv ∧ lv ≤ 1048576 ∧ Hid (∀ j, j < k → (ts.getD j tt0).a.items.length ≤ 1048576) ∧ Hid (Below w.heap.size w wr)) (fun _ i _ => len - (intOf i).toNat)
  case atStart => exact ⟨0, _, Nat.zero_le _, rfl, rfl, by omega, by omega, (fun j hj => by omega), B00.out⟩
  case round =>
    obtain ⟨k, lv, hk, rfl, rfl, hv0, hv1, hall, hbel⟩ := hrel
    have BW := hbel
    clear hbel B00 hd kk
    by_cases hlt : k < len
    · have hlt2 : k < ts.length := by rw [N1.out]; exact hlt
      have hm := tgetD_mem hlt2
      have AT := Lib.hid ((HC.out k hlt).below BW.out b00.out)
      have HI := Lib.hid (HRd.out _ hm)
      have HMX := Lib.hid (ints_max HI.out)
      have HAL := Lib.hid (fun (hh : (ts.getD k tt0).a.items.length ≤ 1048576) => (show ∀ j, j < k + 1 → (ts.getD j tt0).a.items.length ≤ 1048576 from fun j hj => by
        by_cases e : j = k
        · subst e; exact hh
        · exact hall.out j (by omega)))
      obtain ⟨t, htt⟩ : ∃ t, t = ts.getD k tt0 := ⟨_, rfl⟩
      rw [← htt] at AT HI HMX HAL
      clear htt hm
      obtain ⟨⟨bu, ke, ha, re, co, items⟩, tv⟩ := t
      have hsi := ints_len HI.out
      simp only at hsi
      obtain ⟨ia, ic, rfl⟩ := hsi
      try simp only [ThingT.val] at ⊢
      obtain ⟨il, hil⟩ : ∃ x, x = items.length := ⟨_, rfl⟩
      try rw [← hil] at HI
      try rw [← hil] at AT
      try rw [← hil] at HMX
      try rw [← hil] at HAL
      have HIL := Lib.hid hil
      clear hil
      try simp only at HAL
      skip
      have c0 := AT.out.c0
      have c1 := AT.out.c1
      have c2 := AT.out.c2
      have c3 := AT.out.c3
      have c4 := AT.out.c4
      have c5 := AT.out.c5
      simp only at c0 c1 c2 c3 c4 c5
      have i0 : (0 : Int) ≤ (k : Int) := by omega
      have i1 : (k : Int) < (len : Int) := by omega
      clear AT
      have SZ := Lib.hid (fun W => szT_any bu ke re co ha ia il ic lv W hv0 hv1 (by have := HMX.out; omega))
      go_wp2_with fail
      refine (SZ.out _).mono ?_
      rintro e w2 ⟨rfl, b2⟩
      have B2 := Lib.hid (BW.out.trans (b2.mono BW.out.size))
      clear b2 SZ
      clear c0 c1 c2 c3 c4 c5
      by_cases hd : lv - (il : Int) < 0
      · rw [if_pos hd]
        go_wp2_with fail
        go_ret
        exact ⟨-1, rfl, by omega, by omega, B2.out⟩
      rw [if_neg hd]
      have kk : decide (lv - (il : Int) < 0) = false := by simpa using hd
      have HAL2 := Lib.hid (HAL.out (by omega))
      go_wp2_with fail
      go_roundw
      case rel => exact ⟨k + 1, _, by omega, rfl, by go_num, by omega, by omega, HAL2.out, B2.out⟩
      case measure => simp [intOf]; omega
    · have HS := Lib.hid (show SmallT ts from ⟨by rw [N1.out]; exact HLN.out, fun t ht => by
        obtain ⟨i, hi, rfl⟩ := List.mem_iff_getElem.1 ht
        have := hall.out i (by rw [N1.out] at hi; omega)
        simpa [List.getD, hi] using this⟩)
      go_wp2_with fail
      go_ret
      exact ⟨lv, rfl, by omega, fun _ => HS.out, BW.out⟩
theorem szTS_any (v : Value) (ts : List ThingT) (left : Int) (w : World) (h : ThingsT w v ts) (h0 : 0 ≤ left) (hf : left ≤ 1048576) :
    Calls Try.prog 54 #[v, .int .i64 left] w fun e w' => ∃ r, e = .returned (.int .i64 r) ∧ r ≤ 1048576 ∧ (0 ≤ r → SmallT ts) ∧ Below w.heap.size w w' := by
  have hm := things_max h
  rcases h.2 with ⟨a, cap, rfl, rfl⟩ | ⟨b, off, cap, rfl, q1, q2, q3, q4⟩
  · have kk : decide (left < 0) = false := by simpa using h0
    go_enter Try.func54, Try.ntmps54
    go_wp2_with fail
    go_loop [1, 5] (fun lf i => lf = .int .i64 left ∧ i = .int .i64 0) (fun _ _ => 0)
    case atStart => exact ⟨by simp, rfl⟩
    case round =>
      obtain ⟨rfl, rfl⟩ := hrel
      go_wp2
      go_ret
      exact ⟨left, rfl, hf, fun _ => ⟨by simp, fun t ht => by cases ht⟩, Below.refl _ _⟩
  · exact szTS_some b off cap _ left ts w rfl hm q1 h.1 q4 h0 hf
end Go.Proofs.Ytjjgigoehgabkaa
