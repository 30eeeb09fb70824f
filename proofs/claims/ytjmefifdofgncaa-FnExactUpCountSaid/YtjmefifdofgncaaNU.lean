/- UpCount: the reference's, the program's, the law. -/
import Derived.Test.YtjmefifdofgncaaNE
namespace Go.Proofs.Ytjmefifdofgncaa
open Go.RowKit
set_option linter.unusedVariables false

/-- how many ups there are -/
def upsN : List ActM → Nat
  | [] => 0
  | a :: l => a.ups.length + upsN l
theorem upsN_app (l m : List ActM) : upsN (l ++ m) = upsN l + upsN m := by
  induction l with
  | nil => simp [upsN]
  | cons a l ih => simp [upsN, ih]; omega
theorem upsN_tot (l : List ActM) : upsN l ≤ totM l := by
  induction l with
  | nil => simp [upsN]
  | cons a l ih => simp [upsN, totM]; omega
theorem upsN_take (ts : List ActT) (k : Nat) (h : k < ts.length) : upsN ((ts.map ActT.a).take (k + 1)) = upsN ((ts.map ActT.a).take k) + (ts.getD k t0).a.ups.length := by
  rw [List.take_add_one, upsN_app]
  simp [List.getD, h, upsN]
theorem upsN_le (l : List ActM) (k : Nat) : upsN (l.take k) ≤ upsN l := by
  have := upsN_app (l.take k) (l.drop k)
  rw [List.take_append_drop] at this
  omega

set_option maxHeartbeats 1600000 in
theorem specUpCount_some (b off cap len : Nat) (ts : List ActT) (w : World) (h1 : ts.length = len) (hl : len ≤ 1048576) (hu : upsN (ts.map ActT.a) ≤ 1048576) (hr : ∀ t ∈ ts, t.Reads w) (hc : ∀ i, i < len → ActAt w b (off + i * 11) (ts.getD i t0)) :
    Calls Try.prog 61 #[.slice (some ⟨b, off, none⟩) len cap] w fun e w' => e = .returned (.int .i64 (upsN (ts.map ActT.a))) ∧ Below w.heap.size w w' := by
  obtain ⟨R, hR⟩ : ∃ R, R = upsN (ts.map ActT.a) := ⟨_, rfl⟩
  rw [← hR] at hu ⊢
  have HR := Lib.hid hR
  have N1 := Lib.hid h1
  have HC := Lib.hid hc
  have HRd := Lib.hid hr
  clear hR h1 hc hr
  go_enter Try.func61, Try.ntmps61
  go_wp2
  go_loop [3, 4] (fun m i => ∃ k s : Nat, k ≤ len ∧ i = .int .i64 k ∧ m = .int .i64 s ∧ s ≤ R ∧ Hid (s = upsN ((ts.map ActT.a).take k))) (fun _ i => len - (intOf i).toNat)
  case atStart => exact ⟨0, 0, Nat.zero_le _, rfl, rfl, Nat.zero_le _, rfl⟩
  case round =>
    obtain ⟨k, s, hk, rfl, rfl, hs, hg⟩ := hrel
    by_cases hlt : k < len
    · have hlt2 : k < ts.length := by rw [N1.out]; exact hlt
      have c10 := (HC.out k hlt).c10
      have hst := upsN_take ts k hlt2
      have hsu := ups_len (HRd.out _ (getD_mem hlt2)).2
      have hle := upsN_le (ts.map ActT.a) (k + 1)
      rw [← HR.out] at hle
      obtain ⟨ua, uc, hvs⟩ := hsu
      rw [hvs] at c10
      rw [← hg.out] at hst
      obtain ⟨x, hx⟩ : ∃ x, x = (ts.getD k t0).a.ups.length := ⟨_, rfl⟩
      rw [← hx] at c10 hst
      have hsx : s + x ≤ R := by omega
      have HST := Lib.hid hst
      clear hst hle hvs hx hg
      go_wp2
      refine ⟨⟨k + 1, s + x, by omega, by simp, by simp, hsx, HST.out.symm⟩, ?_⟩
      simp [intOf]
      omega
    · have hkl : k = len := by omega
      have HRR := Lib.hid (show R = s by rw [hg.out, HR.out, hkl, ← N1.out, List.take_of_length_le (by simp)])
      go_wp2
      go_ret
      exact ⟨ret_int (by rw [HRR.out]), Below.refl _ _⟩

set_option maxHeartbeats 1600000 in
theorem implUpCount_some (b off cap len : Nat) (ts : List ActT) (w : World) (h1 : ts.length = len) (hl : len ≤ 1048576) (hu : upsN (ts.map ActT.a) ≤ 1048576) (hb : b < w.heap.size) (hr : ∀ t ∈ ts, t.Reads w) (hc : ∀ i, i < len → ActAt w b (off + i * 11) (ts.getD i t0)) :
    Calls Try.prog 62 #[.slice (some ⟨b, off, none⟩) len cap] w fun e w' => e = .returned (.int .i64 (upsN (ts.map ActT.a))) ∧ Below w.heap.size w w' := by
  obtain ⟨R, hR⟩ : ∃ R, R = upsN (ts.map ActT.a) := ⟨_, rfl⟩
  rw [← hR] at hu ⊢
  have HR := Lib.hid hR
  have N1 := Lib.hid h1
  have HC := Lib.hid hc
  have HRd := Lib.hid hr
  clear hR h1 hc hr
  go_enter Try.func62, Try.ntmps62
  go_wp2
  go_loopw [3, 8] (fun m i wr => ∃ k s : Nat, k ≤ len ∧ i = .int .i64 k ∧ m = .int .i64 s ∧ s ≤ R ∧ Hid (s = upsN ((ts.map ActT.a).take k)) ∧ Hid (Below w.heap.size w wr)) (fun _ i _ => len - (intOf i).toNat)
  case atStart => exact ⟨0, 0, Nat.zero_le _, rfl, rfl, Nat.zero_le _, rfl, Below.refl _ _⟩
  case round =>
    obtain ⟨k, s, hk, rfl, rfl, hs, hg, hbel⟩ := hrel
    by_cases hlt : k < len
    · have hlt2 : k < ts.length := by rw [N1.out]; exact hlt
      have AT := (HC.out k hlt).below hbel.out hb
      have hst := upsN_take ts k hlt2
      have HT := HRd.out _ (getD_mem hlt2)
      have hsd := ints_len HT.1
      have hsu := ups_len HT.2
      have hle := upsN_le (ts.map ActT.a) (k + 1)
      rw [← HR.out] at hle
      rw [← hg.out] at hst
      obtain ⟨t, htt⟩ : ∃ t, t = ts.getD k t0 := ⟨_, rfl⟩
      rw [← htt] at AT hst hsd hsu
      clear htt HT
      obtain ⟨⟨r, nn, dep, actor, kind, dst, bucket, mask, gr, gn, ups⟩, vd, vs⟩ := t
      simp only at hsd hsu hst
      obtain ⟨da, dc, rfl⟩ := hsd
      obtain ⟨ua, uc, rfl⟩ := hsu
      have c0 := AT.c0
      have c1 := AT.c1
      have c2 := AT.c2
      have c3 := AT.c3
      have c4 := AT.c4
      have c5 := AT.c5
      have c6 := AT.c6
      have c7 := AT.c7
      have c8 := AT.c8
      have c9 := AT.c9
      have c10 := AT.c10
      simp only at c0 c1 c2 c3 c4 c5 c6 c7 c8 c9 c10
      obtain ⟨x, hx⟩ : ∃ x, x = ups.length := ⟨_, rfl⟩
      rw [← hx] at c10 hst
      have hsx : s + x ≤ R := by omega
      have HST := Lib.hid hst
      clear hst hle hg AT hx
      go_wp2
      refine ⟨⟨k + 1, s + x, by omega, by simp, by simp, hsx, HST.out.symm, hbel.out.alloc hbel.out.size _⟩, ?_⟩
      simp [intOf]
      omega
    · have hkl : k = len := by omega
      have HRR := Lib.hid (show R = s by rw [hg.out, HR.out, hkl, ← N1.out, List.take_of_length_le (by simp)])
      go_wp2
      go_ret
      exact ⟨ret_int (by rw [HRR.out]), hbel.out⟩

theorem specUpCount_any (v : Value) (l : List ActM) (w : World) (h : Acts w v l) (hl : l.length ≤ 1048576) (hu : upsN l ≤ 1048576) :
    Calls Try.prog 61 #[v] w fun e w' => e = .returned (.int .i64 (upsN l)) ∧ Below w.heap.size w w' := by
  obtain ⟨ts, rfl, ht⟩ := h
  rcases ht.2 with ⟨a, cap, rfl, rfl⟩ | ⟨b, off, cap, rfl, q1, q2, q3, q4⟩
  · go_enter Try.func61, Try.ntmps61
    go_wp2
    go_loop [3, 4] (fun m i => i = .int .i64 0 ∧ m = .int .i64 0) (fun _ _ => 0)
    case atStart => exact ⟨rfl, rfl⟩
    case round =>
      obtain ⟨rfl, rfl⟩ := hrel
      go_wp2
      go_ret
      exact ⟨rfl, Below.refl _ _⟩
  · exact specUpCount_some b off cap _ ts w rfl (by simpa using hl) hu ht.1 q4
theorem implUpCount_any (v : Value) (l : List ActM) (w : World) (h : Acts w v l) (hl : l.length ≤ 1048576) (hu : upsN l ≤ 1048576) :
    Calls Try.prog 62 #[v] w fun e w' => e = .returned (.int .i64 (upsN l)) ∧ Below w.heap.size w w' := by
  obtain ⟨ts, rfl, ht⟩ := h
  rcases ht.2 with ⟨a, cap, rfl, rfl⟩ | ⟨b, off, cap, rfl, q1, q2, q3, q4⟩
  · go_enter Try.func62, Try.ntmps62
    go_wp2
    go_loop [3, 8] (fun m i => i = .int .i64 0 ∧ m = .int .i64 0) (fun _ _ => 0)
    case atStart => exact ⟨rfl, rfl⟩
    case round =>
      obtain ⟨rfl, rfl⟩ := hrel
      go_wp2
      go_ret
      exact ⟨rfl, Below.refl _ _⟩
  · exact implUpCount_some b off cap _ ts w rfl (by simpa using hl) hu q1 ht.1 q4

set_option maxRecDepth 100000 in
set_option maxHeartbeats 3200000 in
theorem law_upCount (v : Value) (l : List ActM) (w : World) (h : Acts w v l) :
    Calls Try.prog 14 #[v] w fun e w' => e = .returned (.bool true) ∧ Below w.heap.size w w' := by
  have HA := Lib.hid h
  have hsh := acts_len h
  obtain ⟨va, vc, rfl⟩ := hsh
  obtain ⟨K, hK⟩ : ∃ K, K = l.length := ⟨_, rfl⟩
  rw [← hK] at HA ⊢
  clear h hK
  go_enter Try.func14, Try.ntmps14
  go_wp2_with fail
  refine (szActS_any _ l 1048576 _ HA.out (by omega) (by omega)).mono ?_
  rintro e w1 ⟨r, rfl, r0, r1, rs, b1⟩
  have B1 := Lib.hid b1
  have RS := Lib.hid rs
  clear b1 rs
  by_cases hr : r < 0
  · go_wp2_with fail
    go_ret
    exact ⟨rfl, B1.out⟩
  · have SM := Lib.hid (RS.out (by omega)).1
    have htl := (RS.out (by omega)).2
    have hun := upsN_tot l
    have HU := Lib.hid (show upsN l ≤ 1048576 by omega)
    have A1 := Lib.hid (HA.out.below B1.out)
    clear htl hun
    obtain ⟨X, hX⟩ : ∃ X, X = upsN l := ⟨_, rfl⟩
    have CS := Lib.hid (fun W u (h : Acts W u l) => specUpCount_any u l W h SM.out.1 HU.out)
    have CI := Lib.hid (fun W u (h : Acts W u l) => implUpCount_any u l W h SM.out.1 HU.out)
    simp only [← hX] at CS CI
    clear hX
    go_wp2_with fail
    refine ((toActS_any _ l _ A1.out SM.out).mono (R' := fun e w' => ∃ v, e = .returned v ∧ Acts w' v l ∧ Below w1.heap.size w1 w') (fun e w' h => toMade_acts h)).mono ?_
    rintro e w2 ⟨v2, rfl, m2, b2⟩
    obtain ⟨a2, c2, rfl⟩ := acts_len m2
    have M2 := Lib.hid m2
    have A2 := Lib.hid (A1.out.below b2)
    have B2 := Lib.hid (B1.out.trans (b2.mono B1.out.size))
    clear m2 b2 A1 B1
    go_wp2_with fail
    refine (CS.out _ _ M2.out).mono ?_
    rintro e w3 ⟨rfl, b3⟩
    have A3 := Lib.hid (A2.out.below b3)
    have B3 := Lib.hid (B2.out.trans (b3.mono B2.out.size))
    clear b3 A2 B2 M2
    go_wp2_with fail
    refine ((toActS_any _ l _ A3.out SM.out).mono (R' := fun e w' => ∃ v, e = .returned v ∧ Acts w' v l ∧ Below w3.heap.size w3 w') (fun e w' h => toMade_acts h)).mono ?_
    rintro e w4 ⟨v4, rfl, m4, b4⟩
    obtain ⟨a4, c4, rfl⟩ := acts_len m4
    have M4 := Lib.hid m4
    have A4 := Lib.hid (A3.out.below b4)
    have B4 := Lib.hid (B3.out.trans (b4.mono B3.out.size))
    clear m4 b4 A3 B3
    go_wp2_with fail
    refine (CI.out _ _ M4.out).mono ?_
    rintro e w5 ⟨rfl, b5⟩
    have A5 := Lib.hid (A4.out.below b5)
    have M5 := Lib.hid (M4.out.below b5)
    have B5 := Lib.hid (B4.out.trans (b5.mono B4.out.size))
    clear b5 A4 B4 M4
    go_wp2_with fail
    refine ((toActS_any _ l _ A5.out SM.out).mono (R' := fun e w' => ∃ v, e = .returned v ∧ Acts w' v l ∧ Below w5.heap.size w5 w') (fun e w' h => toMade_acts h)).mono ?_
    rintro e w6 ⟨v6, rfl, m6, b6⟩
    obtain ⟨a6, c6, rfl⟩ := acts_len m6
    have M6 := Lib.hid m6
    have N6 := Lib.hid (M5.out.below b6)
    have B6 := Lib.hid (B5.out.trans (b6.mono B5.out.size))
    clear m6 b6 A5 B5 M5
    go_wp2_with fail
    refine (eqActS_any _ _ l _ N6.out M6.out).mono ?_
    rintro e w7 ⟨rfl, b7⟩
    have B7 := Lib.hid (B6.out.trans (b7.mono B6.out.size))
    clear b7
    go_wp2_with fail
    go_ret
    exact ⟨rfl, B7.out⟩
end Go.Proofs.Ytjmefifdofgncaa
