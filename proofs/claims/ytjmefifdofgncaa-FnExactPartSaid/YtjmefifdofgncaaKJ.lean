/- The reference's Part, Lacks. -/
import Derived.Test.YtjmefifdofgncaaKF
import Derived.Test.YtjmefifdofgncaaHG
namespace Go.Proofs.Ytjmefifdofgncaa
open Go.RowKit
set_option linter.unusedVariables false

set_option maxHeartbeats 800000 in
theorem l3part_nil (a va : Option Addr) (cap m vc : Nat) (bb : Bool) (w : World) : Calls Try.prog 95 #[.slice a 0 cap, .slice va m vc, .bool bb] w (OwnedL w []) := by
  go_enter Try.func95, Try.ntmps95
  go_wp2
  go_loop [7, 8] (fun v i => v = .slice none 0 0 ∧ i = .int .i64 0) (fun _ _ => 0)
  case atStart => exact ⟨rfl, rfl⟩
  case round =>
    obtain ⟨rfl, rfl⟩ := hrel
    go_wp2
    go_ret
    exact ⟨_, rfl, ownActs_nil w _, Below.refl _ _⟩
theorem l3part_any (v vv : Value) (l : List ActM) (xs : List Int) (bb : Bool) (w : World) (h : Acts w v l) (hv : Ints w vv xs) (hs : SmallL l) (h1 : 1 ≤ xs.length) (h4 : xs.length ≤ 4) (hr : ∀ a ∈ l, 0 ≤ a.r ∧ a.r < xs.length) :
    Calls Try.prog 95 #[v, vv, .bool bb] w (OwnedL w (partM l xs bb)) := by
  obtain ⟨ts, rfl, ht⟩ := h
  obtain ⟨s1, s2⟩ := hs
  rcases hv with ⟨a, cap, rfl, rfl⟩ | ⟨vb, vo, vc, rfl, k1, k2, k3, k4⟩
  · simp at h1
  rcases ht.2 with ⟨a, cap, rfl, rfl⟩ | ⟨b, off, cap, rfl, j1, j2, j3, j4⟩
  · exact l3part_nil _ _ _ _ _ _ w
  · exact l3part_some b off cap _ vb vo vc _ ts xs bb w rfl (by simpa using s1) j1 (fun t hh => s2 _ (List.mem_map_of_mem hh)) (fun t hh => ⟨ht.1 t hh, hr _ (List.mem_map_of_mem hh)⟩) j4 h4 k1 k4
theorem part_no (l : List ActM) (n : Int) (xs : List Int) (h : ¬ cutB l n xs = true) : partOfM l n xs = [] := if_neg h
theorem lacks_no (l : List ActM) (n : Int) (xs : List Int) (h : ¬ cutB l n xs = true) : lacksM l n xs = [] := if_neg h
theorem lacks_yes (l : List ActM) (n : Int) (xs : List Int) (h : cutB l n xs = true) : lacksM l n xs = partM l xs false := if_pos h
theorem part_yes (l : List ActM) (n : Int) (xs : List Int) (h : cutB l n xs = true) : partOfM l n xs = if setOkM (partM l xs true) n = true then partM l xs true else [] := if_pos h
set_option maxRecDepth 100000 in
set_option maxHeartbeats 1600000 in
theorem specPart_any (v vv : Value) (l : List ActM) (xs : List Int) (n : Int) (w : World) (h : Acts w v l) (hv : Ints w vv xs) (hn : I64 n) :
    Calls Try.prog 37 #[v, .int .i64 n, vv] w (SeesL w (partOfM l n xs)) := by
  obtain ⟨a, cap, rfl⟩ := acts_len h
  obtain ⟨va, vc, rfl⟩ := ints_len hv
  have CS := Lib.hid (fun W u (k : List ActM) (h : Acts W u k) => setOk_any u k n W h hn)
  have CL := Lib.hid (fun W u (h : Ints W u xs) => specOk_any u xs W h)
  have HA := Lib.hid h
  have HV := Lib.hid hv
  clear h hv
  obtain ⟨K, hK⟩ : ∃ K, K = l.length := ⟨_, rfl⟩
  rw [← hK] at HA ⊢
  clear hK
  by_cases hc : cutB l n xs = true
  · obtain ⟨hs, ho, hl⟩ := (cutB_iff l n xs).1 hc
    obtain ⟨h1, h4⟩ := okB_len4 ho
    obtain ⟨m, hm, m1, m4, _, hr⟩ := setOk_bounds hs
    have HSm := Lib.hid (smallL_ok hs)
    have HCL := Lib.hid (CS.out w _ l HA.out)
    rw [hs] at HCL
    have L3 := Lib.hid (fun W u k (h : Acts W u l) (hv : Ints W k xs) => l3part_any u k l xs true W h hv (smallL_ok hs) h1 h4 (fun a ha => ⟨(hr a ha).1, by have := (hr a ha).2; omega⟩))
    unfold OwnedL at L3
    have HC := Lib.hid hc
    obtain ⟨L, hL⟩ : ∃ L, L = xs.length := ⟨_, rfl⟩
    rw [← hL] at HV h1 h4 hl ⊢
    rw [ho] at CL
    clear hs ho hL hm hr hc
    subst hl
    go_enter Try.func37, Try.ntmps37
    go_wp2_with fail
    refine HCL.out.mono ?_
    rintro e w1 ⟨rfl, b1⟩
    have A1 := Lib.hid (HA.out.below b1)
    have V1 := Lib.hid (HV.out.below (B := 0) b1)
    have B1 := Lib.hid b1
    clear b1
    go_wp2_with fail
    refine (CL.out _ _ V1.out).mono ?_
    rintro e w2 ⟨rfl, rfl⟩
    go_wp2_with fail
    refine (L3.out _ _ _ A1.out V1.out).mono ?_
    rintro e w3 ⟨u, rfl, o3, b3⟩
    have o3 := ownActs_acts o3
    have B3 := Lib.hid (B1.out.trans (b3.mono B1.out.size))
    clear b3
    obtain ⟨ua, uc, rfl⟩ := acts_len o3
    obtain ⟨q, hq⟩ : ∃ q, q = (partM l xs true).length := ⟨_, rfl⟩
    rw [← hq] at o3 ⊢
    clear hq
    have O3 := Lib.hid o3
    have S3 := Lib.hid (CS.out _ _ _ o3)
    clear o3
    obtain ⟨T, hT⟩ : ∃ T, setOkM (partM l xs true) L = T := ⟨_, rfl⟩
    rw [hT] at S3
    have HT := Lib.hid hT
    clear hT
    cases T
    · go_wp2_with fail
      refine S3.out.mono ?_
      rintro e w4 ⟨rfl, b4⟩
      have B4 := Lib.hid (B3.out.trans (b4.mono B3.out.size))
      clear b4
      go_wp2
      go_ret
      exact ⟨_, rfl, by rw [part_yes l _ xs HC.out, HT.out]; exact acts_empty _ _ _, B4.out⟩
    · go_wp2_with fail
      refine S3.out.mono ?_
      rintro e w4 ⟨rfl, b4⟩
      have O4 := Lib.hid (O3.out.below b4)
      have B4 := Lib.hid (B3.out.trans (b4.mono B3.out.size))
      clear b4
      go_wp2
      go_ret
      exact ⟨_, rfl, by rw [part_yes l _ xs HC.out, HT.out]; exact O4.out, B4.out⟩
  · have hc' : setOkM l n = false ∨ (setOkM l n = true ∧ okB xs = false) ∨ (setOkM l n = true ∧ okB xs = true ∧ (xs.length : Int) ≠ n) := by
      rw [cutB_iff] at hc
      by_cases h1 : setOkM l n = true
      · by_cases h2 : okB xs = true
        · exact .inr (.inr ⟨h1, h2, fun h3 => hc ⟨h1, h2, h3⟩⟩)
        · exact .inr (.inl ⟨h1, by simpa using h2⟩)
      · exact .inl (by simpa using h1)
    have HCL := Lib.hid (CS.out w _ l HA.out)
    have HC := Lib.hid hc
    clear hc
    rcases hc' with hs | ⟨hs, ho⟩ | ⟨hs, ho, hl⟩
    · rw [hs] at HCL
      clear hs
      go_enter Try.func37, Try.ntmps37
      go_wp2_with fail
      refine HCL.out.mono ?_
      rintro e w1 ⟨rfl, b1⟩
      have B1 := Lib.hid b1
      clear b1
      go_wp2
      go_ret
      exact ⟨_, rfl, by rw [part_no l n xs HC.out]; exact acts_empty _ _ _, B1.out⟩
    · rw [hs] at HCL
      rw [ho] at CL
      clear hs ho
      go_enter Try.func37, Try.ntmps37
      go_wp2_with fail
      refine HCL.out.mono ?_
      rintro e w1 ⟨rfl, b1⟩
      have V1 := Lib.hid (HV.out.below (B := 0) b1)
      have B1 := Lib.hid b1
      clear b1
      go_wp2_with fail
      refine (CL.out _ _ V1.out).mono ?_
      rintro e w2 ⟨rfl, rfl⟩
      go_wp2
      go_ret
      exact ⟨_, rfl, by rw [part_no l n xs HC.out]; exact acts_empty _ _ _, B1.out⟩
    · rw [hs] at HCL
      rw [ho] at CL
      obtain ⟨L, hL⟩ : ∃ L, L = xs.length := ⟨_, rfl⟩
      rw [← hL] at HV hl ⊢
      have e1 : ((L : Int) == n) = false := by simpa using hl
      have e2 : ((L : Int) != n) = true := by simpa using hl
      clear hs ho hL hl
      go_enter Try.func37, Try.ntmps37
      go_wp2_with fail
      refine HCL.out.mono ?_
      rintro e w1 ⟨rfl, b1⟩
      have V1 := Lib.hid (HV.out.below (B := 0) b1)
      have B1 := Lib.hid b1
      clear b1
      go_wp2_with fail
      refine (CL.out _ _ V1.out).mono ?_
      rintro e w2 ⟨rfl, rfl⟩
      go_wp2
      go_ret
      exact ⟨_, rfl, by rw [part_no l n xs HC.out]; exact acts_empty _ _ _, B1.out⟩
set_option maxRecDepth 100000 in
set_option maxHeartbeats 1600000 in
theorem specLacks_any (v vv : Value) (l : List ActM) (xs : List Int) (n : Int) (w : World) (h : Acts w v l) (hv : Ints w vv xs) (hn : I64 n) :
    Calls Try.prog 40 #[v, .int .i64 n, vv] w (SeesL w (lacksM l n xs)) := by
  obtain ⟨a, cap, rfl⟩ := acts_len h
  obtain ⟨va, vc, rfl⟩ := ints_len hv
  have CS := Lib.hid (fun W u (k : List ActM) (h : Acts W u k) => setOk_any u k n W h hn)
  have CL := Lib.hid (fun W u (h : Ints W u xs) => specOk_any u xs W h)
  have HA := Lib.hid h
  have HV := Lib.hid hv
  clear h hv
  obtain ⟨K, hK⟩ : ∃ K, K = l.length := ⟨_, rfl⟩
  rw [← hK] at HA ⊢
  clear hK
  by_cases hc : cutB l n xs = true
  · obtain ⟨hs, ho, hl⟩ := (cutB_iff l n xs).1 hc
    obtain ⟨h1, h4⟩ := okB_len4 ho
    obtain ⟨m, hm, m1, m4, _, hr⟩ := setOk_bounds hs
    have HSm := Lib.hid (smallL_ok hs)
    have HCL := Lib.hid (CS.out w _ l HA.out)
    rw [hs] at HCL
    have L3 := Lib.hid (fun W u k (h : Acts W u l) (hv : Ints W k xs) => l3part_any u k l xs false W h hv (smallL_ok hs) h1 h4 (fun a ha => ⟨(hr a ha).1, by have := (hr a ha).2; omega⟩))
    unfold OwnedL at L3
    have HC := Lib.hid hc
    obtain ⟨L, hL⟩ : ∃ L, L = xs.length := ⟨_, rfl⟩
    rw [← hL] at HV h1 h4 hl ⊢
    rw [ho] at CL
    clear hs ho hL hm hr hc
    subst hl
    go_enter Try.func40, Try.ntmps40
    go_wp2_with fail
    refine HCL.out.mono ?_
    rintro e w1 ⟨rfl, b1⟩
    have A1 := Lib.hid (HA.out.below b1)
    have V1 := Lib.hid (HV.out.below (B := 0) b1)
    have B1 := Lib.hid b1
    clear b1
    go_wp2_with fail
    refine (CL.out _ _ V1.out).mono ?_
    rintro e w2 ⟨rfl, rfl⟩
    go_wp2_with fail
    refine (L3.out _ _ _ A1.out V1.out).mono ?_
    rintro e w3 ⟨u, rfl, o3, b3⟩
    have o3 := ownActs_acts o3
    have B3 := Lib.hid (B1.out.trans (b3.mono B1.out.size))
    clear b3
    have O3 := Lib.hid o3
    clear o3
    go_wp2
    go_ret
    exact ⟨_, rfl, by rw [lacks_yes l _ xs HC.out]; exact O3.out, B3.out⟩
  · have hc' : setOkM l n = false ∨ (setOkM l n = true ∧ okB xs = false) ∨ (setOkM l n = true ∧ okB xs = true ∧ (xs.length : Int) ≠ n) := by
      rw [cutB_iff] at hc
      by_cases h1 : setOkM l n = true
      · by_cases h2 : okB xs = true
        · exact .inr (.inr ⟨h1, h2, fun h3 => hc ⟨h1, h2, h3⟩⟩)
        · exact .inr (.inl ⟨h1, by simpa using h2⟩)
      · exact .inl (by simpa using h1)
    have HCL := Lib.hid (CS.out w _ l HA.out)
    have HC := Lib.hid hc
    clear hc
    rcases hc' with hs | ⟨hs, ho⟩ | ⟨hs, ho, hl⟩
    · rw [hs] at HCL
      clear hs
      go_enter Try.func40, Try.ntmps40
      go_wp2_with fail
      refine HCL.out.mono ?_
      rintro e w1 ⟨rfl, b1⟩
      have B1 := Lib.hid b1
      clear b1
      go_wp2
      go_ret
      exact ⟨_, rfl, by rw [lacks_no l n xs HC.out]; exact acts_empty _ _ _, B1.out⟩
    · rw [hs] at HCL
      rw [ho] at CL
      clear hs ho
      go_enter Try.func40, Try.ntmps40
      go_wp2_with fail
      refine HCL.out.mono ?_
      rintro e w1 ⟨rfl, b1⟩
      have V1 := Lib.hid (HV.out.below (B := 0) b1)
      have B1 := Lib.hid b1
      clear b1
      go_wp2_with fail
      refine (CL.out _ _ V1.out).mono ?_
      rintro e w2 ⟨rfl, rfl⟩
      go_wp2
      go_ret
      exact ⟨_, rfl, by rw [lacks_no l n xs HC.out]; exact acts_empty _ _ _, B1.out⟩
    · rw [hs] at HCL
      rw [ho] at CL
      obtain ⟨L, hL⟩ : ∃ L, L = xs.length := ⟨_, rfl⟩
      rw [← hL] at HV hl ⊢
      have e1 : ((L : Int) == n) = false := by simpa using hl
      have e2 : ((L : Int) != n) = true := by simpa using hl
      clear hs ho hL hl
      go_enter Try.func40, Try.ntmps40
      go_wp2_with fail
      refine HCL.out.mono ?_
      rintro e w1 ⟨rfl, b1⟩
      have V1 := Lib.hid (HV.out.below (B := 0) b1)
      have B1 := Lib.hid b1
      clear b1
      go_wp2_with fail
      refine (CL.out _ _ V1.out).mono ?_
      rintro e w2 ⟨rfl, rfl⟩
      go_wp2
      go_ret
      exact ⟨_, rfl, by rw [lacks_no l n xs HC.out]; exact acts_empty _ _ _, B1.out⟩
end Go.Proofs.Ytjmefifdofgncaa
