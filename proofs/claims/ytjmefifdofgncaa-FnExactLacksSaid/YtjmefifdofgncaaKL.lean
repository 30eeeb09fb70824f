/- The program's Part, Lacks. -/
import Derived.Test.YtjmefifdofgncaaKK
namespace Go.Proofs.Ytjmefifdofgncaa
open Go.RowKit
set_option linter.unusedVariables false

set_option maxRecDepth 100000 in
set_option maxHeartbeats 3200000 in
theorem implPart_any (v vv : Value) (l : List ActM) (xs : List Int) (n : Int) (w : World) (h : Acts w v l) (hv : Ints w vv xs) (hn : I64 n) :
    Calls Try.prog 39 #[v, .int .i64 n, vv] w (RetL w (partOfM l n xs)) := by
  obtain ⟨ts, rfl, ht⟩ := h
  obtain ⟨a, cap, rfl⟩ := actsT_len ht
  obtain ⟨va, vc, rfl⟩ := ints_len hv
  have RC := Lib.hid (readCut_any _ _ ts xs n w ht hv hn)
  unfold CutRead at RC
  simp only [setVal, noSet] at RC
  have HT := Lib.hid ht
  clear ht hv
  obtain ⟨K, hK⟩ : ∃ K, K = ts.length := ⟨_, rfl⟩
  obtain ⟨L, hL⟩ : ∃ L, L = xs.length := ⟨_, rfl⟩
  rw [← hK] at RC HT ⊢
  rw [← hL] at RC ⊢
  by_cases hc : cutB (ts.map ActT.a) n xs = true
  · rw [part_yes _ _ _ hc]
    obtain ⟨hs, ho, hl⟩ := (cutB_iff _ n xs).1 hc
    obtain ⟨m, hm, m1, m4, _, hr⟩ := setOk_bounds hs
    have hr4 : ∀ t ∈ ts, 0 ≤ t.a.r ∧ t.a.r < 4 := fun t ht => by
      have := hr _ (List.mem_map_of_mem ht)
      omega
    have FK := filt_knows ho ts hr4
    have HC := Lib.hid hc
    have CK := Lib.hid (show ∀ (S F mb : Nat) (W : World), ActsT W (.slice a K cap) ts → Blk W S [.slice a K cap, .map (some mb), .int .i64 n, .int .i64 (cntM (ts.map ActT.a) 0), .int .i64 (cntM (ts.map ActT.a) 1), .int .i64 (cntM (ts.map ActT.a) 2), .int .i64 (cntM (ts.map ActT.a) 3)] → Blk W F [.func (.func 138) #[.agg #[.int .i64 (cn xs), .int .i64 (cx xs 0), .int .i64 (cx xs 1), .int .i64 (cx xs 2), .int .i64 (cx xs 3)]] #[]] →
        Calls Try.prog 88 #[.func (.func 154) #[] #[.pointer (some ⟨S, 0, none⟩), .pointer (some ⟨F, 0, none⟩)]] W (RetL W (partM (ts.map ActT.a) xs true)) from fun S F mb W hA kS kF => by
      rw [← FK]
      exact copyKnown_any ts a K cap S F _ _ _ _ _ _ _ _ _ _ _ W hA (smallL_ok hs) hr4 kS kF)
    have SO := Lib.hid (fun W u (h : Acts W u (partM (ts.map ActT.a) xs true)) => setOnly_any u _ n W h hn)
    clear hs ho hl hm m1 m4 hr hr4 FK hc hK hL
    generalize (cntM (ts.map ActT.a) 0 : Int) = c0 at *
    generalize (cntM (ts.map ActT.a) 1 : Int) = c1 at *
    generalize (cntM (ts.map ActT.a) 2 : Int) = c2 at *
    generalize (cntM (ts.map ActT.a) 3 : Int) = c3 at *
    generalize cn xs = y at *
    generalize cx xs 0 = y0 at *
    generalize cx xs 1 = y1 at *
    generalize cx xs 2 = y2 at *
    generalize cx xs 3 = y3 at *
    generalize partM (ts.map ActT.a) xs true = P at *
    obtain ⟨RS, hRS⟩ : ∃ R, R = (if setOkM P n = true then P else []) := ⟨_, rfl⟩
    rw [← hRS]
    have HRS := Lib.hid hRS
    clear hRS
    go_enter Try.func39, Try.ntmps39
    go_wp2_with fail
    refine RC.out.mono ?_
    rintro e w1 ⟨b1, (⟨_, mb, rfl⟩ | ⟨hx, _⟩)⟩
    · have bz := (b1.alloc b1.size (.cells #[.slice a K cap, .map (some mb), .int .i64 n, .int .i64 c0, .int .i64 c1, .int .i64 c2, .int .i64 c3] 93)).alloc (by have := b1.size; simp; omega) (.cells #[.int .i64 y, .int .i64 y0, .int .i64 y1, .int .i64 y2, .int .i64 y3] 91)
      go_wp2_with fail
      obtain ⟨W1, hW1⟩ : ∃ W, W = (w1.alloc (.cells #[.slice a K cap, .map (some mb), .int .i64 n, .int .i64 c0, .int .i64 c1, .int .i64 c2, .int .i64 c3] 93)).alloc (.cells #[.int .i64 y, .int .i64 y0, .int .i64 y1, .int .i64 y2, .int .i64 y3] 91) := ⟨_, rfl⟩
      rw [← hW1] at bz ⊢
      have A1 := Lib.hid (HT.out.below bz)
      have B1 := Lib.hid bz
      clear hW1 bz b1
      refine (upTo_any _ _ _ _ _ _ _ _ _ _ _ _ _ _ _).mono ?_
      rintro e w2 ⟨S, F, rfl, hS, hF, kS, kF, b2⟩
      have A2 := Lib.hid (A1.out.below b2)
      have B2 := Lib.hid (B1.out.trans (b2.mono B1.out.size))
      have KS := Lib.hid kS
      have KF := Lib.hid kF
      clear b2 kS kF hS hF
      go_wp2_with fail
      refine (CK.out S F mb _ A2.out KS.out KF.out).mono ?_
      rintro e w3 ⟨u, bs, rfl, o3, g3, b3⟩
      have B3 := Lib.hid (B2.out.trans (b3.mono B2.out.size))
      have G3 := Lib.hid (fun b hb => Nat.le_trans B2.out.size (g3 b hb))
      have O3 := Lib.hid o3
      clear b3 g3 o3 A2 KS KF A1
      obtain ⟨ua, uc, rfl⟩ := acts_len O3.out.acts
      have SC := Lib.hid (SO.out _ _ O3.out.acts)
      obtain ⟨Z, hZ⟩ : ∃ Z, Z = P.length := ⟨_, rfl⟩
      rw [← hZ] at SC O3 ⊢
      clear hZ
      go_wp2_with fail
      refine SC.out.mono ?_
      rintro e w4 ⟨(⟨ht, rfl⟩ | ⟨ht, rfl⟩), b4⟩
      · have HRP := Lib.hid (show RS = P by rw [HRS.out, if_pos ht])
        have O4 := Lib.hid (O3.out.below b4)
        have B4 := Lib.hid (B3.out.trans (b4.mono B3.out.size))
        clear b4 ht
        go_wp2
        go_ret
        exact ⟨_, bs, rfl, by rw [HRP.out]; exact O4.out, G3.out, B4.out⟩
      · have HRP := Lib.hid (show RS = [] by rw [HRS.out, if_neg (by rw [ht]; decide)])
        have B4 := Lib.hid (B3.out.trans (b4.mono B3.out.size))
        clear b4 ht
        go_wp2
        go_ret
        exact ⟨_, [], rfl, .inl ⟨HRP.out, rfl, _, _, rfl⟩, (fun b hb => nomatch hb), B4.out⟩
    · rw [HC.out] at hx; cases hx
  · rw [part_no _ _ _ hc]
    have HC := Lib.hid hc
    clear hc hK hL
    go_enter Try.func39, Try.ntmps39
    go_wp2_with fail
    refine RC.out.mono ?_
    rintro e w1 ⟨b1, (⟨hx, _⟩ | ⟨_, rfl⟩)⟩
    · exact absurd hx HC.out
    · have B1 := Lib.hid ((b1.alloc b1.size (.cells #[.slice none 0 0, .map none, .int .i64 0, .int .i64 0, .int .i64 0, .int .i64 0, .int .i64 0] 93)).alloc (by have := b1.size; simp; omega) (.cells #[.int .i64 0, .int .i64 0, .int .i64 0, .int .i64 0, .int .i64 0] 91))
      clear b1
      go_wp2
      go_ret
      exact ⟨_, [], rfl, .inl ⟨rfl, rfl, _, _, rfl⟩, (fun b hb => nomatch hb), B1.out⟩

set_option maxRecDepth 100000 in
set_option maxHeartbeats 3200000 in
theorem implLacks_any (v vv : Value) (l : List ActM) (xs : List Int) (n : Int) (w : World) (h : Acts w v l) (hv : Ints w vv xs) (hn : I64 n) :
    Calls Try.prog 41 #[v, .int .i64 n, vv] w (RetL w (lacksM l n xs)) := by
  obtain ⟨ts, rfl, ht⟩ := h
  obtain ⟨a, cap, rfl⟩ := actsT_len ht
  obtain ⟨va, vc, rfl⟩ := ints_len hv
  have RC := Lib.hid (readCut_any _ _ ts xs n w ht hv hn)
  unfold CutRead at RC
  simp only [setVal, noSet] at RC
  have HT := Lib.hid ht
  clear ht hv
  obtain ⟨K, hK⟩ : ∃ K, K = ts.length := ⟨_, rfl⟩
  obtain ⟨L, hL⟩ : ∃ L, L = xs.length := ⟨_, rfl⟩
  rw [← hK] at RC HT ⊢
  rw [← hL] at RC ⊢
  by_cases hc : cutB (ts.map ActT.a) n xs = true
  · rw [lacks_yes _ _ _ hc]
    obtain ⟨hs, ho, hl⟩ := (cutB_iff _ n xs).1 hc
    obtain ⟨m, hm, m1, m4, _, hr⟩ := setOk_bounds hs
    have hr4 : ∀ t ∈ ts, 0 ≤ t.a.r ∧ t.a.r < 4 := fun t ht => by
      have := hr _ (List.mem_map_of_mem ht)
      omega
    have FK := filt_lacks ho ts hr4
    have HC := Lib.hid hc
    have CK := Lib.hid (show ∀ (S F C mb : Nat) (W : World), ActsT W (.slice a K cap) ts → Blk W S [.slice a K cap, .map (some mb), .int .i64 n, .int .i64 (cntM (ts.map ActT.a) 0), .int .i64 (cntM (ts.map ActT.a) 1), .int .i64 (cntM (ts.map ActT.a) 2), .int .i64 (cntM (ts.map ActT.a) 3)] → Blk W C [.int .i64 (cn xs), .int .i64 (cx xs 0), .int .i64 (cx xs 1), .int .i64 (cx xs 2), .int .i64 (cx xs 3)] → Blk W F [.func (.func 139) #[] #[.pointer (some ⟨C, 0, none⟩)]] →
        Calls Try.prog 88 #[.func (.func 154) #[] #[.pointer (some ⟨S, 0, none⟩), .pointer (some ⟨F, 0, none⟩)]] W (RetL W (partM (ts.map ActT.a) xs false)) from fun S F C mb W hA kS kC kF => by
      rw [← FK]
      exact copyBeyond_any ts a K cap S F C _ _ _ _ _ _ _ _ _ _ _ W hA (smallL_ok hs) hr4 kS kC kF)
    have SO := Lib.hid (fun W u (h : Acts W u (partM (ts.map ActT.a) xs false)) => setOnly_any u _ n W h hn)
    clear hs ho hl hm m1 m4 hr hr4 FK hc hK hL
    generalize (cntM (ts.map ActT.a) 0 : Int) = c0 at *
    generalize (cntM (ts.map ActT.a) 1 : Int) = c1 at *
    generalize (cntM (ts.map ActT.a) 2 : Int) = c2 at *
    generalize (cntM (ts.map ActT.a) 3 : Int) = c3 at *
    generalize cn xs = y at *
    generalize cx xs 0 = y0 at *
    generalize cx xs 1 = y1 at *
    generalize cx xs 2 = y2 at *
    generalize cx xs 3 = y3 at *
    generalize partM (ts.map ActT.a) xs false = P at *
    go_enter Try.func41, Try.ntmps41
    go_wp2_with fail
    refine RC.out.mono ?_
    rintro e w1 ⟨b1, (⟨_, mb, rfl⟩ | ⟨hx, _⟩)⟩
    · have bz := (b1.alloc b1.size (.cells #[.slice a K cap, .map (some mb), .int .i64 n, .int .i64 c0, .int .i64 c1, .int .i64 c2, .int .i64 c3] 93)).alloc (by have := b1.size; simp; omega) (.cells #[.int .i64 y, .int .i64 y0, .int .i64 y1, .int .i64 y2, .int .i64 y3] 91)
      go_wp2_with fail
      obtain ⟨W1, hW1⟩ : ∃ W, W = (w1.alloc (.cells #[.slice a K cap, .map (some mb), .int .i64 n, .int .i64 c0, .int .i64 c1, .int .i64 c2, .int .i64 c3] 93)).alloc (.cells #[.int .i64 y, .int .i64 y0, .int .i64 y1, .int .i64 y2, .int .i64 y3] 91) := ⟨_, rfl⟩
      rw [← hW1] at bz ⊢
      have A1 := Lib.hid (HT.out.below bz)
      have B1 := Lib.hid bz
      clear hW1 bz b1
      refine (beyond_any _ _ _ _ _ _ _ _ _ _ _ _ _ _ _).mono ?_
      rintro e w2 ⟨S, F, C, rfl, hS, hF, kS, kC, kF, b2⟩
      have A2 := Lib.hid (A1.out.below b2)
      have B2 := Lib.hid (B1.out.trans (b2.mono B1.out.size))
      have KS := Lib.hid kS
      have KF := Lib.hid kF
      have KC := Lib.hid kC
      clear b2 kS kF kC hS hF
      go_wp2_with fail
      refine (CK.out S F C mb _ A2.out KS.out KC.out KF.out).mono ?_
      rintro e w3 ⟨u, bs, rfl, o3, g3, b3⟩
      have B3 := Lib.hid (B2.out.trans (b3.mono B2.out.size))
      have G3 := Lib.hid (fun b hb => Nat.le_trans B2.out.size (g3 b hb))
      have O3 := Lib.hid o3
      clear b3 g3 o3 A2 KS KF A1
      go_wp2
      go_ret
      exact ⟨_, bs, rfl, O3.out, G3.out, B3.out⟩
    · rw [HC.out] at hx; cases hx
  · rw [lacks_no _ _ _ hc]
    have HC := Lib.hid hc
    clear hc hK hL
    go_enter Try.func41, Try.ntmps41
    go_wp2_with fail
    refine RC.out.mono ?_
    rintro e w1 ⟨b1, (⟨hx, _⟩ | ⟨_, rfl⟩)⟩
    · exact absurd hx HC.out
    · have B1 := Lib.hid ((b1.alloc b1.size (.cells #[.slice none 0 0, .map none, .int .i64 0, .int .i64 0, .int .i64 0, .int .i64 0, .int .i64 0] 93)).alloc (by have := b1.size; simp; omega) (.cells #[.int .i64 0, .int .i64 0, .int .i64 0, .int .i64 0, .int .i64 0] 91))
      clear b1
      go_wp2
      go_ret
      exact ⟨_, [], rfl, .inl ⟨rfl, rfl, _, _, rfl⟩, (fun b hb => nomatch hb), B1.out⟩
end Go.Proofs.Ytjmefifdofgncaa
