/- SameThings whole; the law FnExactSameThings. -/
import Derived.Test.YtjjgigoehgabkaaSD
import Derived.Deep.DeepCutAuto
namespace Go.Proofs.Ytjjgigoehgabkaa
open Go.RowKit
set_option linter.unusedVariables false
set_option linter.unusedSimpArgs false

theorem things_at {w : World} {a : Option Addr} {len cap : Nat} {ts : List ThingT} (h : ThingsT w (.slice a len cap) ts) (hp : 0 < len) : len = ts.length ∧ ∃ b off, a = some ⟨b, off, none⟩ ∧ b < w.heap.size ∧ ∀ i, i < len → ThingAt w b (off + i * 6) (ts.getD i tt0) := by
  rcases h.2 with ⟨a', c', hv, rfl⟩ | ⟨b, off, c', hv, h1, h2, h3, h4⟩
  · cases hv; omega
  · cases hv
    exact ⟨rfl, b, off, rfl, h1, h4⟩
set_option maxHeartbeats 1600000 in
theorem specST_any (v v' : Value) (ts us : List ThingT) (w : World) (h : ThingsT w v ts) (h' : ThingsT w v' us) :
    Calls Try.prog 55 #[v, v'] w fun e w' => e = .returned (.bool (eqTL (ts.map ThingT.a) (us.map ThingT.a))) ∧ Below w.heap.size w w' := by
  obtain ⟨a, cap, rfl⟩ := thingsT_len h
  obtain ⟨a', cap', rfl⟩ := thingsT_len h'
  have hm := things_max h
  by_cases hl : ts.length = us.length
  · by_cases h0 : 0 < ts.length
    · obtain ⟨_, b, off, rfl, hb, hc⟩ := things_at h h0
      rw [← hl] at h' ⊢
      obtain ⟨_, b', off', rfl, hb', hc'⟩ := things_at h' h0
      exact specST_some b off cap b' off' cap' ts.length ts us w rfl hl.symm hm hb hb' h.1 h'.1 hc hc'
    · obtain rfl : ts = [] := List.eq_nil_of_length_eq_zero (by omega)
      obtain rfl : us = [] := List.eq_nil_of_length_eq_zero (by rw [← hl]; rfl)
      clear h h' hm hl h0
      go_enter Try.func55, Try.ntmps55
      go_wp2
      go_loop [5] (fun i => i = .int .i64 0) (fun _ => 0)
      case atStart => exact rfl
      case round =>
        obtain rfl := hrel
        go_wp2
        go_ret
        exact ⟨rfl, Below.refl _ _⟩
  · have HN := Lib.hid (eqTL_len (ts.map ThingT.a) (us.map ThingT.a) (by simpa using hl))
    have hm' := things_max h'
    have e1 : ((ts.length : Int) == (us.length : Int)) = false := by simp; omega
    have e2 : ((ts.length : Int) != (us.length : Int)) = true := by simp; omega
    rw [HN.out]
    clear h h' hl
    generalize ts.length = A at *
    generalize us.length = B at *
    go_enter Try.func55, Try.ntmps55
    go_wp2
    go_ret
    exact ⟨rfl, Below.refl _ _⟩
set_option maxHeartbeats 1600000 in
theorem eqF_any (v v' : Value) (ts us : List ThingT) (w : World) (h : ThingsT w v ts) (h' : ThingsT w v' us) :
    Calls Try.prog 115 #[v, v', .func (.func 116) #[] #[]] w fun e w' => e = .returned (.bool (eqTL (ts.map ThingT.a) (us.map ThingT.a))) ∧ Below w.heap.size w w' := by
  obtain ⟨a, cap, rfl⟩ := thingsT_len h
  obtain ⟨a', cap', rfl⟩ := thingsT_len h'
  have hm := things_max h
  by_cases hl : ts.length = us.length
  · by_cases h0 : 0 < ts.length
    · obtain ⟨_, b, off, rfl, hb, hc⟩ := things_at h h0
      rw [← hl] at h' ⊢
      obtain ⟨_, b', off', rfl, hb', hc'⟩ := things_at h' h0
      exact eqF_some b off cap b' off' cap' ts.length ts us w rfl hl.symm hm hb hb' h.1 h'.1 hc hc'
    · obtain rfl : ts = [] := List.eq_nil_of_length_eq_zero (by omega)
      obtain rfl : us = [] := List.eq_nil_of_length_eq_zero (by rw [← hl]; rfl)
      clear h h' hm hl h0
      go_enter Try.func115, Try.ntmps115
      go_wp2
      go_loop [17] (fun i => i = .int .i64 0) (fun _ => 0)
      case atStart => exact rfl
      case round =>
        obtain rfl := hrel
        go_wp2
        go_ret
        exact ⟨rfl, Below.refl _ _⟩
  · have HN := Lib.hid (eqTL_len (ts.map ThingT.a) (us.map ThingT.a) (by simpa using hl))
    have hm' := things_max h'
    have e1 : ((ts.length : Int) == (us.length : Int)) = false := by simp; omega
    have e2 : ((ts.length : Int) != (us.length : Int)) = true := by simp; omega
    rw [HN.out]
    clear h h' hl
    generalize ts.length = A at *
    generalize us.length = B at *
    go_enter Try.func115, Try.ntmps115
    go_wp2
    go_ret
    exact ⟨rfl, Below.refl _ _⟩
set_option maxHeartbeats 800000 in
theorem implST_any (v v' : Value) (ts us : List ThingT) (w : World) (h : ThingsT w v ts) (h' : ThingsT w v' us) :
    Calls Try.prog 57 #[v, v'] w fun e w' => e = .returned (.bool (eqTL (ts.map ThingT.a) (us.map ThingT.a))) ∧ Below w.heap.size w w' := by
  have EF := Lib.hid (eqF_any v v' ts us w h h')
  obtain ⟨a, cap, rfl⟩ := thingsT_len h
  obtain ⟨a', cap', rfl⟩ := thingsT_len h'
  clear h h'
  generalize eqTL (ts.map ThingT.a) (us.map ThingT.a) = R at *
  go_enter Try.func57, Try.ntmps57
  go_wp2_with fail
  refine EF.out.mono ?_
  rintro e w2 ⟨rfl, b2⟩
  have B2 := Lib.hid b2
  clear b2
  go_wp2
  go_ret
  exact ⟨rfl, B2.out⟩
set_option maxRecDepth 100000 in
set_option maxHeartbeats 6400000 in
theorem eqTS_some (b off cap b' off' cap' len : Nat) (ts us : List ThingT) (w : World) (h1 : ts.length = len) (h2 : us.length = len) (hq : ts.map ThingT.a = us.map ThingT.a) (hl : len ≤ 9223372036854775807) (hb : b < w.heap.size) (hb' : b' < w.heap.size) (hr : ∀ t ∈ ts, Ints w t.v t.a.items) (hr' : ∀ t ∈ us, Ints w t.v t.a.items)
    (hc : ∀ i, i < len → ThingAt w b (off + i * 6) (ts.getD i tt0)) (hc' : ∀ i, i < len → ThingAt w b' (off' + i * 6) (us.getD i tt0)) :
    Calls Try.prog 58 #[.slice (some ⟨b, off, none⟩) len cap, .slice (some ⟨b', off', none⟩) len cap'] w fun e w' => e = .returned (.bool true) ∧ Below w.heap.size w w' := by
  have HQ := Lib.hid (fun k (hk : k < len) => (show (ts.getD k tt0).a = (us.getD k tt0).a by
    have h := congrArg (fun l => l[k]?) hq
    simp only [List.getElem?_map] at h
    rw [List.getElem?_eq_getElem (by omega), List.getElem?_eq_getElem (by omega)] at h
    simp only [Option.map_some, Option.some.injEq] at h
    simpa [List.getD, h1, h2, hk] using h))
  have N1 := Lib.hid h1
  have N2 := Lib.hid h2
  have HC := Lib.hid hc
  have HC' := Lib.hid hc'
  have HRd := Lib.hid hr
  have HRd' := Lib.hid hr'
  have b00 := Lib.hid hb
  have b01 := Lib.hid hb'
  have BW := Lib.hid (Below.refl w.heap.size w)
  have q1 : ((len : Int) == (len : Int)) = true := by simp
  have q2 : ((len : Int) != (len : Int)) = false := by simp
  clear hq h1 h2 hc hc' hr hr' hb hb'
  go_enter Try.func58, Try.ntmps58
  go_wp2_with fail
  go_loopw [5] (fun i wr => ∃ k : Nat, k ≤ len ∧ i = .int .i64 k ∧ Hid (Below w.heap.size w wr)) (fun i _ => len - (intOf i).toNat)
  case atStart => exact ⟨0, Nat.zero_le _, rfl, BW.out⟩
  case round =>
    obtain ⟨k, hk, rfl, hbel⟩ := hrel
    clear BW
    have BW := hbel
    clear hbel
    by_cases hlt : k < len
    · skip
      have hlt2 : k < ts.length := by rw [N1.out]; exact hlt
      have hlt3 : k < us.length := by rw [N2.out]; exact hlt
      have hm := tgetD_mem hlt2
      have hm' := tgetD_mem hlt3
      have AT := Lib.hid ((HC.out k hlt).below BW.out b00.out)
      have AU := Lib.hid ((HC'.out k hlt).below BW.out b01.out)
      have HI := Lib.hid (HRd.out _ hm)
      have HJ := Lib.hid (HRd'.out _ hm')
      have hqq := HQ.out k hlt
      obtain ⟨t, htt⟩ : ∃ t, t = ts.getD k tt0 := ⟨_, rfl⟩
      obtain ⟨u, huu⟩ : ∃ u, u = us.getD k tt0 := ⟨_, rfl⟩
      rw [← htt] at AT HI hqq
      rw [← huu] at AU HJ hqq
      clear htt huu hm hm'
      obtain ⟨um, uv⟩ := u
      simp only at hqq
      subst hqq
      obtain ⟨⟨bu, ke, ha, re, co, items⟩, tv⟩ := t
      have hsi := ints_len HI.out
      simp only at hsi
      obtain ⟨ia, ic, rfl⟩ := hsi
      try simp only [ThingT.val] at ⊢
      obtain ⟨il, hil⟩ : ∃ x, x = items.length := ⟨_, rfl⟩
      try rw [← hil] at HI
      try rw [← hil] at AT
      try rw [← hil] at HJ
      try rw [← hil] at AU
      have HIL := Lib.hid hil
      clear hil
      obtain ⟨pia, pic, hpv⟩ := ints_len HJ.out
      simp only at hpv
      subst hpv
      try rw [← HIL.out] at HJ
      try rw [← HIL.out] at AU
      have ET := Lib.hid (fun W (h : Ints W (.slice ia il ic) items) (h' : Ints W (.slice pia il pic) items) => eqT_any bu ke re co ha _ _ items W h h')
      have c0 := AT.out.c0
      have c1 := AT.out.c1
      have c2 := AT.out.c2
      have c3 := AT.out.c3
      have c4 := AT.out.c4
      have c5 := AT.out.c5
      simp only at c0 c1 c2 c3 c4 c5
      have d0 := AU.out.c0
      have d1 := AU.out.c1
      have d2 := AU.out.c2
      have d3 := AU.out.c3
      have d4 := AU.out.c4
      have d5 := AU.out.c5
      simp only at d0 d1 d2 d3 d4 d5
      have i0 : (0 : Int) ≤ (k : Int) := by omega
      have i1 : (k : Int) < (len : Int) := by omega
      go_upto_region 6 with (fail)
      refine wp_region_still_tail 8 (by kernel_rfl) (by kernel_rfl) ?_
      simp only [List.take_succ_cons, List.take_zero, List.drop_succ_cons, List.drop_zero]
      change wpStill _ _ wr.drew _ _ _
      repeat still_step
      refine wpStill_nil ?_
      change wpList _ _ _ _ _ wr.drew
      have B7 := Lib.hid (BW.out.drew)
      generalize wr.drew = w7 at B7 ⊢
      clear c0 c1 c2 c3 c4 c5 d0 d1 d2 d3 d4 d5
      clear AT AU i0 i1
      go_wp2_with fail
      refine (ET.out _ (HI.out.below (B := 0) B7.out) (HJ.out.below (B := 0) B7.out)).mono ?_
      rintro e w8 ⟨rfl, b8⟩
      have B8 := Lib.hid (B7.out.trans (b8.mono B7.out.size))
      clear b8
      go_wp2_with fail
      go_roundw
      case rel => exact ⟨k + 1, by omega, by go_num, B8.out⟩
      case measure => simp [intOf]; omega
    · go_wp2_with fail
      go_ret
      exact ⟨rfl, BW.out⟩
theorem eqTS_any (v v' : Value) (ts us : List ThingT) (w : World) (hq : ts.map ThingT.a = us.map ThingT.a) (h : ThingsT w v ts) (h' : ThingsT w v' us) :
    Calls Try.prog 58 #[v, v'] w fun e w' => e = .returned (.bool true) ∧ Below w.heap.size w w' := by
  obtain ⟨a, cap, rfl⟩ := thingsT_len h
  obtain ⟨a', cap', rfl⟩ := thingsT_len h'
  have hl : ts.length = us.length := by have := congrArg List.length hq; simpa using this
  have hm := things_max h
  rw [← hl] at h' ⊢
  by_cases h0 : 0 < ts.length
  · obtain ⟨_, b, off, rfl, hb, hc⟩ := things_at h h0
    obtain ⟨_, b', off', rfl, hb', hc'⟩ := things_at h' h0
    exact eqTS_some b off cap b' off' cap' ts.length ts us w rfl hl.symm hq hm hb hb' h.1 h'.1 hc hc'
  · rw [show ts.length = 0 by omega]
    clear h h' hm hl h0 hq
    go_enter Try.func58, Try.ntmps58
    go_wp2
    go_loop [5] (fun i => i = .int .i64 0) (fun _ => 0)
    case atStart => exact rfl
    case round =>
      obtain rfl := hrel
      go_wp2
      go_ret
      exact ⟨rfl, Below.refl _ _⟩
set_option maxRecDepth 100000 in
set_option maxHeartbeats 6400000 in
theorem law_sameThings (v0 v1 : Value) (l0 l1 : List ThingM) (w : World) (h0 : Things w v0 l0) (h1 : Things w v1 l1) :
    Calls Try.prog 12 #[v0, v1] w fun e w' => e = .returned (.bool true) ∧ Below w.heap.size w w' := by
  obtain ⟨ts, rfl, h0⟩ := h0
  obtain ⟨us, rfl, h1⟩ := h1
  obtain ⟨a, cap, rfl⟩ := thingsT_len h0
  obtain ⟨a', cap', rfl⟩ := thingsT_len h1
  have H0 := Lib.hid h0
  have H1 := Lib.hid h1
  clear h0 h1
  generalize ts.length = A at *
  generalize us.length = B at *
  have BW := Lib.hid (Below.refl w.heap.size w)
  obtain ⟨R, hR⟩ : ∃ R, R = eqTL (ts.map ThingT.a) (us.map ThingT.a) := ⟨_, rfl⟩
  have HR := Lib.hid hR.symm
  clear hR
  have eR : (R == R) = true := by simp
  have nR : (R != R) = false := by simp
  go_enter Try.func12, Try.ntmps12
  go_wp2_with fail
  refine (szTS_any _ ts 1048576 _ (H0.out.below BW.out) (by omega) (by omega)).mono ?_
  rintro e w1 ⟨r0, rfl, ra0, rs0, b⟩
  replace BW := Lib.hid (BW.out.trans ((b).mono BW.out.size))
  clear b
  by_cases hr0 : r0 < 0
  · go_wp2_with fail
    go_ret
    exact ⟨rfl, BW.out⟩
  have SM0 := Lib.hid (rs0 (by omega))
  clear rs0
  go_wp2_with fail
  refine (szTS_any _ us r0 _ (H1.out.below BW.out) (by omega) (by omega)).mono ?_
  rintro e w2 ⟨r1, rfl, ra1, rs1, b⟩
  replace BW := Lib.hid (BW.out.trans ((b).mono BW.out.size))
  clear b
  by_cases hr1 : r1 < 0
  · go_wp2_with fail
    go_ret
    exact ⟨rfl, BW.out⟩
  have SM1 := Lib.hid (rs1 (by omega))
  clear rs1
  go_wp2_with fail
  refine (toTS_any _ ts _ (H0.out.below BW.out) SM0.out).mono ?_
  rintro e w3 ⟨va, rfl, ta, b⟩
  replace BW := Lib.hid (BW.out.trans ((b).mono BW.out.size))
  obtain ⟨qa, hqa, ta⟩ := ta
  obtain ⟨axa, cxa, hva⟩ := thingsT_len ta
  subst hva
  have Ta := Lib.hid ta
  have HQa := Lib.hid hqa
  generalize qa.length = Za at *
  clear b ta hqa
  go_wp2_with fail
  refine (toTS_any _ us _ (H1.out.below BW.out) SM1.out).mono ?_
  rintro e w4 ⟨vb, rfl, tb, b⟩
  replace BW := Lib.hid (BW.out.trans ((b).mono BW.out.size))
  replace Ta := Lib.hid (Ta.out.below (b))
  obtain ⟨qb, hqb, tb⟩ := tb
  obtain ⟨axb, cxb, hvb⟩ := thingsT_len tb
  subst hvb
  have Tb := Lib.hid tb
  have HQb := Lib.hid hqb
  generalize qb.length = Zb at *
  clear b tb hqb
  go_wp2_with fail
  refine (specST_any _ _ qa qb _ Ta.out Tb.out).mono ?_
  rintro e w5 ⟨rfl, b⟩
  rw [← HQa.out, ← HQb.out, HR.out]
  replace BW := Lib.hid (BW.out.trans ((b).mono BW.out.size))
  replace Ta := Lib.hid (Ta.out.below (b))
  replace Tb := Lib.hid (Tb.out.below (b))
  clear b
  clear Ta Tb
  go_wp2_with fail
  refine (toTS_any _ ts _ (H0.out.below BW.out) SM0.out).mono ?_
  rintro e w6 ⟨vc, rfl, tc, b⟩
  replace BW := Lib.hid (BW.out.trans ((b).mono BW.out.size))
  obtain ⟨qc, hqc, tc⟩ := tc
  obtain ⟨axc, cxc, hvc⟩ := thingsT_len tc
  subst hvc
  have Tc := Lib.hid tc
  have HQc := Lib.hid hqc
  generalize qc.length = Zc at *
  clear b tc hqc
  go_wp2_with fail
  refine (toTS_any _ us _ (H1.out.below BW.out) SM1.out).mono ?_
  rintro e w7 ⟨vd, rfl, td, b⟩
  replace BW := Lib.hid (BW.out.trans ((b).mono BW.out.size))
  replace Tc := Lib.hid (Tc.out.below (b))
  obtain ⟨qd, hqd, td⟩ := td
  obtain ⟨axd, cxd, hvd⟩ := thingsT_len td
  subst hvd
  have Td := Lib.hid td
  have HQd := Lib.hid hqd
  generalize qd.length = Zd at *
  clear b td hqd
  go_wp2_with fail
  refine (implST_any _ _ qc qd _ Tc.out Td.out).mono ?_
  rintro e w8 ⟨rfl, b⟩
  rw [← HQc.out, ← HQd.out, HR.out]
  replace BW := Lib.hid (BW.out.trans ((b).mono BW.out.size))
  replace Tc := Lib.hid (Tc.out.below (b))
  replace Td := Lib.hid (Td.out.below (b))
  clear b
  go_wp2_with fail
  refine (toTS_any _ ts _ (H0.out.below BW.out) SM0.out).mono ?_
  rintro e w9 ⟨vf, rfl, tf, b⟩
  replace BW := Lib.hid (BW.out.trans ((b).mono BW.out.size))
  replace Tc := Lib.hid (Tc.out.below (b))
  replace Td := Lib.hid (Td.out.below (b))
  obtain ⟨qf, hqf, tf⟩ := tf
  obtain ⟨axf, cxf, hvf⟩ := thingsT_len tf
  subst hvf
  have Tf := Lib.hid tf
  have HQf := Lib.hid hqf
  generalize qf.length = Zf at *
  clear b tf hqf
  go_wp2_with fail
  refine (eqTS_any _ _ qc qf _ (by rw [← HQc.out, HQf.out]) Tc.out Tf.out).mono ?_
  rintro e w10 ⟨rfl, b⟩
  replace BW := Lib.hid (BW.out.trans ((b).mono BW.out.size))
  replace Tc := Lib.hid (Tc.out.below (b))
  replace Td := Lib.hid (Td.out.below (b))
  replace Tf := Lib.hid (Tf.out.below (b))
  clear b
  clear Tf Tc
  go_wp2_with fail
  refine (toTS_any _ us _ (H1.out.below BW.out) SM1.out).mono ?_
  rintro e w11 ⟨vg, rfl, tg, b⟩
  replace BW := Lib.hid (BW.out.trans ((b).mono BW.out.size))
  replace Td := Lib.hid (Td.out.below (b))
  obtain ⟨qg, hqg, tg⟩ := tg
  obtain ⟨axg, cxg, hvg⟩ := thingsT_len tg
  subst hvg
  have Tg := Lib.hid tg
  have HQg := Lib.hid hqg
  generalize qg.length = Zg at *
  clear b tg hqg
  go_wp2_with fail
  refine (eqTS_any _ _ qd qg _ (by rw [← HQd.out, HQg.out]) Td.out Tg.out).mono ?_
  rintro e w12 ⟨rfl, b⟩
  replace BW := Lib.hid (BW.out.trans ((b).mono BW.out.size))
  replace Td := Lib.hid (Td.out.below (b))
  replace Tg := Lib.hid (Tg.out.below (b))
  clear b
  go_wp2_with fail
  go_ret
  exact ⟨rfl, BW.out⟩
end Go.Proofs.Ytjjgigoehgabkaa
