/- sameActs: are two lists of acts the same? -/
import Derived.Test.YtkcfcmigcphjlaaGreatGB
import Derived.Test.YtkcfcmigcphjlaaGreatEA


namespace Go.Proofs.YtkcfcmigcphjlaaGreat
open Go.RowKit
set_option linter.unusedVariables false

theorem acts_take_step {xs ys : List ActM} (k : Nat) (hx : k < xs.length) (hy : k < ys.length) (h : xs.take k = ys.take k) (e : xs.getD k act0 = ys.getD k act0) : xs.take (k + 1) = ys.take (k + 1) := by
  rw [List.take_succ_eq_append_getElem hx, List.take_succ_eq_append_getElem hy, h]
  simp [List.getD, hx, hy] at e
  rw [e]
set_option maxRecDepth 100000 in
set_option maxHeartbeats 3200000 in
theorem sameActs_any (v v' : Value) (l m : List ActM) (w : World) (h : Acts w v l) (h' : Acts w v' m) :
    Calls Tryz.prog 23 #[v, v'] w fun e w' => e = .returned (.bool (decide (l = m))) ∧ Below w.heap.size w w' := by
  obtain ⟨ts, rfl, hT⟩ := h
  obtain ⟨us, rfl, hU⟩ := h'
  obtain ⟨x, c, rfl⟩ := actsT_len hT
  obtain ⟨x', c', rfl⟩ := actsT_len hU
  have hm1 : ts.length ≤ 9223372036854775807 := actsT_max hT
  have hm2 : us.length ≤ 9223372036854775807 := actsT_max hU
  obtain ⟨n, hn⟩ : ∃ n, n = ts.length := ⟨_, rfl⟩
  obtain ⟨n', hn'⟩ : ∃ n, n = us.length := ⟨_, rfl⟩
  rw [← hn] at hT hm1 ⊢
  rw [← hn'] at hU hm2 ⊢
  have N1 := Lib.hid hn.symm
  have N2 := Lib.hid hn'.symm
  clear hn hn'
  by_cases h1 : n = n'
  · subst h1
    by_cases h0 : 0 < n
    · obtain ⟨z1, b, off, rfl, hb, hat⟩ := actsT_at hT h0
      obtain ⟨z2, b', off', rfl, hb', hat'⟩ := actsT_at hU h0
      clear z1 z2
      have HAT := Lib.hid hat
      have HAU := Lib.hid hat'
      have HR := Lib.hid (fun i (hi : i < n) => hT.1 _ (getD_mem (ts := ts) (i := i) (by rw [N1.out]; exact hi)))
      have HR' := Lib.hid (fun i (hi : i < n) => hU.1 _ (getD_mem (ts := us) (i := i) (by rw [N2.out]; exact hi)))
      clear hat hat' hT hU
      go_enter Tryz.func23, Tryz.ntmps23
      go_wp2
      go_loopw [5] (fun iv wr => ∃ k : Nat, k ≤ n ∧ iv = .int .i64 k ∧ Hid ((ts.map ActT.a).take k = (us.map ActT.a).take k) ∧ Hid (Below w.heap.size w wr)) (fun iv _ => n - (intOf iv).toNat)
      case atStart => exact ⟨0, Nat.zero_le _, rfl, by simp [Hid], Lib.hid (Below.refl _ _)⟩
      case round =>
        obtain ⟨k, hk, rfl, hg, hbel⟩ := hrel
        by_cases hlt : k < n
        · have SB := Lib.hid (show Bel w wr from ⟨hbel.out⟩).drew
          have HX := Lib.hid (show (ts.map ActT.a).getD k act0 = (ts.getD k t0).a from getD_map (by rw [N1.out]; exact hlt))
          have HY := Lib.hid (show (us.map ActT.a).getD k act0 = (us.getD k t0).a from getD_map (by rw [N2.out]; exact hlt))
          have Rp := Lib.hid (HR.out k hlt)
          have ap := HAT.out k hlt
          obtain ⟨Tp, hTp⟩ : ∃ T, T = ts.getD k t0 := ⟨_, rfl⟩
          rw [← hTp] at Rp ap HX
          clear hTp
          obtain ⟨xp, mp, yp, up, kp, zp, hdp, hsp⟩ := slice_of Rp.out
          obtain ⟨⟨p0, p1, p2, p3, p4, p5, p6, p7, p8, p9, p10⟩, vdp, vsp⟩ := Tp
          simp only at hdp hsp
          subst hdp hsp
          have c0 := fun W' (h : Bel w W') => (ap.below h.b hb).c0
          have c1 := fun W' (h : Bel w W') => (ap.below h.b hb).c1
          have c2 := fun W' (h : Bel w W') => (ap.below h.b hb).c2
          have c3 := fun W' (h : Bel w W') => (ap.below h.b hb).c3
          have c4 := fun W' (h : Bel w W') => (ap.below h.b hb).c4
          have c5 := fun W' (h : Bel w W') => (ap.below h.b hb).c5
          have c6 := fun W' (h : Bel w W') => (ap.below h.b hb).c6
          have c7 := fun W' (h : Bel w W') => (ap.below h.b hb).c7
          have c8 := fun W' (h : Bel w W') => (ap.below h.b hb).c8
          have c9 := fun W' (h : Bel w W') => (ap.below h.b hb).c9
          have c10 := fun W' (h : Bel w W') => (ap.below h.b hb).c10
          clear ap
          have Rq := Lib.hid (HR'.out k hlt)
          have aq := HAU.out k hlt
          obtain ⟨Tq, hTq⟩ : ∃ T, T = us.getD k t0 := ⟨_, rfl⟩
          rw [← hTq] at Rq aq HY
          clear hTq
          obtain ⟨xq, mq, yq, uq, kq, zq, hdq, hsq⟩ := slice_of Rq.out
          obtain ⟨⟨q0, q1, q2, q3, q4, q5, q6, q7, q8, q9, q10⟩, vdq, vsq⟩ := Tq
          simp only at hdq hsq
          subst hdq hsq
          have d0 := fun W' (h : Bel w W') => (aq.below h.b hb').c0
          have d1 := fun W' (h : Bel w W') => (aq.below h.b hb').c1
          have d2 := fun W' (h : Bel w W') => (aq.below h.b hb').c2
          have d3 := fun W' (h : Bel w W') => (aq.below h.b hb').c3
          have d4 := fun W' (h : Bel w W') => (aq.below h.b hb').c4
          have d5 := fun W' (h : Bel w W') => (aq.below h.b hb').c5
          have d6 := fun W' (h : Bel w W') => (aq.below h.b hb').c6
          have d7 := fun W' (h : Bel w W') => (aq.below h.b hb').c7
          have d8 := fun W' (h : Bel w W') => (aq.below h.b hb').c8
          have d9 := fun W' (h : Bel w W') => (aq.below h.b hb').c9
          have d10 := fun W' (h : Bel w W') => (aq.below h.b hb').c10
          clear aq
          have CK := Lib.hid (fun W' (h : Bel w W') => specSame_any _ _ _ _ W' (Rp.out.below h.b).is (Rq.out.below h.b).is)
          simp only [ActT.val] at CK
          simp only at HX HY
          obtain ⟨sv, hsv⟩ : ∃ sv, sv = sameM ⟨p0, p1, p2, p3, p4, p5, p6, p7, p8, p9, p10⟩ ⟨q0, q1, q2, q3, q4, q5, q6, q7, q8, q9, q10⟩ := ⟨_, rfl⟩
          rw [← hsv] at CK
          have i0 : (0 : Int) ≤ k := by omega
          have i1 : (k : Int) < n := by omega
          have HS := Lib.hid hsv
          clear hsv
          cases sv
          · go_wp2_with fail
            go_region_held3 (fun w' => Bel w w')
              (first | (with_reducible exact SB.out) | (with_reducible assumption))
              (first | (go_at_call 63; (with_reducible refine (CK.out _ (by with_reducible first | exact SB.out | assumption)).mono ?_); rintro e wz ⟨rfl, hbz⟩; have bz := Bel.step (by with_reducible first | exact SB.out | assumption) hbz; clear hbz))
            have hne := HS.out
            simp only [sameM] at hne
            have BZ := Lib.hid bz.b
            clear bz CK HS
            go_wp2_with fail
            go_ret
            refine ⟨ret_bool ?_, BZ.out⟩
            rw [eq_comm, decide_eq_false_iff_not]
            intro he
            have h2 := congrArg (fun l => l.getD k act0) he
            simp only [HX.out, HY.out] at h2
            simp [h2] at hne
          · go_wp2_with fail
            go_region_held3 (fun w' => Bel w w')
              (first | (with_reducible exact SB.out) | (with_reducible assumption))
              (first | (go_at_call 63; (with_reducible refine (CK.out _ (by with_reducible first | exact SB.out | assumption)).mono ?_); rintro e wz ⟨rfl, hbz⟩; have bz := Bel.step (by with_reducible first | exact SB.out | assumption) hbz; clear hbz))
            have heq := of_decide_eq_true HS.out.symm
            have BZ := Lib.hid bz.b
            have TK := Lib.hid (acts_take_step k (by rw [List.length_map, N1.out]; exact hlt) (by rw [List.length_map, N2.out]; exact hlt) hg.out (by rw [HX.out, HY.out]; exact heq))
            clear bz CK HS heq
            go_wp2_with fail
            go_roundw
            case rel => exact ⟨k + 1, by omega, by go_num, TK.out, BZ.out⟩
            case measure => simp [intOf]; omega
        · have TE : Hid (ts.map ActT.a = us.map ActT.a) := by
            have := hg.out
            rw [List.take_of_length_le (by rw [List.length_map, N1.out]; omega), List.take_of_length_le (by rw [List.length_map, N2.out]; omega)] at this
            exact this
          go_wp2_with fail
          go_ret
          exact ⟨ret_bool (by rw [TE.out]; simp), hbel.out⟩
    · have hz : n = 0 := by omega
      subst hz
      have e1 : ts = [] := List.eq_nil_of_length_eq_zero N1.out
      have e2 : us = [] := List.eq_nil_of_length_eq_zero N2.out
      subst e1 e2
      clear N1 N2 hT hU
      go_enter Tryz.func23, Tryz.ntmps23
      go_wp2
      go_loop [5] (fun i => i = .int .i64 0) (fun _ => 0)
      case atStart => rfl
      case round =>
        obtain rfl := hrel
        go_wp2
        go_ret
        exact ⟨rfl, Below.refl _ _⟩
  · have hb : ((n : Int) == (n' : Int)) = false := by simp; omega
    have hb' : ((n : Int) != (n' : Int)) = true := by simp; omega
    clear hT hU
    go_enter Tryz.func23, Tryz.ntmps23
    go_wp2
    go_ret
    refine ⟨ret_bool ?_, Below.refl _ _⟩
    rw [eq_comm, decide_eq_false_iff_not]
    intro he
    have := congrArg List.length he
    rw [List.length_map, List.length_map, N1.out, N2.out] at this
    exact h1 this
end Go.Proofs.YtkcfcmigcphjlaaGreat
