/- Touched: the reference's. -/
import Derived.Test.YtjmefifdofgncaaTA
namespace Go.Proofs.Ytjmefifdofgncaa
open Go.RowKit
set_option linter.unusedVariables false

set_option maxRecDepth 100000 in
set_option maxHeartbeats 6400000 in
theorem specTouched_some (b off cap len : Nat) (n : Int) (ts : List ActT) (pv : Value) (p : ActM) (w : World) (h1 : ts.length = len) (hl : len ≤ 9223372036854775807) (hb : b < w.heap.size) (hr : ∀ t ∈ ts, t.Reads w)
    (hc : ∀ i, i < len → ActAt w b (off + i * 11) (ts.getD i t0)) (hT : Acts w (.slice (some ⟨b, off, none⟩) len cap) (ts.map ActT.a)) (hp : ActIs w pv p) (hn : I64 n) :
    Calls Try.prog 49 #[.slice (some ⟨b, off, none⟩) len cap, .int .i64 n, pv] w (RetI w (touchedM (ts.map ActT.a) n p)) := by
  obtain ⟨i2, hi, hz0, hz1, hz2⟩ := info_parts Try.info3
  have HP := Lib.hid hp
  obtain ⟨pa, pc, qa, qc, hpv⟩ := act_shape hp
  have N1 := Lib.hid h1
  have HC := Lib.hid hc
  have HRd := Lib.hid hr
  have SK := Lib.hid (fun W (hW : Below w.heap.size w W) => setOk_any _ (ts.map ActT.a) n W (hT.below hW) hn)
  obtain ⟨⟨pr, pn, pdep, pactor, pkind, pdst, pbucket, pmask, pgr, pgn, pups⟩, hpp⟩ : ∃ x, p = x := ⟨_, rfl⟩
  simp only [hpp] at hpv
  obtain ⟨pl, hpl⟩ : ∃ x, x = pdep.length := ⟨_, rfl⟩
  obtain ⟨ql, hql⟩ : ∃ x, x = pups.length := ⟨_, rfl⟩
  rw [← hpl, ← hql] at hpv
  have HPV := Lib.hid hpv
  obtain ⟨R, hR⟩ : ∃ R, R = touchedM (ts.map ActT.a) n p := ⟨_, rfl⟩
  rw [← hR]
  have HR := Lib.hid hR
  obtain ⟨G, hG⟩ : ∃ G, G = setOkM (ts.map ActT.a) n := ⟨_, rfl⟩
  simp only [← hG] at SK
  have HG := Lib.hid hG
  clear hp hc hr h1 hT hpp hpl hql hR hG
  rw [hpv]
  have kP := Blk.new w #[.int .i64 pr, .int .i64 pn, .slice pa pl pc, .int .i64 pactor, .int .i64 pkind, .int .i64 pdst, .int .i64 pbucket, .int .i64 pmask, .int .i64 pgr, .int .i64 pgn, .slice qa ql qc] 42
  have b0 := (Below.refl w.heap.size w).alloc (Nat.le_refl _) (.cells #[.int .i64 pr, .int .i64 pn, .slice pa pl pc, .int .i64 pactor, .int .i64 pkind, .int .i64 pdst, .int .i64 pbucket, .int .i64 pmask, .int .i64 pgr, .int .i64 pgn, .slice qa ql qc] 42)
  obtain ⟨PB, hPB⟩ : ∃ PB, PB = w.heap.size := ⟨_, rfl⟩
  go_enter Try.func49, Try.ntmps49
  go_upto_region 1 with (fail)
  rw [← hPB] at kP ⊢
  generalize w.alloc (.cells #[.int .i64 pr, .int .i64 pn, .slice pa pl pc, .int .i64 pactor, .int .i64 pkind, .int .i64 pdst, .int .i64 pbucket, .int .i64 pmask, .int .i64 pgr, .int .i64 pgn, .slice qa ql qc] 42) = W0 at kP b0 ⊢
  have HPB := Lib.hid hPB
  clear hPB hpv
  go_wp2_with fail
  refine (SK.out _ b0).mono ?_
  rintro e w1 ⟨rfl, b1⟩
  have KP := Lib.hid (kP.below b1 kP.lt)
  have B0 := Lib.hid (b0.trans (b1.mono b0.size))
  clear kP b0 b1 SK
  cases G
  · have HRE := Lib.hid (show R = [] by rw [HR.out, touchedM, if_neg (by rw [← HG.out]; decide)])
    go_wp2_with fail
    go_ret
    exact ⟨_, [], rfl, .inl ⟨HRE.out, rfl, none, 0, rfl⟩, (fun b hb => nomatch hb), B0.out⟩
  have hG60 := (setOk_all HG.out.symm).2.2.1
  rw [List.length_map, N1.out] at hG60
  have HRT := Lib.hid (show R = touchM p (ts.map ActT.a) 0 by rw [HR.out, touchedM, if_pos HG.out.symm])
  go_wp2_with fail
  go_loopw [7, 8] (fun sv i wr => ∃ (k : Nat) (xs : List Int) (v : Value), v = sv ∧ k ≤ len ∧ i = .int .i64 k ∧ Hid (xs.length ≤ k) ∧ Hid (xs = touchM p ((ts.map ActT.a).take k) 0) ∧ Hid (wr.ownsRow (PB + 1) 3 1 v xs.length (vi xs)) ∧ Hid (Blk wr PB [.int .i64 pr, .int .i64 pn, .slice pa pl pc, .int .i64 pactor, .int .i64 pkind, .int .i64 pdst, .int .i64 pbucket, .int .i64 pmask, .int .i64 pgr, .int .i64 pgn, .slice qa ql qc]) ∧ Hid (Below w.heap.size w wr)) (fun _ i _ => len - (intOf i).toNat)
  case atStart => exact ⟨0, [], _, rfl, Nat.zero_le _, rfl, Nat.le_refl _, rfl, World.ownsRow_nil _ _ _ _, KP.out, B0.out⟩
  case round =>
    obtain ⟨k, xs, v, hv, hk, rfl, hxl, hxs, ho, hkp, hbel⟩ := hrel
    subst hv
    clear KP B0
    have hBw := hbel.out
    have hPW : w.heap.size < PB + 1 := by have := HPB.out; omega
    by_cases hlt : k < len
    · have hlt2 : k < ts.length := by rw [N1.out]; exact hlt
      have AT := Lib.hid ((HC.out k hlt).below hBw hb)
      have HT := Lib.hid ((HRd.out _ (getD_mem hlt2)).below hBw)
      have HTK := Lib.hid (take_step ts k hlt2)
      have hst := touchM_snoc p (ts.getD k t0).a ((ts.map ActT.a).take k) 0
      rw [← HTK.out] at hst
      have hkl : ((ts.map ActT.a).take k).length = k := by rw [List.length_take, List.length_map, N1.out]; omega
      rw [hkl, Nat.zero_add] at hst
      obtain ⟨X, hX⟩ : ∃ X, X = knowsM p (ts.getD k t0).a := ⟨_, rfl⟩
      obtain ⟨Y, hY⟩ : ∃ Y, Y = knowsM (ts.getD k t0).a p := ⟨_, rfl⟩
      rw [← hX, ← hY] at hst
      obtain ⟨t, htt⟩ : ∃ t, t = ts.getD k t0 := ⟨_, rfl⟩
      rw [← htt] at AT HT hX hY
      have K1 := Lib.hid (fun W (h : t.Reads W) (h2 : ActIs W pv p) => specKnows_any pv t.val p t.a W h2 h.is)
      have K2 := Lib.hid (fun W (h : t.Reads W) (h2 : ActIs W pv p) => specKnows_any t.val pv t.a p W h.is h2)
      simp only [← hX, ← hY] at K1 K2
      have HST := Lib.hid hst
      clear htt hst hX hY hkl
      obtain ⟨⟨r, nn, dep, actor, kind, dst, bucket, mask, gr, gn, ups⟩, vd, vs⟩ := t
      have hsd := ints_len HT.out.1
      have hsu := ups_len HT.out.2
      simp only at hsd hsu
      obtain ⟨da, dc, rfl⟩ := hsd
      obtain ⟨ua, uc, rfl⟩ := hsu
      simp only [ActT.val] at K1 K2
      have c0 := AT.out.c0
      have c1 := AT.out.c1
      have c2 := AT.out.c2
      have c3 := AT.out.c3
      have c4 := AT.out.c4
      have c5 := AT.out.c5
      have c6 := AT.out.c6
      have c7 := AT.out.c7
      have c8 := AT.out.c8
      have c9 := AT.out.c9
      have c10 := AT.out.c10
      simp only at c0 c1 c2 c3 c4 c5 c6 c7 c8 c9 c10
      obtain ⟨dl, hdl⟩ : ∃ dl, dl = dep.length := ⟨_, rfl⟩
      obtain ⟨ul, hul⟩ : ∃ ul, ul = ups.length := ⟨_, rfl⟩
      rw [← hdl] at HT AT c2 K1 K2
      rw [← hul] at HT AT c10 K1 K2
      clear hdl hul
      have hbr := Nat.lt_of_lt_of_le hb hBw.size
      have HPW := Lib.hid (HP.out.below hBw)
      rw [HPV.out] at K1 K2
      clear hBw c0 c1 c2 c3 c4 c5 c6 c7 c8 c9 c10
      have i0 : (0 : Int) ≤ (k : Int) := by omega
      have i1 : (k : Int) < (len : Int) := by omega
      cases X
      rotate_left
      · have HSS : Hid (touchM p ((ts.map ActT.a).take (k + 1)) 0 = xs) := by have h := HST.out; simp at h; show _ = _; rw [h, hxs.out]
        go_upto_region 7 with (fail)
        refine wp_region_held_drew (S := fun w' => Below wr.heap.size wr w') (by kernel_rfl) ((Below.refl wr.heap.size wr).drew) (fun hHeld => ?_)
        refine held_take (i := 0) (d := some 19) (v := ?_) rfl (by kernel_rfl) (by kernel_rfl) (by kernel_rfl) (by kernel_rfl) (fun _ _ _ h => h) (by kernel_rfl) ?_ hHeld ?_
        rotate_left
        · intro w' hSw
          have gP := (hkp.out.below hSw hkp.out.lt)
          have e0 := gP.cell 0
          have e1 := gP.cell 1
          have e2 := gP.cell 2
          have e3 := gP.cell 3
          have e4 := gP.cell 4
          have e5 := gP.cell 5
          have e6 := gP.cell 6
          have e7 := gP.cell 7
          have e8 := gP.cell 8
          have e9 := gP.cell 9
          have e10 := gP.cell 10
          simp only [List.getElem?_cons_zero, List.getElem?_cons_succ] at e0 e1 e2 e3 e4 e5 e6 e7 e8 e9 e10
          go_simp
          first | done | with_reducible rfl
        simp only [Act.put, List.setIfInBounds_toArray, List.set_cons_zero, List.set_cons_succ]
        refine held_take (i := 1) (d := some 20) (v := ?_) rfl (by kernel_rfl) (by kernel_rfl) (by kernel_rfl) (by kernel_rfl) (fun _ _ _ h => h) (by kernel_rfl) ?_ hHeld ?_
        rotate_left
        · intro w' hSw
          go_simp
          first | done | with_reducible rfl
        simp only [Act.put, List.setIfInBounds_toArray, List.set_cons_zero, List.set_cons_succ]
        refine held_take (i := 2) (d := some 21) (v := ?_) rfl (by kernel_rfl) (by kernel_rfl) (by kernel_rfl) (by kernel_rfl) (fun _ _ _ h => h) (by kernel_rfl) ?_ hHeld ?_
        rotate_left
        · intro w' hSw
          go_simp
          first | done | with_reducible rfl
        simp only [Act.put, List.setIfInBounds_toArray, List.set_cons_zero, List.set_cons_succ]
        refine held_take (i := 3) (d := some 22) (v := ?_) rfl (by kernel_rfl) (by kernel_rfl) (by kernel_rfl) (by kernel_rfl) (fun _ _ _ h => h) (by kernel_rfl) ?_ hHeld ?_
        rotate_left
        · intro w' hSw
          go_simp
          first | done | with_reducible rfl
        simp only [Act.put, List.setIfInBounds_toArray, List.set_cons_zero, List.set_cons_succ]
        refine held_take (i := 4) (d := some 23) (v := ?_) rfl (by kernel_rfl) (by kernel_rfl) (by kernel_rfl) (by kernel_rfl) (fun _ _ _ h => h) (by kernel_rfl) ?_ hHeld ?_
        rotate_left
        · intro w' hSw
          have gA := AT.out.below hSw hbr
          have c0 := gA.c0
          have c1 := gA.c1
          have c2 := gA.c2
          have c3 := gA.c3
          have c4 := gA.c4
          have c5 := gA.c5
          have c6 := gA.c6
          have c7 := gA.c7
          have c8 := gA.c8
          have c9 := gA.c9
          have c10 := gA.c10
          simp only at c0 c1 c2 c3 c4 c5 c6 c7 c8 c9 c10
          go_simp
          first | done | with_reducible rfl
        simp only [Act.put, List.setIfInBounds_toArray, List.set_cons_zero, List.set_cons_succ]
        refine wpAnyH_ready (rs := [5]) (by kernel_rfl) (by simp) ?_
        refine AllReadyH.cons rfl (fun K hK => ?_) AllReadyH.nil
        go_simp
        refine (K1.out _ (HT.out.below hHeld) (by have := (HPW.out.below hHeld); rw [HPV.out] at this; exact this)).mono ?_
        rintro e w1 ⟨rfl, b1⟩
        have D1 := hHeld.trans (b1.mono hHeld.size)
        go_simp
        refine hK.out _ _ (D1) (fun hHeld => ?_)
        clear hK K
        try simp only [Act.put, List.setIfInBounds_toArray, List.set_cons_zero, List.set_cons_succ]
        refine held_take (i := 6) (d := some 25) (v := ?_) rfl (by kernel_rfl) (by kernel_rfl) (by kernel_rfl) (by kernel_rfl) (fun _ _ _ h => h) (by kernel_rfl) ?_ hHeld ?_
        rotate_left
        · intro w' hSw
          go_simp
          first | done | with_reducible rfl
        simp only [Act.put, List.setIfInBounds_toArray, List.set_cons_zero, List.set_cons_succ]
        refine held_take (i := 7) (d := some 26) (v := ?_) rfl (by kernel_rfl) (by kernel_rfl) (by kernel_rfl) (by kernel_rfl) (fun _ _ _ h => h) (by kernel_rfl) ?_ hHeld ?_
        rotate_left
        · intro w' hSw
          go_simp
          first | done | with_reducible rfl
        simp only [Act.put, List.setIfInBounds_toArray, List.set_cons_zero, List.set_cons_succ]
        refine held_skip (i := 8) (d := some 27) rfl (by kernel_rfl) (by kernel_rfl) (by kernel_rfl) (by kernel_rfl) (fun _ _ _ h => h) (by kernel_rfl) hHeld ?_
        simp only [Act.put, List.setIfInBounds_toArray, List.set_cons_zero, List.set_cons_succ]
        refine held_skip (i := 9) (d := some 28) rfl (by kernel_rfl) (by kernel_rfl) (by kernel_rfl) (by kernel_rfl) (fun _ _ _ h => h) (by kernel_rfl) hHeld ?_
        simp only [Act.put, List.setIfInBounds_toArray, List.set_cons_zero, List.set_cons_succ]
        refine held_skip (i := 10) (d := some 29) rfl (by kernel_rfl) (by kernel_rfl) (by kernel_rfl) (by kernel_rfl) (fun _ _ _ h => h) (by kernel_rfl) hHeld ?_
        simp only [Act.put, List.setIfInBounds_toArray, List.set_cons_zero, List.set_cons_succ]
        refine held_skip (i := 11) (d := some 30) rfl (by kernel_rfl) (by kernel_rfl) (by kernel_rfl) (by kernel_rfl) (fun _ _ _ h => h) (by kernel_rfl) hHeld ?_
        simp only [Act.put, List.setIfInBounds_toArray, List.set_cons_zero, List.set_cons_succ]
        refine held_skip (i := 12) (d := some 31) rfl (by kernel_rfl) (by kernel_rfl) (by kernel_rfl) (by kernel_rfl) (fun _ _ _ h => h) (by kernel_rfl) hHeld ?_
        simp only [Act.put, List.setIfInBounds_toArray, List.set_cons_zero, List.set_cons_succ]
        refine held_skip (i := 13) (d := some 32) rfl (by kernel_rfl) (by kernel_rfl) (by kernel_rfl) (by kernel_rfl) (fun _ _ _ h => h) (by kernel_rfl) hHeld ?_
        simp only [Act.put, List.setIfInBounds_toArray, List.set_cons_zero, List.set_cons_succ]
        refine held_skip (i := 14) (d := some 33) rfl (by kernel_rfl) (by kernel_rfl) (by kernel_rfl) (by kernel_rfl) (fun _ _ _ h => h) (by kernel_rfl) hHeld ?_
        simp only [Act.put, List.setIfInBounds_toArray, List.set_cons_zero, List.set_cons_succ]
        refine held_take (i := 15) (d := some 34) (v := ?_) rfl (by kernel_rfl) (by kernel_rfl) (by kernel_rfl) (by kernel_rfl) (fun _ _ _ h => h) (by kernel_rfl) ?_ hHeld ?_
        rotate_left
        · intro w' hSw
          go_simp
          first | done | with_reducible rfl
        simp only [Act.put, List.setIfInBounds_toArray, List.set_cons_zero, List.set_cons_succ]
        refine wpAnyH_done (by kernel_rfl) ?_ _
        have O2 := Lib.hid (row_grown (r := none) ho.out (below_grown D1 none) (by simp))
        have kP2 := Lib.hid (hkp.out.below D1 hkp.out.lt)
        have B2 := Lib.hid (hbel.out.trans (D1.mono hbel.out.size))
        go_wp2_with fail
        go_roundw
        case rel => exact ⟨k + 1, xs, v, rfl, by omega, by go_num, Nat.le_succ_of_le hxl.out, HSS.out.symm, O2.out, kP2.out, B2.out⟩
        case measure => simp [intOf]; omega
      · cases Y
        rotate_left
        · have HSS : Hid (touchM p ((ts.map ActT.a).take (k + 1)) 0 = xs) := by have h := HST.out; simp at h; show _ = _; rw [h, hxs.out]
          go_upto_region 7 with (fail)
          refine wp_region_held_drew (S := fun w' => Below wr.heap.size wr w') (by kernel_rfl) ((Below.refl wr.heap.size wr).drew) (fun hHeld => ?_)
          refine held_take (i := 0) (d := some 19) (v := ?_) rfl (by kernel_rfl) (by kernel_rfl) (by kernel_rfl) (by kernel_rfl) (fun _ _ _ h => h) (by kernel_rfl) ?_ hHeld ?_
          rotate_left
          · intro w' hSw
            have gP := (hkp.out.below hSw hkp.out.lt)
            have e0 := gP.cell 0
            have e1 := gP.cell 1
            have e2 := gP.cell 2
            have e3 := gP.cell 3
            have e4 := gP.cell 4
            have e5 := gP.cell 5
            have e6 := gP.cell 6
            have e7 := gP.cell 7
            have e8 := gP.cell 8
            have e9 := gP.cell 9
            have e10 := gP.cell 10
            simp only [List.getElem?_cons_zero, List.getElem?_cons_succ] at e0 e1 e2 e3 e4 e5 e6 e7 e8 e9 e10
            go_simp
            first | done | with_reducible rfl
          simp only [Act.put, List.setIfInBounds_toArray, List.set_cons_zero, List.set_cons_succ]
          refine held_take (i := 1) (d := some 20) (v := ?_) rfl (by kernel_rfl) (by kernel_rfl) (by kernel_rfl) (by kernel_rfl) (fun _ _ _ h => h) (by kernel_rfl) ?_ hHeld ?_
          rotate_left
          · intro w' hSw
            go_simp
            first | done | with_reducible rfl
          simp only [Act.put, List.setIfInBounds_toArray, List.set_cons_zero, List.set_cons_succ]
          refine held_take (i := 2) (d := some 21) (v := ?_) rfl (by kernel_rfl) (by kernel_rfl) (by kernel_rfl) (by kernel_rfl) (fun _ _ _ h => h) (by kernel_rfl) ?_ hHeld ?_
          rotate_left
          · intro w' hSw
            go_simp
            first | done | with_reducible rfl
          simp only [Act.put, List.setIfInBounds_toArray, List.set_cons_zero, List.set_cons_succ]
          refine held_take (i := 3) (d := some 22) (v := ?_) rfl (by kernel_rfl) (by kernel_rfl) (by kernel_rfl) (by kernel_rfl) (fun _ _ _ h => h) (by kernel_rfl) ?_ hHeld ?_
          rotate_left
          · intro w' hSw
            go_simp
            first | done | with_reducible rfl
          simp only [Act.put, List.setIfInBounds_toArray, List.set_cons_zero, List.set_cons_succ]
          refine held_take (i := 4) (d := some 23) (v := ?_) rfl (by kernel_rfl) (by kernel_rfl) (by kernel_rfl) (by kernel_rfl) (fun _ _ _ h => h) (by kernel_rfl) ?_ hHeld ?_
          rotate_left
          · intro w' hSw
            have gA := AT.out.below hSw hbr
            have c0 := gA.c0
            have c1 := gA.c1
            have c2 := gA.c2
            have c3 := gA.c3
            have c4 := gA.c4
            have c5 := gA.c5
            have c6 := gA.c6
            have c7 := gA.c7
            have c8 := gA.c8
            have c9 := gA.c9
            have c10 := gA.c10
            simp only at c0 c1 c2 c3 c4 c5 c6 c7 c8 c9 c10
            go_simp
            first | done | with_reducible rfl
          simp only [Act.put, List.setIfInBounds_toArray, List.set_cons_zero, List.set_cons_succ]
          refine wpAnyH_ready (rs := [5]) (by kernel_rfl) (by simp) ?_
          refine AllReadyH.cons rfl (fun K hK => ?_) AllReadyH.nil
          go_simp
          refine (K1.out _ (HT.out.below hHeld) (by have := (HPW.out.below hHeld); rw [HPV.out] at this; exact this)).mono ?_
          rintro e w1 ⟨rfl, b1⟩
          have D1 := hHeld.trans (b1.mono hHeld.size)
          go_simp
          refine hK.out _ _ (D1) (fun hHeld => ?_)
          clear hK K
          try simp only [Act.put, List.setIfInBounds_toArray, List.set_cons_zero, List.set_cons_succ]
          refine held_take (i := 6) (d := some 25) (v := ?_) rfl (by kernel_rfl) (by kernel_rfl) (by kernel_rfl) (by kernel_rfl) (fun _ _ _ h => h) (by kernel_rfl) ?_ hHeld ?_
          rotate_left
          · intro w' hSw
            go_simp
            first | done | with_reducible rfl
          simp only [Act.put, List.setIfInBounds_toArray, List.set_cons_zero, List.set_cons_succ]
          refine held_take (i := 7) (d := some 26) (v := ?_) rfl (by kernel_rfl) (by kernel_rfl) (by kernel_rfl) (by kernel_rfl) (fun _ _ _ h => h) (by kernel_rfl) ?_ hHeld ?_
          rotate_left
          · intro w' hSw
            go_simp
            first | done | with_reducible rfl
          simp only [Act.put, List.setIfInBounds_toArray, List.set_cons_zero, List.set_cons_succ]
          refine held_take (i := 8) (d := some 27) (v := ?_) rfl (by kernel_rfl) (by kernel_rfl) (by kernel_rfl) (by kernel_rfl) (fun _ _ _ h => h) (by kernel_rfl) ?_ hHeld ?_
          rotate_left
          · intro w' hSw
            go_simp
            first | done | with_reducible rfl
          simp only [Act.put, List.setIfInBounds_toArray, List.set_cons_zero, List.set_cons_succ]
          refine held_take (i := 9) (d := some 28) (v := ?_) rfl (by kernel_rfl) (by kernel_rfl) (by kernel_rfl) (by kernel_rfl) (fun _ _ _ h => h) (by kernel_rfl) ?_ hHeld ?_
          rotate_left
          · intro w' hSw
            go_simp
            first | done | with_reducible rfl
          simp only [Act.put, List.setIfInBounds_toArray, List.set_cons_zero, List.set_cons_succ]
          refine held_take (i := 10) (d := some 29) (v := ?_) rfl (by kernel_rfl) (by kernel_rfl) (by kernel_rfl) (by kernel_rfl) (fun _ _ _ h => h) (by kernel_rfl) ?_ hHeld ?_
          rotate_left
          · intro w' hSw
            go_simp
            first | done | with_reducible rfl
          simp only [Act.put, List.setIfInBounds_toArray, List.set_cons_zero, List.set_cons_succ]
          refine held_take (i := 11) (d := some 30) (v := ?_) rfl (by kernel_rfl) (by kernel_rfl) (by kernel_rfl) (by kernel_rfl) (fun _ _ _ h => h) (by kernel_rfl) ?_ hHeld ?_
          rotate_left
          · intro w' hSw
            have gA := AT.out.below hSw hbr
            have c0 := gA.c0
            have c1 := gA.c1
            have c2 := gA.c2
            have c3 := gA.c3
            have c4 := gA.c4
            have c5 := gA.c5
            have c6 := gA.c6
            have c7 := gA.c7
            have c8 := gA.c8
            have c9 := gA.c9
            have c10 := gA.c10
            simp only at c0 c1 c2 c3 c4 c5 c6 c7 c8 c9 c10
            go_simp
            first | done | with_reducible rfl
          simp only [Act.put, List.setIfInBounds_toArray, List.set_cons_zero, List.set_cons_succ]
          refine held_take (i := 12) (d := some 31) (v := ?_) rfl (by kernel_rfl) (by kernel_rfl) (by kernel_rfl) (by kernel_rfl) (fun _ _ _ h => h) (by kernel_rfl) ?_ hHeld ?_
          rotate_left
          · intro w' hSw
            have gP := (hkp.out.below hSw hkp.out.lt)
            have e0 := gP.cell 0
            have e1 := gP.cell 1
            have e2 := gP.cell 2
            have e3 := gP.cell 3
            have e4 := gP.cell 4
            have e5 := gP.cell 5
            have e6 := gP.cell 6
            have e7 := gP.cell 7
            have e8 := gP.cell 8
            have e9 := gP.cell 9
            have e10 := gP.cell 10
            simp only [List.getElem?_cons_zero, List.getElem?_cons_succ] at e0 e1 e2 e3 e4 e5 e6 e7 e8 e9 e10
            go_simp
            first | done | with_reducible rfl
          simp only [Act.put, List.setIfInBounds_toArray, List.set_cons_zero, List.set_cons_succ]
          refine wpAnyH_ready (rs := [13]) (by kernel_rfl) (by simp) ?_
          refine AllReadyH.cons rfl (fun K hK => ?_) AllReadyH.nil
          go_simp
          refine (K2.out _ (HT.out.below hHeld) (by have := (HPW.out.below hHeld); rw [HPV.out] at this; exact this)).mono ?_
          rintro e w2 ⟨rfl, b2⟩
          have D2 := hHeld.trans (b2.mono hHeld.size)
          go_simp
          refine hK.out _ _ (D2) (fun hHeld => ?_)
          clear hK K
          try simp only [Act.put, List.setIfInBounds_toArray, List.set_cons_zero, List.set_cons_succ]
          refine held_take (i := 14) (d := some 33) (v := ?_) rfl (by kernel_rfl) (by kernel_rfl) (by kernel_rfl) (by kernel_rfl) (fun _ _ _ h => h) (by kernel_rfl) ?_ hHeld ?_
          rotate_left
          · intro w' hSw
            go_simp
            first | done | with_reducible rfl
          simp only [Act.put, List.setIfInBounds_toArray, List.set_cons_zero, List.set_cons_succ]
          refine held_take (i := 15) (d := some 34) (v := ?_) rfl (by kernel_rfl) (by kernel_rfl) (by kernel_rfl) (by kernel_rfl) (fun _ _ _ h => h) (by kernel_rfl) ?_ hHeld ?_
          rotate_left
          · intro w' hSw
            go_simp
            first | done | with_reducible rfl
          simp only [Act.put, List.setIfInBounds_toArray, List.set_cons_zero, List.set_cons_succ]
          refine wpAnyH_done (by kernel_rfl) ?_ _
          have O2 := Lib.hid (row_grown (r := none) ho.out (below_grown D2 none) (by simp))
          have kP2 := Lib.hid (hkp.out.below D2 hkp.out.lt)
          have B2 := Lib.hid (hbel.out.trans (D2.mono hbel.out.size))
          go_wp2_with fail
          go_roundw
          case rel => exact ⟨k + 1, xs, v, rfl, by omega, by go_num, Nat.le_succ_of_le hxl.out, HSS.out.symm, O2.out, kP2.out, B2.out⟩
          case measure => simp [intOf]; omega
        · have HSS : Hid (touchM p ((ts.map ActT.a).take (k + 1)) 0 = xs ++ [(k : Int)]) := by have h := HST.out; simp at h; show _ = _; rw [h, hxs.out]
          go_upto_region 7 with (fail)
          refine wp_region_held_drew (S := fun w' => Below wr.heap.size wr w') (by kernel_rfl) ((Below.refl wr.heap.size wr).drew) (fun hHeld => ?_)
          refine held_take (i := 0) (d := some 19) (v := ?_) rfl (by kernel_rfl) (by kernel_rfl) (by kernel_rfl) (by kernel_rfl) (fun _ _ _ h => h) (by kernel_rfl) ?_ hHeld ?_
          rotate_left
          · intro w' hSw
            have gP := (hkp.out.below hSw hkp.out.lt)
            have e0 := gP.cell 0
            have e1 := gP.cell 1
            have e2 := gP.cell 2
            have e3 := gP.cell 3
            have e4 := gP.cell 4
            have e5 := gP.cell 5
            have e6 := gP.cell 6
            have e7 := gP.cell 7
            have e8 := gP.cell 8
            have e9 := gP.cell 9
            have e10 := gP.cell 10
            simp only [List.getElem?_cons_zero, List.getElem?_cons_succ] at e0 e1 e2 e3 e4 e5 e6 e7 e8 e9 e10
            go_simp
            first | done | with_reducible rfl
          simp only [Act.put, List.setIfInBounds_toArray, List.set_cons_zero, List.set_cons_succ]
          refine held_take (i := 1) (d := some 20) (v := ?_) rfl (by kernel_rfl) (by kernel_rfl) (by kernel_rfl) (by kernel_rfl) (fun _ _ _ h => h) (by kernel_rfl) ?_ hHeld ?_
          rotate_left
          · intro w' hSw
            go_simp
            first | done | with_reducible rfl
          simp only [Act.put, List.setIfInBounds_toArray, List.set_cons_zero, List.set_cons_succ]
          refine held_take (i := 2) (d := some 21) (v := ?_) rfl (by kernel_rfl) (by kernel_rfl) (by kernel_rfl) (by kernel_rfl) (fun _ _ _ h => h) (by kernel_rfl) ?_ hHeld ?_
          rotate_left
          · intro w' hSw
            go_simp
            first | done | with_reducible rfl
          simp only [Act.put, List.setIfInBounds_toArray, List.set_cons_zero, List.set_cons_succ]
          refine held_take (i := 3) (d := some 22) (v := ?_) rfl (by kernel_rfl) (by kernel_rfl) (by kernel_rfl) (by kernel_rfl) (fun _ _ _ h => h) (by kernel_rfl) ?_ hHeld ?_
          rotate_left
          · intro w' hSw
            go_simp
            first | done | with_reducible rfl
          simp only [Act.put, List.setIfInBounds_toArray, List.set_cons_zero, List.set_cons_succ]
          refine held_take (i := 4) (d := some 23) (v := ?_) rfl (by kernel_rfl) (by kernel_rfl) (by kernel_rfl) (by kernel_rfl) (fun _ _ _ h => h) (by kernel_rfl) ?_ hHeld ?_
          rotate_left
          · intro w' hSw
            have gA := AT.out.below hSw hbr
            have c0 := gA.c0
            have c1 := gA.c1
            have c2 := gA.c2
            have c3 := gA.c3
            have c4 := gA.c4
            have c5 := gA.c5
            have c6 := gA.c6
            have c7 := gA.c7
            have c8 := gA.c8
            have c9 := gA.c9
            have c10 := gA.c10
            simp only at c0 c1 c2 c3 c4 c5 c6 c7 c8 c9 c10
            go_simp
            first | done | with_reducible rfl
          simp only [Act.put, List.setIfInBounds_toArray, List.set_cons_zero, List.set_cons_succ]
          refine wpAnyH_ready (rs := [5]) (by kernel_rfl) (by simp) ?_
          refine AllReadyH.cons rfl (fun K hK => ?_) AllReadyH.nil
          go_simp
          refine (K1.out _ (HT.out.below hHeld) (by have := (HPW.out.below hHeld); rw [HPV.out] at this; exact this)).mono ?_
          rintro e w1 ⟨rfl, b1⟩
          have D1 := hHeld.trans (b1.mono hHeld.size)
          go_simp
          refine hK.out _ _ (D1) (fun hHeld => ?_)
          clear hK K
          try simp only [Act.put, List.setIfInBounds_toArray, List.set_cons_zero, List.set_cons_succ]
          refine held_take (i := 6) (d := some 25) (v := ?_) rfl (by kernel_rfl) (by kernel_rfl) (by kernel_rfl) (by kernel_rfl) (fun _ _ _ h => h) (by kernel_rfl) ?_ hHeld ?_
          rotate_left
          · intro w' hSw
            go_simp
            first | done | with_reducible rfl
          simp only [Act.put, List.setIfInBounds_toArray, List.set_cons_zero, List.set_cons_succ]
          refine held_take (i := 7) (d := some 26) (v := ?_) rfl (by kernel_rfl) (by kernel_rfl) (by kernel_rfl) (by kernel_rfl) (fun _ _ _ h => h) (by kernel_rfl) ?_ hHeld ?_
          rotate_left
          · intro w' hSw
            go_simp
            first | done | with_reducible rfl
          simp only [Act.put, List.setIfInBounds_toArray, List.set_cons_zero, List.set_cons_succ]
          refine held_take (i := 8) (d := some 27) (v := ?_) rfl (by kernel_rfl) (by kernel_rfl) (by kernel_rfl) (by kernel_rfl) (fun _ _ _ h => h) (by kernel_rfl) ?_ hHeld ?_
          rotate_left
          · intro w' hSw
            go_simp
            first | done | with_reducible rfl
          simp only [Act.put, List.setIfInBounds_toArray, List.set_cons_zero, List.set_cons_succ]
          refine held_take (i := 9) (d := some 28) (v := ?_) rfl (by kernel_rfl) (by kernel_rfl) (by kernel_rfl) (by kernel_rfl) (fun _ _ _ h => h) (by kernel_rfl) ?_ hHeld ?_
          rotate_left
          · intro w' hSw
            go_simp
            first | done | with_reducible rfl
          simp only [Act.put, List.setIfInBounds_toArray, List.set_cons_zero, List.set_cons_succ]
          refine held_take (i := 10) (d := some 29) (v := ?_) rfl (by kernel_rfl) (by kernel_rfl) (by kernel_rfl) (by kernel_rfl) (fun _ _ _ h => h) (by kernel_rfl) ?_ hHeld ?_
          rotate_left
          · intro w' hSw
            go_simp
            first | done | with_reducible rfl
          simp only [Act.put, List.setIfInBounds_toArray, List.set_cons_zero, List.set_cons_succ]
          refine held_take (i := 11) (d := some 30) (v := ?_) rfl (by kernel_rfl) (by kernel_rfl) (by kernel_rfl) (by kernel_rfl) (fun _ _ _ h => h) (by kernel_rfl) ?_ hHeld ?_
          rotate_left
          · intro w' hSw
            have gA := AT.out.below hSw hbr
            have c0 := gA.c0
            have c1 := gA.c1
            have c2 := gA.c2
            have c3 := gA.c3
            have c4 := gA.c4
            have c5 := gA.c5
            have c6 := gA.c6
            have c7 := gA.c7
            have c8 := gA.c8
            have c9 := gA.c9
            have c10 := gA.c10
            simp only at c0 c1 c2 c3 c4 c5 c6 c7 c8 c9 c10
            go_simp
            first | done | with_reducible rfl
          simp only [Act.put, List.setIfInBounds_toArray, List.set_cons_zero, List.set_cons_succ]
          refine held_take (i := 12) (d := some 31) (v := ?_) rfl (by kernel_rfl) (by kernel_rfl) (by kernel_rfl) (by kernel_rfl) (fun _ _ _ h => h) (by kernel_rfl) ?_ hHeld ?_
          rotate_left
          · intro w' hSw
            have gP := (hkp.out.below hSw hkp.out.lt)
            have e0 := gP.cell 0
            have e1 := gP.cell 1
            have e2 := gP.cell 2
            have e3 := gP.cell 3
            have e4 := gP.cell 4
            have e5 := gP.cell 5
            have e6 := gP.cell 6
            have e7 := gP.cell 7
            have e8 := gP.cell 8
            have e9 := gP.cell 9
            have e10 := gP.cell 10
            simp only [List.getElem?_cons_zero, List.getElem?_cons_succ] at e0 e1 e2 e3 e4 e5 e6 e7 e8 e9 e10
            go_simp
            first | done | with_reducible rfl
          simp only [Act.put, List.setIfInBounds_toArray, List.set_cons_zero, List.set_cons_succ]
          refine wpAnyH_ready (rs := [13]) (by kernel_rfl) (by simp) ?_
          refine AllReadyH.cons rfl (fun K hK => ?_) AllReadyH.nil
          go_simp
          refine (K2.out _ (HT.out.below hHeld) (by have := (HPW.out.below hHeld); rw [HPV.out] at this; exact this)).mono ?_
          rintro e w2 ⟨rfl, b2⟩
          have D2 := hHeld.trans (b2.mono hHeld.size)
          go_simp
          refine hK.out _ _ (D2) (fun hHeld => ?_)
          clear hK K
          try simp only [Act.put, List.setIfInBounds_toArray, List.set_cons_zero, List.set_cons_succ]
          refine held_take (i := 14) (d := some 33) (v := ?_) rfl (by kernel_rfl) (by kernel_rfl) (by kernel_rfl) (by kernel_rfl) (fun _ _ _ h => h) (by kernel_rfl) ?_ hHeld ?_
          rotate_left
          · intro w' hSw
            go_simp
            first | done | with_reducible rfl
          simp only [Act.put, List.setIfInBounds_toArray, List.set_cons_zero, List.set_cons_succ]
          refine held_take (i := 15) (d := some 34) (v := ?_) rfl (by kernel_rfl) (by kernel_rfl) (by kernel_rfl) (by kernel_rfl) (fun _ _ _ h => h) (by kernel_rfl) ?_ hHeld ?_
          rotate_left
          · intro w' hSw
            go_simp
            first | done | with_reducible rfl
          simp only [Act.put, List.setIfInBounds_toArray, List.set_cons_zero, List.set_cons_succ]
          refine wpAnyH_done (by kernel_rfl) ?_ _
          have O2 := Lib.hid (row_grown (r := none) ho.out (below_grown D2 none) (by simp))
          have kP2 := Lib.hid (hkp.out.below D2 hkp.out.lt)
          have B2 := Lib.hid (hbel.out.trans (D2.mono hbel.out.size))
          obtain ⟨w4, hw4⟩ : ∃ W, W = w2 := ⟨_, rfl⟩
          rw [← hw4] at O2 kP2 B2 ⊢
          clear hw4 hHeld D2 D1
          have O3 := Lib.hid (row_grown (r := none) O2.out (grown_alloc w4 (.cells #[.int .i64 (k : Int)] 3) none) (by simp))
          have B3 := Lib.hid (B2.out.alloc B2.out.size (.cells #[.int .i64 (k : Int)] 3))
          have kP3 := Lib.hid (kP2.out.alloc (.cells #[.int .i64 (k : Int)] 3))
          have SR := Lib.hid (src_int (w := w4) (k : Int) 3)
          have HM1 : Hid (xs.length + 1 ≤ maxLen) := by have := hxl.out; show _ ≤ _; unfold maxLen; omega
          have HM2 : Hid ((xs.length + 1) * 8 ≤ 140737488355328) := by have := hxl.out; show _ ≤ _; omega
          have hKB : Hid (PB + 1 ≤ (w4.alloc (.cells #[.int .i64 (k : Int)] 3)).heap.size) := by have := kP3.out.lt; show _ ≤ _; omega
          go_wp2_with (at_builtin; refine wpList_app rfl (.tmp 35) (.tmp 37) 29 rfl (PB + 1) 3 i2 _ 1 8 Try.underlying29 hi hz0 hz1 hz2 rfl (by decide) v (.slice (some ⟨w4.heap.size, 0, none⟩) 1 1) xs.length 1 (vi xs) [.int .i64 (k : Int)] rfl rfl O3.out SR.out (by simp [Value.oneCell']) HM1.out HM2.out hKB.out ?_)
          intro v2 w2 hown2 hgrow2 _
          have O4 : Hid (w2.ownsRow (PB + 1) 3 1 v2 (xs ++ [(k : Int)]).length (vi (xs ++ [(k : Int)]))) := by
            show World.ownsRow _ _ _ _ _ _ _
            rw [List.length_append, List.length_singleton, show vi (xs ++ [(k : Int)]) = vi xs ++ [.int .i64 (k : Int)] by simp [vi]]
            exact hown2
          have B4 := Lib.hid (owned_block B3.out O3.out hgrow2 B3.out.size (by omega))
          have kP4 := Lib.hid (kP3.out.same hgrow2.size (hgrow2.block PB kP3.out.lt (fun e => by have := own_block_ge O3.out _ e.symm; omega)))
          clear hown2 hgrow2
          go_wp2
          go_roundw
          case rel => exact ⟨k + 1, xs ++ [(k : Int)], _, rfl, by omega, by go_num, (by have := hxl.out; show _ ≤ _; simp; omega), HSS.out.symm, O4.out, kP4.out, B4.out⟩
          case measure => simp [intOf]; omega
    · have HL : Hid (R = xs) := by
        show _ = _
        rw [HRT.out, hxs.out, List.take_of_length_le (by rw [List.length_map, N1.out]; omega)]
      go_wp2
      go_ret
      obtain ⟨g, hg, hown⟩ := own_of_row rfl ho.out
      obtain ⟨bs, hI, _, hbs⟩ := own_I hown (PB + 1) hg
      refine ⟨v, bs, rfl, by rw [HL.out]; exact hI, fun b hb => by have := hbs b hb; omega, hbel.out⟩
end Go.Proofs.Ytjmefifdofgncaa
