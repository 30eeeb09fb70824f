/- The program's inOrder. Maps whose keys are names: the key's law; nameOf; inOrder at every list. The program's has: a name looked up among those of a set. The program's SetOk: what is plain of it: the model as the program has it. The program's reading of a set and the reference's are one. The program's reading of a set and the reference's are one: the other way. The program's countsUp. The map of a set: a name is there where an act has it; countsUp over it is the model's. -/
import Derived.Test.YtghgiefciijoeaaGreatDoorCI
import Derived.Test.YtghgiefciijoeaaGreatDoorMI
import Derived.Test.YtghgiefciijoeaaGreatDoorBI
import Derived.Test.YtghgiefciijoeaaGreatDoorMB
import Derived.Test.YtghgiefciijoeaaGreatDoorMN
import Derived.DeepKeys4
import Derived.Maps.OwnSet
import Derived.Maps.OwnOps

namespace Go.Proofs.YtghgiefciijoeaaGreatDoor
open Go.RowKit
set_option linter.unusedVariables false
def orderM (n : Int) : Option ActM → List ActM → Bool
 | _, [] => true
 | p, a :: l => actOkM a n && prevOk p a && orderM n (some a) l
set_option maxRecDepth 100000 in
set_option maxHeartbeats 12800000 in
theorem inOrder_some (b off cap len : Nat) (nn : Int) (ts : List ActT) (w : World) (h1 : ts.length = len) (hl : len ≤ 9223372036854775807) (hnn : -9223372036854775808 ≤ nn ∧ nn ≤ 9223372036854775807) (hb : b < w.heap.size) (hr : ∀ t ∈ ts, t.Reads w)
  (hc : ∀ i, i < len → ActAt w b (off + i * 11) (ts.getD i t0)) :
  Calls Tryz.prog 75 #[.slice (some ⟨b, off, none⟩) len cap, .int .i64 nn] w fun e w' => e = .returned (.bool (orderM nn none (ts.map ActT.a))) ∧ Below w.heap.size w w' := by
 have N1 := Lib.hid h1
 have HC := Lib.hid hc
 have HRd := Lib.hid hr
 have HNN := Lib.hid hnn
 obtain ⟨R, hR⟩ : ∃ R, R = orderM nn none (ts.map ActT.a) := ⟨_, rfl⟩
 rw [← hR]
 have HR := Lib.hid hR
 clear h1 hc hR hr hnn
 go_enter Tryz.func75, Tryz.ntmps75
 go_wp2
 go_loopw [9] (fun i wr => ∃ k : Nat, k ≤ len ∧ i = .int .i64 k ∧ Hid (R = orderM nn (prevM (ts.map ActT.a) k) ((ts.map ActT.a).drop k)) ∧ Hid (Below w.heap.size w wr)) (fun i _ => len - (intOf i).toNat)
 case atStart => exact ⟨0, Nat.zero_le _, rfl, HR.out, Below.refl _ _⟩
 case round =>
  obtain ⟨k, hk, rfl, hg, hbel⟩ := hrel
  by_cases hlt : k < len
  ·have hm := getD_mem (ts := ts) (i := k) (by rw [N1.out]; exact hlt)
   have AT := Lib.hid ((HC.out k hlt).below hbel.out hb)
   have HT := Lib.hid ((HRd.out _ hm).below hbel.out)
   have hst := hg.out
   rw [drop_ts (by rw [N1.out]; exact hlt), orderM] at hst
   have hpv : prevM (ts.map ActT.a) (k + 1) = some (ts.getD k t0).a := by rw [prev_succ, getD_map (by rw [N1.out]; exact hlt)]
   rw [← hpv] at hst
   obtain ⟨t, htt⟩ : ∃ t, t = ts.getD k t0 := ⟨_, rfl⟩
   rw [← htt] at AT HT hst
   clear hg hm htt hpv
   obtain ⟨⟨r, n, dep, actor, kind, dst, bucket, mask, gr, gn, ups⟩, vd, vs⟩ := t
   have hsd := ints_len HT.out.1
   have hsu := ups_len HT.out.2
   simp only at hsd hsu hst
   obtain ⟨da, dc, hvd⟩ := hsd
   obtain ⟨ua, uc, hvs⟩ := hsu
   obtain ⟨dl, hdl⟩ : ∃ dl, dl = dep.length := ⟨_, rfl⟩
   obtain ⟨ul, hul⟩ : ∃ ul, ul = ups.length := ⟨_, rfl⟩
   rw [← hdl] at hvd
   rw [← hul] at hvs
   subst hvd
   subst hvs
   clear hdl hul
   obtain ⟨X, hX⟩ : ∃ X, X = actOkM ⟨r, n, dep, actor, kind, dst, bucket, mask, gr, gn, ups⟩ nn := ⟨_, rfl⟩
   obtain ⟨Y, hY⟩ : ∃ Y, Y = prevOk (prevM (ts.map ActT.a) k) ⟨r, n, dep, actor, kind, dst, bucket, mask, gr, gn, ups⟩ := ⟨_, rfl⟩
   rw [← hX, ← hY] at hst
   have HST := Lib.hid hst
   have HX := Lib.hid hX
   have HY := Lib.hid hY
   clear hst hX hY
   have c0 := AT.out.c0
   have c1 := AT.out.c1
   have c2 := AT.out.c2
   have c3 := AT.out.c3
   have c4 := AT.out.c4
   have c5 := AT.out.c5
   have c6 := AT.out.c6
   have c7 := AT.out.c7
   have c8 := AT.out.c8
   have c9 := AT.out.c9
   have c10 := AT.out.c10
   simp only at c0 c1 c2 c3 c4 c5 c6 c7 c8 c9 c10
   go_upto_region 4 with (fail)
   clear c0 c1 c2 c3 c4 c5 c6 c7 c8 c9 c10
   obtain ⟨Q, hQ⟩ : ∃ Q, Q = wr.heap.size := ⟨_, rfl⟩
   refine wp_gen (fun wt hwt => ?_)
   have kq : Blk (wr.alloc (.cells #[.int .i64 r, .int .i64 n, .slice da dl dc, .int .i64 actor, .int .i64 kind, .int .i64 dst, .int .i64 bucket, .int .i64 mask, .int .i64 gr, .int .i64 gn, .slice ua ul uc] 32)) wr.heap.size [.int .i64 r, .int .i64 n, .slice da dl dc, .int .i64 actor, .int .i64 kind, .int .i64 dst, .int .i64 bucket, .int .i64 mask, .int .i64 gr, .int .i64 gn, .slice ua ul uc] := Blk.new wr #[.int .i64 r, .int .i64 n, .slice da dl dc, .int .i64 actor, .int .i64 kind, .int .i64 dst, .int .i64 bucket, .int .i64 mask, .int .i64 gr, .int .i64 gn, .slice ua ul uc] 32
   have bq := (Below.refl wr.heap.size wr).alloc (Nat.le_refl _) (.cells #[.int .i64 r, .int .i64 n, .slice da dl dc, .int .i64 actor, .int .i64 kind, .int .i64 dst, .int .i64 bucket, .int .i64 mask, .int .i64 gr, .int .i64 gn, .slice ua ul uc] 32)
   rw [← hwt] at kq bq
   have HT2 := Lib.hid (HT.out.below bq)
   have KQ := Lib.hid kq
   have HB := Lib.hid (hbel.out.trans (bq.mono hbel.out.size))
   have hlq := KQ.out.lt
   have hbt : b < wt.heap.size := Nat.lt_of_lt_of_le hb HB.out.size
   rw [← hQ] at KQ hlq ⊢
   clear hwt kq bq hQ HT AT hbel
   have D0 := Lib.hid ((Below.refl wt.heap.size wt).drew)
   have AK := Lib.hid (fun W (h : ((⟨⟨r, n, dep, actor, kind, dst, bucket, mask, gr, gn, ups⟩, .slice da dl dc, .slice ua ul uc⟩ : ActT)).Reads W) => implActOk_any ((⟨⟨r, n, dep, actor, kind, dst, bucket, mask, gr, gn, ups⟩, .slice da dl dc, .slice ua ul uc⟩ : ActT)).val ⟨r, n, dep, actor, kind, dst, bucket, mask, gr, gn, ups⟩ nn W h.is HNN.out)
   simp only [← HX.out, ActT.val] at AK
   cases X
   ·have HRF := Lib.hid (show R = false by rw [HST.out]; simp)
    go_wp2_with fail
    refine wp_region_held_drew (S := fun w' => Below wt.heap.size wt w') (by kernel_rfl) (D0.out) (fun hHeld => ?_)
    refine held_take (i := 0) (d := some 14) (v := ?_) rfl (by kernel_rfl) (by kernel_rfl) (by kernel_rfl) (by kernel_rfl) (fun _ _ _ h => h) (by kernel_rfl) ?_ hHeld ?_
    rotate_left
    ·intro w' hSw
     have qq := (KQ.out.below hSw hlq).cell
     go_simp
     first | done | with_reducible rfl
    simp only [Act.put, List.setIfInBounds_toArray, List.set_cons_zero, List.set_cons_succ]
    refine held_take (i := 1) (d := some 15) (v := ?_) rfl (by kernel_rfl) (by kernel_rfl) (by kernel_rfl) (by kernel_rfl) (fun _ _ _ h => h) (by kernel_rfl) ?_ hHeld ?_
    rotate_left
    ·intro w' hSw
     go_simp
     first | done | with_reducible rfl
    simp only [Act.put, List.setIfInBounds_toArray, List.set_cons_zero, List.set_cons_succ]
    refine wpAnyH_ready (rs := [2]) (by kernel_rfl) (by simp) ?_
    refine AllReadyH.cons rfl (fun K hK => ?_) AllReadyH.nil
    go_simp
    refine (AK.out _ (HT2.out.below hHeld)).mono ?_
    rintro e w1 ⟨rfl, b1⟩
    have D1 := Lib.hid (hHeld.trans (b1.mono hHeld.size))
    clear b1
    go_simp
    refine hK.out _ _ (D1.out) (fun hHeld => ?_)
    clear hK K
    try simp only [Act.put, List.setIfInBounds_toArray, List.set_cons_zero, List.set_cons_succ]
    refine held_take (i := 3) (d := some 17) (v := ?_) rfl (by kernel_rfl) (by kernel_rfl) (by kernel_rfl) (by kernel_rfl) (fun _ _ _ h => h) (by kernel_rfl) ?_ hHeld ?_
    rotate_left
    ·intro w' hSw
     go_simp
     first | done | with_reducible rfl
    simp only [Act.put, List.setIfInBounds_toArray, List.set_cons_zero, List.set_cons_succ]
    refine held_take (i := 4) (d := some 18) (v := ?_) rfl (by kernel_rfl) (by kernel_rfl) (by kernel_rfl) (by kernel_rfl) (fun _ _ _ h => h) (by kernel_rfl) ?_ hHeld ?_
    rotate_left
    ·intro w' hSw
     go_simp
     first | done | with_reducible rfl
    simp only [Act.put, List.setIfInBounds_toArray, List.set_cons_zero, List.set_cons_succ]
    refine held_skip (i := 5) (d := some 19) rfl (by kernel_rfl) (by kernel_rfl) (by kernel_rfl) (by kernel_rfl) (fun _ _ _ h => h) (by kernel_rfl) hHeld ?_
    simp only [Act.put, List.setIfInBounds_toArray, List.set_cons_zero, List.set_cons_succ]
    refine held_skip (i := 6) (d := some 20) rfl (by kernel_rfl) (by kernel_rfl) (by kernel_rfl) (by kernel_rfl) (fun _ _ _ h => h) (by kernel_rfl) hHeld ?_
    simp only [Act.put, List.setIfInBounds_toArray, List.set_cons_zero, List.set_cons_succ]
    refine held_skip (i := 7) (d := some 21) rfl (by kernel_rfl) (by kernel_rfl) (by kernel_rfl) (by kernel_rfl) (fun _ _ _ h => h) (by kernel_rfl) hHeld ?_
    simp only [Act.put, List.setIfInBounds_toArray, List.set_cons_zero, List.set_cons_succ]
    refine held_skip (i := 8) (d := some 22) rfl (by kernel_rfl) (by kernel_rfl) (by kernel_rfl) (by kernel_rfl) (fun _ _ _ h => h) (by kernel_rfl) hHeld ?_
    simp only [Act.put, List.setIfInBounds_toArray, List.set_cons_zero, List.set_cons_succ]
    refine held_skip (i := 9) (d := some 23) rfl (by kernel_rfl) (by kernel_rfl) (by kernel_rfl) (by kernel_rfl) (fun _ _ _ h => h) (by kernel_rfl) hHeld ?_
    simp only [Act.put, List.setIfInBounds_toArray, List.set_cons_zero, List.set_cons_succ]
    refine held_skip (i := 10) (d := some 24) rfl (by kernel_rfl) (by kernel_rfl) (by kernel_rfl) (by kernel_rfl) (fun _ _ _ h => h) (by kernel_rfl) hHeld ?_
    simp only [Act.put, List.setIfInBounds_toArray, List.set_cons_zero, List.set_cons_succ]
    refine held_skip (i := 11) (d := some 25) rfl (by kernel_rfl) (by kernel_rfl) (by kernel_rfl) (by kernel_rfl) (fun _ _ _ h => h) (by kernel_rfl) hHeld ?_
    simp only [Act.put, List.setIfInBounds_toArray, List.set_cons_zero, List.set_cons_succ]
    refine held_skip (i := 12) (d := some 26) rfl (by kernel_rfl) (by kernel_rfl) (by kernel_rfl) (by kernel_rfl) (fun _ _ _ h => h) (by kernel_rfl) hHeld ?_
    simp only [Act.put, List.setIfInBounds_toArray, List.set_cons_zero, List.set_cons_succ]
    refine held_skip (i := 13) (d := some 27) rfl (by kernel_rfl) (by kernel_rfl) (by kernel_rfl) (by kernel_rfl) (fun _ _ _ h => h) (by kernel_rfl) hHeld ?_
    simp only [Act.put, List.setIfInBounds_toArray, List.set_cons_zero, List.set_cons_succ]
    refine held_skip (i := 14) (d := some 28) rfl (by kernel_rfl) (by kernel_rfl) (by kernel_rfl) (by kernel_rfl) (fun _ _ _ h => h) (by kernel_rfl) hHeld ?_
    simp only [Act.put, List.setIfInBounds_toArray, List.set_cons_zero, List.set_cons_succ]
    refine held_skip (i := 15) (d := some 29) rfl (by kernel_rfl) (by kernel_rfl) (by kernel_rfl) (by kernel_rfl) (fun _ _ _ h => h) (by kernel_rfl) hHeld ?_
    simp only [Act.put, List.setIfInBounds_toArray, List.set_cons_zero, List.set_cons_succ]
    refine held_skip (i := 16) (d := some 30) rfl (by kernel_rfl) (by kernel_rfl) (by kernel_rfl) (by kernel_rfl) (fun _ _ _ h => h) (by kernel_rfl) hHeld ?_
    simp only [Act.put, List.setIfInBounds_toArray, List.set_cons_zero, List.set_cons_succ]
    refine held_take (i := 17) (d := some 31) (v := ?_) rfl (by kernel_rfl) (by kernel_rfl) (by kernel_rfl) (by kernel_rfl) (fun _ _ _ h => h) (by kernel_rfl) ?_ hHeld ?_
    rotate_left
    ·intro w' hSw
     go_simp
     first | done | with_reducible rfl
    simp only [Act.put, List.setIfInBounds_toArray, List.set_cons_zero, List.set_cons_succ]
    refine wpAnyH_done (by kernel_rfl) ?_ _
    go_wp2
    go_ret
    exact ⟨ret_bool HRF.out.symm, HB.out.trans (D1.out.mono HB.out.size)⟩
   ·by_cases hk0 : k = 0
    ·have hy : Y = true := by rw [HY.out, hk0]; rfl
     have HRT := Lib.hid (show R = orderM nn (prevM (ts.map ActT.a) (k + 1)) ((ts.map ActT.a).drop (k + 1)) by rw [HST.out, hy]; simp)
     have e1 : decide ((0 : Int) < (k : Int)) = false := by simp; omega
     have e1' : decide (0 < k) = false := by simp; omega
     have e1n : ¬ 0 < k := by omega
     clear hy hk0
     go_wp2_with fail
     refine wp_region_held_drew (S := fun w' => Below wt.heap.size wt w') (by kernel_rfl) (D0.out) (fun hHeld => ?_)
     refine held_take (i := 0) (d := some 14) (v := ?_) rfl (by kernel_rfl) (by kernel_rfl) (by kernel_rfl) (by kernel_rfl) (fun _ _ _ h => h) (by kernel_rfl) ?_ hHeld ?_
     rotate_left
     ·intro w' hSw
      have qq := (KQ.out.below hSw hlq).cell
      go_simp
      first | done | with_reducible rfl
     simp only [Act.put, List.setIfInBounds_toArray, List.set_cons_zero, List.set_cons_succ]
     refine held_take (i := 1) (d := some 15) (v := ?_) rfl (by kernel_rfl) (by kernel_rfl) (by kernel_rfl) (by kernel_rfl) (fun _ _ _ h => h) (by kernel_rfl) ?_ hHeld ?_
     rotate_left
     ·intro w' hSw
      go_simp
      first | done | with_reducible rfl
     simp only [Act.put, List.setIfInBounds_toArray, List.set_cons_zero, List.set_cons_succ]
     refine wpAnyH_ready (rs := [2]) (by kernel_rfl) (by simp) ?_
     refine AllReadyH.cons rfl (fun K hK => ?_) AllReadyH.nil
     go_simp
     refine (AK.out _ (HT2.out.below hHeld)).mono ?_
     rintro e w1 ⟨rfl, b1⟩
     have D1 := Lib.hid (hHeld.trans (b1.mono hHeld.size))
     clear b1
     go_simp
     refine hK.out _ _ (D1.out) (fun hHeld => ?_)
     clear hK K
     try simp only [Act.put, List.setIfInBounds_toArray, List.set_cons_zero, List.set_cons_succ]
     refine held_take (i := 3) (d := some 17) (v := ?_) rfl (by kernel_rfl) (by kernel_rfl) (by kernel_rfl) (by kernel_rfl) (fun _ _ _ h => h) (by kernel_rfl) ?_ hHeld ?_
     rotate_left
     ·intro w' hSw
      go_simp
      first | done | with_reducible rfl
     simp only [Act.put, List.setIfInBounds_toArray, List.set_cons_zero, List.set_cons_succ]
     refine held_take (i := 4) (d := some 18) (v := ?_) rfl (by kernel_rfl) (by kernel_rfl) (by kernel_rfl) (by kernel_rfl) (fun _ _ _ h => h) (by kernel_rfl) ?_ hHeld ?_
     rotate_left
     ·intro w' hSw
      go_simp
      first | done | with_reducible rfl
     simp only [Act.put, List.setIfInBounds_toArray, List.set_cons_zero, List.set_cons_succ]
     refine held_take (i := 5) (d := some 19) (v := ?_) rfl (by kernel_rfl) (by kernel_rfl) (by kernel_rfl) (by kernel_rfl) (fun _ _ _ h => h) (by kernel_rfl) ?_ hHeld ?_
     rotate_left
     ·intro w' hSw
      go_simp
      first | done | with_reducible rfl
     simp only [Act.put, List.setIfInBounds_toArray, List.set_cons_zero, List.set_cons_succ]
     refine held_take (i := 6) (d := some 20) (v := ?_) rfl (by kernel_rfl) (by kernel_rfl) (by kernel_rfl) (by kernel_rfl) (fun _ _ _ h => h) (by kernel_rfl) ?_ hHeld ?_
     rotate_left
     ·intro w' hSw
      go_simp
      first | done | with_reducible rfl
     simp only [Act.put, List.setIfInBounds_toArray, List.set_cons_zero, List.set_cons_succ]
     refine held_take (i := 7) (d := some 21) (v := ?_) rfl (by kernel_rfl) (by kernel_rfl) (by kernel_rfl) (by kernel_rfl) (fun _ _ _ h => h) (by kernel_rfl) ?_ hHeld ?_
     rotate_left
     ·intro w' hSw
      go_simp
      first | done | with_reducible rfl
     simp only [Act.put, List.setIfInBounds_toArray, List.set_cons_zero, List.set_cons_succ]
     refine held_skip (i := 8) (d := some 22) rfl (by kernel_rfl) (by kernel_rfl) (by kernel_rfl) (by kernel_rfl) (fun _ _ _ h => h) (by kernel_rfl) hHeld ?_
     simp only [Act.put, List.setIfInBounds_toArray, List.set_cons_zero, List.set_cons_succ]
     refine held_skip (i := 9) (d := some 23) rfl (by kernel_rfl) (by kernel_rfl) (by kernel_rfl) (by kernel_rfl) (fun _ _ _ h => h) (by kernel_rfl) hHeld ?_
     simp only [Act.put, List.setIfInBounds_toArray, List.set_cons_zero, List.set_cons_succ]
     refine held_skip (i := 10) (d := some 24) rfl (by kernel_rfl) (by kernel_rfl) (by kernel_rfl) (by kernel_rfl) (fun _ _ _ h => h) (by kernel_rfl) hHeld ?_
     simp only [Act.put, List.setIfInBounds_toArray, List.set_cons_zero, List.set_cons_succ]
     refine held_skip (i := 11) (d := some 25) rfl (by kernel_rfl) (by kernel_rfl) (by kernel_rfl) (by kernel_rfl) (fun _ _ _ h => h) (by kernel_rfl) hHeld ?_
     simp only [Act.put, List.setIfInBounds_toArray, List.set_cons_zero, List.set_cons_succ]
     refine held_skip (i := 12) (d := some 26) rfl (by kernel_rfl) (by kernel_rfl) (by kernel_rfl) (by kernel_rfl) (fun _ _ _ h => h) (by kernel_rfl) hHeld ?_
     simp only [Act.put, List.setIfInBounds_toArray, List.set_cons_zero, List.set_cons_succ]
     refine held_skip (i := 13) (d := some 27) rfl (by kernel_rfl) (by kernel_rfl) (by kernel_rfl) (by kernel_rfl) (fun _ _ _ h => h) (by kernel_rfl) hHeld ?_
     simp only [Act.put, List.setIfInBounds_toArray, List.set_cons_zero, List.set_cons_succ]
     refine held_skip (i := 14) (d := some 28) rfl (by kernel_rfl) (by kernel_rfl) (by kernel_rfl) (by kernel_rfl) (fun _ _ _ h => h) (by kernel_rfl) hHeld ?_
     simp only [Act.put, List.setIfInBounds_toArray, List.set_cons_zero, List.set_cons_succ]
     refine held_skip (i := 15) (d := some 29) rfl (by kernel_rfl) (by kernel_rfl) (by kernel_rfl) (by kernel_rfl) (fun _ _ _ h => h) (by kernel_rfl) hHeld ?_
     simp only [Act.put, List.setIfInBounds_toArray, List.set_cons_zero, List.set_cons_succ]
     refine held_take (i := 16) (d := some 30) (v := ?_) rfl (by kernel_rfl) (by kernel_rfl) (by kernel_rfl) (by kernel_rfl) (fun _ _ _ h => h) (by kernel_rfl) ?_ hHeld ?_
     rotate_left
     ·intro w' hSw
      go_simp
      first | done | with_reducible rfl
     simp only [Act.put, List.setIfInBounds_toArray, List.set_cons_zero, List.set_cons_succ]
     refine held_take (i := 17) (d := some 31) (v := ?_) rfl (by kernel_rfl) (by kernel_rfl) (by kernel_rfl) (by kernel_rfl) (fun _ _ _ h => h) (by kernel_rfl) ?_ hHeld ?_
     rotate_left
     ·intro w' hSw
      go_simp
      first | done | with_reducible rfl
     simp only [Act.put, List.setIfInBounds_toArray, List.set_cons_zero, List.set_cons_succ]
     refine wpAnyH_done (by kernel_rfl) ?_ _
     have BN := Lib.hid (HB.out.trans (D1.out.mono HB.out.size))
     go_wp2
     go_roundw
     case rel => exact ⟨k + 1, by omega, by go_num, HRT.out, BN.out⟩
     case measure => simp [intOf]; omega
    ·obtain ⟨p, hp⟩ : ∃ p, k = p + 1 := ⟨k - 1, by omega⟩
     have hpl : p < len := by omega
     have hm2 := getD_mem (ts := ts) (i := p) (by rw [N1.out]; exact hpl)
     have AT2 := Lib.hid ((HC.out p hpl).below HB.out hb)
     have HU := Lib.hid ((HRd.out _ hm2).below HB.out)
     have hy : Y = aheadM (ts.getD p t0).a ⟨r, n, dep, actor, kind, dst, bucket, mask, gr, gn, ups⟩ := by rw [HY.out, hp, prev_succ, getD_map (by rw [N1.out]; exact hpl)]; rfl
     obtain ⟨u, hu⟩ : ∃ u, u = ts.getD p t0 := ⟨_, rfl⟩
     rw [← hu] at AT2 HU hy
     obtain ⟨⟨r', n', dep', actor', kind', dst', bucket', mask', gr', gn', ups'⟩, vd', vs'⟩ := u
     simp only at hy
     have AH := Lib.hid (fun W (h : ((⟨⟨r', n', dep', actor', kind', dst', bucket', mask', gr', gn', ups'⟩, vd', vs'⟩ : ActT)).Reads W) (h2 : ((⟨⟨r, n, dep, actor, kind, dst, bucket, mask, gr, gn, ups⟩, .slice da dl dc, .slice ua ul uc⟩ : ActT)).Reads W) => implAhead_any ((⟨⟨r', n', dep', actor', kind', dst', bucket', mask', gr', gn', ups'⟩, vd', vs'⟩ : ActT)).val ((⟨⟨r, n, dep, actor, kind, dst, bucket, mask, gr, gn, ups⟩, .slice da dl dc, .slice ua ul uc⟩ : ActT)).val ⟨r', n', dep', actor', kind', dst', bucket', mask', gr', gn', ups'⟩ ⟨r, n, dep, actor, kind, dst, bucket, mask, gr, gn, ups⟩ W h.is h2.is)
     simp only [← hy, ActT.val] at AH
     have e1 : decide ((0 : Int) < (k : Int)) = true := by simp; omega
     have e1' : decide (0 < k) = true := by simp; omega
     have e1n : 0 < k := by omega
     have e2 : IntKind.i64.wrap ((k : Int) - 1) = p := by rw [IntWalk.i64_in _ (by omega)]; omega
     have i0 : (0 : Int) ≤ (p : Int) := by omega
     have i1 : (p : Int) < (len : Int) := by omega
     have HP := Lib.hid hp
     clear hm2 hu hy hp hk0 hpl
     cases Y
     ·have HRF := Lib.hid (show R = false by rw [HST.out]; simp)
      go_wp2_with fail
      refine wp_region_held_drew (S := fun w' => Below wt.heap.size wt w') (by kernel_rfl) (D0.out) (fun hHeld => ?_)
      refine held_take (i := 0) (d := some 14) (v := ?_) rfl (by kernel_rfl) (by kernel_rfl) (by kernel_rfl) (by kernel_rfl) (fun _ _ _ h => h) (by kernel_rfl) ?_ hHeld ?_
      rotate_left
      ·intro w' hSw
       have qq := (KQ.out.below hSw hlq).cell
       go_simp
       first | done | with_reducible rfl
      simp only [Act.put, List.setIfInBounds_toArray, List.set_cons_zero, List.set_cons_succ]
      refine held_take (i := 1) (d := some 15) (v := ?_) rfl (by kernel_rfl) (by kernel_rfl) (by kernel_rfl) (by kernel_rfl) (fun _ _ _ h => h) (by kernel_rfl) ?_ hHeld ?_
      rotate_left
      ·intro w' hSw
       go_simp
       first | done | with_reducible rfl
      simp only [Act.put, List.setIfInBounds_toArray, List.set_cons_zero, List.set_cons_succ]
      refine wpAnyH_ready (rs := [2]) (by kernel_rfl) (by simp) ?_
      refine AllReadyH.cons rfl (fun K hK => ?_) AllReadyH.nil
      go_simp
      refine (AK.out _ (HT2.out.below hHeld)).mono ?_
      rintro e w1 ⟨rfl, b1⟩
      have D1 := Lib.hid (hHeld.trans (b1.mono hHeld.size))
      clear b1
      go_simp
      refine hK.out _ _ (D1.out) (fun hHeld => ?_)
      clear hK K
      try simp only [Act.put, List.setIfInBounds_toArray, List.set_cons_zero, List.set_cons_succ]
      refine held_take (i := 3) (d := some 17) (v := ?_) rfl (by kernel_rfl) (by kernel_rfl) (by kernel_rfl) (by kernel_rfl) (fun _ _ _ h => h) (by kernel_rfl) ?_ hHeld ?_
      rotate_left
      ·intro w' hSw
       go_simp
       first | done | with_reducible rfl
      simp only [Act.put, List.setIfInBounds_toArray, List.set_cons_zero, List.set_cons_succ]
      refine held_take (i := 4) (d := some 18) (v := ?_) rfl (by kernel_rfl) (by kernel_rfl) (by kernel_rfl) (by kernel_rfl) (fun _ _ _ h => h) (by kernel_rfl) ?_ hHeld ?_
      rotate_left
      ·intro w' hSw
       go_simp
       first | done | with_reducible rfl
      simp only [Act.put, List.setIfInBounds_toArray, List.set_cons_zero, List.set_cons_succ]
      refine held_take (i := 5) (d := some 19) (v := ?_) rfl (by kernel_rfl) (by kernel_rfl) (by kernel_rfl) (by kernel_rfl) (fun _ _ _ h => h) (by kernel_rfl) ?_ hHeld ?_
      rotate_left
      ·intro w' hSw
       go_simp
       first | done | with_reducible rfl
      simp only [Act.put, List.setIfInBounds_toArray, List.set_cons_zero, List.set_cons_succ]
      refine held_take (i := 6) (d := some 20) (v := ?_) rfl (by kernel_rfl) (by kernel_rfl) (by kernel_rfl) (by kernel_rfl) (fun _ _ _ h => h) (by kernel_rfl) ?_ hHeld ?_
      rotate_left
      ·intro w' hSw
       go_simp
       first | done | with_reducible rfl
      simp only [Act.put, List.setIfInBounds_toArray, List.set_cons_zero, List.set_cons_succ]
      refine held_take (i := 7) (d := some 21) (v := ?_) rfl (by kernel_rfl) (by kernel_rfl) (by kernel_rfl) (by kernel_rfl) (fun _ _ _ h => h) (by kernel_rfl) ?_ hHeld ?_
      rotate_left
      ·intro w' hSw
       go_simp
       first | done | with_reducible rfl
      simp only [Act.put, List.setIfInBounds_toArray, List.set_cons_zero, List.set_cons_succ]
      refine held_take (i := 8) (d := some 22) (v := ?_) rfl (by kernel_rfl) (by kernel_rfl) (by kernel_rfl) (by kernel_rfl) (fun _ _ _ h => h) (by kernel_rfl) ?_ hHeld ?_
      rotate_left
      ·intro w' hSw
       go_simp
       first | done | with_reducible rfl
      simp only [Act.put, List.setIfInBounds_toArray, List.set_cons_zero, List.set_cons_succ]
      refine held_take (i := 9) (d := some 23) (v := ?_) rfl (by kernel_rfl) (by kernel_rfl) (by kernel_rfl) (by kernel_rfl) (fun _ _ _ h => h) (by kernel_rfl) ?_ hHeld ?_
      rotate_left
      ·intro w' hSw
       go_simp
       first | done | with_reducible rfl
      simp only [Act.put, List.setIfInBounds_toArray, List.set_cons_zero, List.set_cons_succ]
      refine held_take (i := 10) (d := some 24) (v := ?_) rfl (by kernel_rfl) (by kernel_rfl) (by kernel_rfl) (by kernel_rfl) (fun _ _ _ h => h) (by kernel_rfl) ?_ hHeld ?_
      rotate_left
      ·intro w' hSw
       go_simp
       first | done | with_reducible rfl
      simp only [Act.put, List.setIfInBounds_toArray, List.set_cons_zero, List.set_cons_succ]
      refine held_take (i := 11) (d := some 25) (v := ?_) rfl (by kernel_rfl) (by kernel_rfl) (by kernel_rfl) (by kernel_rfl) (fun _ _ _ h => h) (by kernel_rfl) ?_ hHeld ?_
      rotate_left
      ·intro w' hSw
       go_simp
       first | done | with_reducible rfl
      simp only [Act.put, List.setIfInBounds_toArray, List.set_cons_zero, List.set_cons_succ]
      refine held_take (i := 12) (d := some 26) (v := ?_) rfl (by kernel_rfl) (by kernel_rfl) (by kernel_rfl) (by kernel_rfl) (fun _ _ _ h => h) (by kernel_rfl) ?_ hHeld ?_
      rotate_left
      ·intro w' hSw
       have qq := AT2.out.below hSw hbt
       have q0 := qq.c0
       have q1 := qq.c1
       have q2 := qq.c2
       have q3 := qq.c3
       have q4 := qq.c4
       have q5 := qq.c5
       have q6 := qq.c6
       have q7 := qq.c7
       have q8 := qq.c8
       have q9 := qq.c9
       have q10 := qq.c10
       clear qq
       go_simp
       first | done | with_reducible rfl
      simp only [Act.put, List.setIfInBounds_toArray, List.set_cons_zero, List.set_cons_succ]
      refine held_take (i := 13) (d := some 27) (v := ?_) rfl (by kernel_rfl) (by kernel_rfl) (by kernel_rfl) (by kernel_rfl) (fun _ _ _ h => h) (by kernel_rfl) ?_ hHeld ?_
      rotate_left
      ·intro w' hSw
       have qq := (KQ.out.below hSw hlq).cell
       go_simp
       first | done | with_reducible rfl
      simp only [Act.put, List.setIfInBounds_toArray, List.set_cons_zero, List.set_cons_succ]
      refine wpAnyH_ready (rs := [14]) (by kernel_rfl) (by simp) ?_
      refine AllReadyH.cons rfl (fun K hK => ?_) AllReadyH.nil
      go_simp
      refine (AH.out _ (HU.out.below hHeld) (HT2.out.below hHeld)).mono ?_
      rintro e w2 ⟨rfl, b2⟩
      have D2 := Lib.hid (hHeld.trans (b2.mono hHeld.size))
      clear b2
      go_simp
      refine hK.out _ _ (D2.out) (fun hHeld => ?_)
      clear hK K
      try simp only [Act.put, List.setIfInBounds_toArray, List.set_cons_zero, List.set_cons_succ]
      refine held_take (i := 15) (d := some 29) (v := ?_) rfl (by kernel_rfl) (by kernel_rfl) (by kernel_rfl) (by kernel_rfl) (fun _ _ _ h => h) (by kernel_rfl) ?_ hHeld ?_
      rotate_left
      ·intro w' hSw
       go_simp
       first | done | with_reducible rfl
      simp only [Act.put, List.setIfInBounds_toArray, List.set_cons_zero, List.set_cons_succ]
      refine held_take (i := 16) (d := some 30) (v := ?_) rfl (by kernel_rfl) (by kernel_rfl) (by kernel_rfl) (by kernel_rfl) (fun _ _ _ h => h) (by kernel_rfl) ?_ hHeld ?_
      rotate_left
      ·intro w' hSw
       go_simp
       first | done | with_reducible rfl
      simp only [Act.put, List.setIfInBounds_toArray, List.set_cons_zero, List.set_cons_succ]
      refine held_take (i := 17) (d := some 31) (v := ?_) rfl (by kernel_rfl) (by kernel_rfl) (by kernel_rfl) (by kernel_rfl) (fun _ _ _ h => h) (by kernel_rfl) ?_ hHeld ?_
      rotate_left
      ·intro w' hSw
       go_simp
       first | done | with_reducible rfl
      simp only [Act.put, List.setIfInBounds_toArray, List.set_cons_zero, List.set_cons_succ]
      refine wpAnyH_done (by kernel_rfl) ?_ _
      go_wp2
      go_ret
      exact ⟨ret_bool HRF.out.symm, HB.out.trans (D2.out.mono HB.out.size)⟩
     ·have HRT := Lib.hid (show R = orderM nn (prevM (ts.map ActT.a) (k + 1)) ((ts.map ActT.a).drop (k + 1)) by rw [HST.out]; simp)
      go_wp2_with fail
      refine wp_region_held_drew (S := fun w' => Below wt.heap.size wt w') (by kernel_rfl) (D0.out) (fun hHeld => ?_)
      refine held_take (i := 0) (d := some 14) (v := ?_) rfl (by kernel_rfl) (by kernel_rfl) (by kernel_rfl) (by kernel_rfl) (fun _ _ _ h => h) (by kernel_rfl) ?_ hHeld ?_
      rotate_left
      ·intro w' hSw
       have qq := (KQ.out.below hSw hlq).cell
       go_simp
       first | done | with_reducible rfl
      simp only [Act.put, List.setIfInBounds_toArray, List.set_cons_zero, List.set_cons_succ]
      refine held_take (i := 1) (d := some 15) (v := ?_) rfl (by kernel_rfl) (by kernel_rfl) (by kernel_rfl) (by kernel_rfl) (fun _ _ _ h => h) (by kernel_rfl) ?_ hHeld ?_
      rotate_left
      ·intro w' hSw
       go_simp
       first | done | with_reducible rfl
      simp only [Act.put, List.setIfInBounds_toArray, List.set_cons_zero, List.set_cons_succ]
      refine wpAnyH_ready (rs := [2]) (by kernel_rfl) (by simp) ?_
      refine AllReadyH.cons rfl (fun K hK => ?_) AllReadyH.nil
      go_simp
      refine (AK.out _ (HT2.out.below hHeld)).mono ?_
      rintro e w1 ⟨rfl, b1⟩
      have D1 := Lib.hid (hHeld.trans (b1.mono hHeld.size))
      clear b1
      go_simp
      refine hK.out _ _ (D1.out) (fun hHeld => ?_)
      clear hK K
      try simp only [Act.put, List.setIfInBounds_toArray, List.set_cons_zero, List.set_cons_succ]
      refine held_take (i := 3) (d := some 17) (v := ?_) rfl (by kernel_rfl) (by kernel_rfl) (by kernel_rfl) (by kernel_rfl) (fun _ _ _ h => h) (by kernel_rfl) ?_ hHeld ?_
      rotate_left
      ·intro w' hSw
       go_simp
       first | done | with_reducible rfl
      simp only [Act.put, List.setIfInBounds_toArray, List.set_cons_zero, List.set_cons_succ]
      refine held_take (i := 4) (d := some 18) (v := ?_) rfl (by kernel_rfl) (by kernel_rfl) (by kernel_rfl) (by kernel_rfl) (fun _ _ _ h => h) (by kernel_rfl) ?_ hHeld ?_
      rotate_left
      ·intro w' hSw
       go_simp
       first | done | with_reducible rfl
      simp only [Act.put, List.setIfInBounds_toArray, List.set_cons_zero, List.set_cons_succ]
      refine held_take (i := 5) (d := some 19) (v := ?_) rfl (by kernel_rfl) (by kernel_rfl) (by kernel_rfl) (by kernel_rfl) (fun _ _ _ h => h) (by kernel_rfl) ?_ hHeld ?_
      rotate_left
      ·intro w' hSw
       go_simp
       first | done | with_reducible rfl
      simp only [Act.put, List.setIfInBounds_toArray, List.set_cons_zero, List.set_cons_succ]
      refine held_take (i := 6) (d := some 20) (v := ?_) rfl (by kernel_rfl) (by kernel_rfl) (by kernel_rfl) (by kernel_rfl) (fun _ _ _ h => h) (by kernel_rfl) ?_ hHeld ?_
      rotate_left
      ·intro w' hSw
       go_simp
       first | done | with_reducible rfl
      simp only [Act.put, List.setIfInBounds_toArray, List.set_cons_zero, List.set_cons_succ]
      refine held_take (i := 7) (d := some 21) (v := ?_) rfl (by kernel_rfl) (by kernel_rfl) (by kernel_rfl) (by kernel_rfl) (fun _ _ _ h => h) (by kernel_rfl) ?_ hHeld ?_
      rotate_left
      ·intro w' hSw
       go_simp
       first | done | with_reducible rfl
      simp only [Act.put, List.setIfInBounds_toArray, List.set_cons_zero, List.set_cons_succ]
      refine held_take (i := 8) (d := some 22) (v := ?_) rfl (by kernel_rfl) (by kernel_rfl) (by kernel_rfl) (by kernel_rfl) (fun _ _ _ h => h) (by kernel_rfl) ?_ hHeld ?_
      rotate_left
      ·intro w' hSw
       go_simp
       first | done | with_reducible rfl
      simp only [Act.put, List.setIfInBounds_toArray, List.set_cons_zero, List.set_cons_succ]
      refine held_take (i := 9) (d := some 23) (v := ?_) rfl (by kernel_rfl) (by kernel_rfl) (by kernel_rfl) (by kernel_rfl) (fun _ _ _ h => h) (by kernel_rfl) ?_ hHeld ?_
      rotate_left
      ·intro w' hSw
       go_simp
       first | done | with_reducible rfl
      simp only [Act.put, List.setIfInBounds_toArray, List.set_cons_zero, List.set_cons_succ]
      refine held_take (i := 10) (d := some 24) (v := ?_) rfl (by kernel_rfl) (by kernel_rfl) (by kernel_rfl) (by kernel_rfl) (fun _ _ _ h => h) (by kernel_rfl) ?_ hHeld ?_
      rotate_left
      ·intro w' hSw
       go_simp
       first | done | with_reducible rfl
      simp only [Act.put, List.setIfInBounds_toArray, List.set_cons_zero, List.set_cons_succ]
      refine held_take (i := 11) (d := some 25) (v := ?_) rfl (by kernel_rfl) (by kernel_rfl) (by kernel_rfl) (by kernel_rfl) (fun _ _ _ h => h) (by kernel_rfl) ?_ hHeld ?_
      rotate_left
      ·intro w' hSw
       go_simp
       first | done | with_reducible rfl
      simp only [Act.put, List.setIfInBounds_toArray, List.set_cons_zero, List.set_cons_succ]
      refine held_take (i := 12) (d := some 26) (v := ?_) rfl (by kernel_rfl) (by kernel_rfl) (by kernel_rfl) (by kernel_rfl) (fun _ _ _ h => h) (by kernel_rfl) ?_ hHeld ?_
      rotate_left
      ·intro w' hSw
       have qq := AT2.out.below hSw hbt
       have q0 := qq.c0
       have q1 := qq.c1
       have q2 := qq.c2
       have q3 := qq.c3
       have q4 := qq.c4
       have q5 := qq.c5
       have q6 := qq.c6
       have q7 := qq.c7
       have q8 := qq.c8
       have q9 := qq.c9
       have q10 := qq.c10
       clear qq
       go_simp
       first | done | with_reducible rfl
      simp only [Act.put, List.setIfInBounds_toArray, List.set_cons_zero, List.set_cons_succ]
      refine held_take (i := 13) (d := some 27) (v := ?_) rfl (by kernel_rfl) (by kernel_rfl) (by kernel_rfl) (by kernel_rfl) (fun _ _ _ h => h) (by kernel_rfl) ?_ hHeld ?_
      rotate_left
      ·intro w' hSw
       have qq := (KQ.out.below hSw hlq).cell
       go_simp
       first | done | with_reducible rfl
      simp only [Act.put, List.setIfInBounds_toArray, List.set_cons_zero, List.set_cons_succ]
      refine wpAnyH_ready (rs := [14]) (by kernel_rfl) (by simp) ?_
      refine AllReadyH.cons rfl (fun K hK => ?_) AllReadyH.nil
      go_simp
      refine (AH.out _ (HU.out.below hHeld) (HT2.out.below hHeld)).mono ?_
      rintro e w2 ⟨rfl, b2⟩
      have D2 := Lib.hid (hHeld.trans (b2.mono hHeld.size))
      clear b2
      go_simp
      refine hK.out _ _ (D2.out) (fun hHeld => ?_)
      clear hK K
      try simp only [Act.put, List.setIfInBounds_toArray, List.set_cons_zero, List.set_cons_succ]
      refine held_take (i := 15) (d := some 29) (v := ?_) rfl (by kernel_rfl) (by kernel_rfl) (by kernel_rfl) (by kernel_rfl) (fun _ _ _ h => h) (by kernel_rfl) ?_ hHeld ?_
      rotate_left
      ·intro w' hSw
       go_simp
       first | done | with_reducible rfl
      simp only [Act.put, List.setIfInBounds_toArray, List.set_cons_zero, List.set_cons_succ]
      refine held_take (i := 16) (d := some 30) (v := ?_) rfl (by kernel_rfl) (by kernel_rfl) (by kernel_rfl) (by kernel_rfl) (fun _ _ _ h => h) (by kernel_rfl) ?_ hHeld ?_
      rotate_left
      ·intro w' hSw
       go_simp
       first | done | with_reducible rfl
      simp only [Act.put, List.setIfInBounds_toArray, List.set_cons_zero, List.set_cons_succ]
      refine held_take (i := 17) (d := some 31) (v := ?_) rfl (by kernel_rfl) (by kernel_rfl) (by kernel_rfl) (by kernel_rfl) (fun _ _ _ h => h) (by kernel_rfl) ?_ hHeld ?_
      rotate_left
      ·intro w' hSw
       go_simp
       first | done | with_reducible rfl
      simp only [Act.put, List.setIfInBounds_toArray, List.set_cons_zero, List.set_cons_succ]
      refine wpAnyH_done (by kernel_rfl) ?_ _
      have BN := Lib.hid (HB.out.trans (D2.out.mono HB.out.size))
      go_wp2
      go_roundw
      case rel => exact ⟨k + 1, by omega, by go_num, HRT.out, BN.out⟩
      case measure => simp [intOf]; omega
  ·have HRT := Lib.hid (show R = true by rw [hg.out, drop_end (by simp; rw [N1.out]; omega)]; rfl)
   go_wp2_with fail
   go_ret
   exact ⟨ret_bool HRT.out.symm, hbel.out⟩
end Go.Proofs.YtghgiefciijoeaaGreatDoor
namespace Go.Proofs.YtghgiefciijoeaaGreatDoor
open Go.RowKit Go.WideMaps
set_option linter.unusedVariables false
theorem laidOut_ : laidOutB Tryz.prog = true := by kernel_rfl
theorem rowName : (85 : TypeId) < Tryz.prog.types.size := of_decide_eq_true (by kernel_rfl)
theorem wideName : (match Tryz.prog.underlying 85 with | some (.array _ _) | some (.struct _) => true | _ => false) = true := by kernel_rfl
set_option maxRecDepth 100000 in
theorem lawName : KeyLaw Tryz.prog 85 := deep_law_laid laidOut_ (m := 3) (by omega) rowName (by kernel_rfl) wideName
theorem keyedName : Maps.Keyed Tryz.prog 85 := Maps.Keyed.of_law lawName
def nameL (r n : Int) : Lit := .string (keyBytes [.int .i64 r, .int .i64 n])
def nameV (r n : Int) : Value := .agg #[.int .i64 r, .int .i64 n]
theorem nameKey (r n : Int) (hr : -9223372036854775808 ≤ r ∧ r ≤ 9223372036854775807) (hn : -9223372036854775808 ≤ n ∧ n ≤ 9223372036854775807) : keyOf Tryz.prog 85 (nameV r n) = some (nameL r n) := by
 have hk : Tryz.prog.keyType 85 = true := by kernel_rfl
 have hf : (nameV r n).formed Tryz.prog 85 = true := by
  have hc : Tryz.prog.cellsOf 85 = 2 := by kernel_rfl
  simp [nameV, Value.formed, Tryz.underlying85, hc]
 unfold keyOf
 rw [Tryz.underlying85]
 simp only [hk, hf, Bool.and_self, if_true]
 have h1 : (Lit.int .i64 r).wf = true := by simpa [Lit.wf, IntKind.min, IntKind.max, IntKind.signed, IntKind.bits] using hr
 have h2 : (Lit.int .i64 n).wf = true := by simpa [Lit.wf, IntKind.min, IntKind.max, IntKind.signed, IntKind.bits] using hn
 have hs : ∃ d, Tryz.prog.types.size = d + 1 := ⟨Tryz.prog.types.size - 1, by have h9 : (85 : Nat) < Tryz.prog.types.size := rowName; omega⟩
 obtain ⟨d, hd⟩ := hs
 have hc : Tryz.prog.cellsOf 85 = 2 := by kernel_rfl
 have hc3 : Tryz.prog.cellsOf 3 = 1 := by kernel_rfl
 have e : (nameV r n).cells.toList = [.int .i64 r, .int .i64 n] := rfl
 rw [hd, e]
 simp [Program.keyLits, Tryz.underlying85, Tryz.underlying3, hc, hc3, h1, h2, nameL]
theorem nameL_inj {r n r' n' : Int} (hr : -9223372036854775808 ≤ r ∧ r ≤ 9223372036854775807) (hn : -9223372036854775808 ≤ n ∧ n ≤ 9223372036854775807) (hr' : -9223372036854775808 ≤ r' ∧ r' ≤ 9223372036854775807) (hn' : -9223372036854775808 ≤ n' ∧ n' ≤ 9223372036854775807)
  (h : nameL r n = nameL r' n') : r = r' ∧ n = n' := by
 have h1 := nameKey r n hr hn
 have h2 := nameKey r' n' hr' hn'
 rw [h] at h1
 have := lawName.inj h1 h2
 simp only [nameV, Value.agg.injEq, Array.mk.injEq, List.cons.injEq, Value.int.injEq, and_true, true_and] at this
 exact this
def NameMade (w : World) (a : ActM) (e : Ending) (w' : World) : Prop := e = .returned (nameV a.r a.n) ∧ Below w.heap.size w w'
set_option maxRecDepth 100000 in
set_option maxHeartbeats 1600000 in
theorem nameOf_any (t : ActT) (w : World) (h : t.Reads w) : Calls Tryz.prog 55 #[t.val] w (NameMade w t.a) := by
 obtain ⟨⟨r, n, dep, actor, kind, dst, bucket, mask, gr, gn, ups⟩, vd, vs⟩ := t
 have hsd := ints_len h.1
 have hsu := ups_len h.2
 simp only at hsd hsu
 obtain ⟨da, dc, rfl⟩ := hsd
 obtain ⟨ua, uc, rfl⟩ := hsu
 clear h
 show Calls _ _ #[Value.agg #[.int .i64 r, .int .i64 n, .slice da dep.length dc, .int .i64 actor, .int .i64 kind, .int .i64 dst, .int .i64 bucket, .int .i64 mask, .int .i64 gr, .int .i64 gn, .slice ua ups.length uc]] w _
 go_enter Tryz.func55, Tryz.ntmps55
 go_wp2
 refine bodyPost_ret (v := nameV r n) (by simp [results, Tryz.results55, go_sem, nameV]) rfl ⟨rfl, ?_⟩
 repeat (first | with_reducible refine Below.setCell ?_ ?_ _ | with_reducible refine Below.alloc ?_ ?_ _)
 all_goals (first | exact Below.refl _ _ | simp | (simp; omega))
theorem inOrder_any (v : Value) (l : List ActM) (nn : Int) (w : World) (h : Acts w v l) (hnn : -9223372036854775808 ≤ nn ∧ nn ≤ 9223372036854775807) :
  Calls Tryz.prog 75 #[v, .int .i64 nn] w fun e w' => e = .returned (.bool (orderM nn none l)) ∧ Below w.heap.size w w' := by
 obtain ⟨ts, rfl, ht⟩ := h
 have hm := actsT_max ht
 rcases ht.2 with ⟨a, cap, rfl, rfl⟩ | ⟨b, off, cap, rfl, h1, h2, h3, h4⟩
 ·go_enter Tryz.func75, Tryz.ntmps75
  go_wp2
  go_loop [9] (fun i => i = .int .i64 0) (fun _ => 0)
  case atStart => exact rfl
  case round =>
   obtain rfl := hrel
   go_wp2
   go_ret
   exact ⟨rfl, Below.refl _ _⟩
 ·exact inOrder_some b off cap _ nn ts w rfl hm hnn h1 ht.1 h4
end Go.Proofs.YtghgiefciijoeaaGreatDoor
namespace Go.Proofs.YtghgiefciijoeaaGreatDoor
open Go.RowKit
set_option linter.unusedVariables false
set_option maxRecDepth 100000 in
set_option maxHeartbeats 1600000 in
theorem has_any (a : Option Addr) (l c b n : Nat) (p x0 x1 x2 x3 r k : Int) (D : DataW Unit) (w : World) (hown : w.ownsMap Tryz.prog 85 (plainElem Tryz.prog 3) b n D)
  (hr : -9223372036854775808 ≤ r ∧ r ≤ 9223372036854775807) (hk : -9223372036854775808 ≤ k ∧ k ≤ 9223372036854775807) :
  Calls Tryz.prog 101 #[.agg #[.slice a l c, .map (some b), .int .i64 p, .int .i64 x0, .int .i64 x1, .int .i64 x2, .int .i64 x3], nameV r k] w fun e w' => e = .returned (.bool (Maps.has D (nameL r k))) ∧ Below w.heap.size w w' := by
 have hz : ∀ w : World, (zeroValue 3).run Tryz.prog w = .ok (.int .i64 0) w := fun _ => by kernel_rfl
 have HZ := Lib.hid hz
 have HK := Lib.hid (nameKey r k hr hk)
 have HO := Lib.hid ((hown.alloc (.cells #[.slice a l c, .map (some b), .int .i64 p, .int .i64 x0, .int .i64 x1, .int .i64 x2, .int .i64 x3] 73)).alloc (.cells #[.int .i64 r, .int .i64 k] 85))
 have HB := Lib.hid (((Below.refl w.heap.size w).alloc (Nat.le_refl _) (.cells #[.slice a l c, .map (some b), .int .i64 p, .int .i64 x0, .int .i64 x1, .int .i64 x2, .int .i64 x3] 73)).alloc (by simp) (.cells #[.int .i64 r, .int .i64 k] 85))
 obtain ⟨X, hX⟩ : ∃ X, X = Maps.has D (nameL r k) := ⟨_, rfl⟩
 rw [← hX]
 have HX := Lib.hid hX
 clear hz hown hX
 show Calls _ _ #[_, Value.agg #[.int .i64 r, .int .i64 k]] w _
 go_enter Tryz.func101, Tryz.ntmps101
 go_wp2_with (at_lookup; refine wpList_lookup_own_ok_int _ rfl (.tmp 9) (.tmp 10) 68 rfl 85 3 .i64 keyedName Tryz.underlying68 Tryz.underlying3 (HZ.out _) b n D rfl HO.out (nameV r k) (nameL r k) rfl HK.out ?_; intro cc _ _; rw [← HX.out])
 go_ret
 exact ⟨rfl, HB.out⟩
end Go.Proofs.YtghgiefciijoeaaGreatDoor
namespace Go.Proofs.YtghgiefciijoeaaGreatDoor
open Go.RowKit
set_option linter.unusedVariables false
def cntM (l : List ActM) (p : Nat) : Nat := (l.filter fun a => decide (a.r = (p : Int))).length
def countsUpM (l : List ActM) (n : Nat) : Bool := (List.range n).all fun p => (List.range (cntM l p)).all fun k => l.any fun a => decide (a.r = (p : Int)) && decide (a.n = (k : Int) + 1)
def closedM (l : List ActM) (n : Nat) : Bool := l.all fun a => leqB a.dep (clockM l n) && l.all fun b => !decide (b.n ≤ a.dep.getD b.r.toNat 0) || leqB b.dep a.dep
def progM (l : List ActM) (n : Nat) : Bool := orderM n none l && countsUpM l n && closedM l n
theorem order_all {n : Int} : ∀ (l : List ActM) (p : Option ActM), orderM n p l = true → ∀ a ∈ l, actOkM a n = true
 | [], _, _, a, ha => by cases ha
 | x :: l, p, h, a, ha => by
  simp only [orderM, Bool.and_eq_true] at h
  rcases List.mem_cons.1 ha with rfl | ha
  ·exact h.1.1
  ·exact order_all l _ h.2 a ha
theorem scan_order {n : Int} : ∀ (l : List ActM) (p : Option ActM) (v x : List Int), scanM n p v l = some x → orderM n p l = true
 | [], _, _, _, _ => rfl
 | a :: l, p, v, x, h => by
  rw [scanM] at h
  split at h
  ·rename_i hc
   simp only [orderM, Bool.and_eq_true]
   exact ⟨⟨hc.1, hc.2.1⟩, scan_order l _ _ _ h⟩
  ·cases h
theorem scan_clock {n : Int} : ∀ (l : List ActM) (p : Option ActM) (v x : List Int), scanM n p v l = some x → x = clockFrom l v
 | [], _, _, _, h => by cases h; rfl
 | a :: l, p, v, x, h => by
  rw [scanM] at h
  split at h
  ·rw [clockFrom]; exact scan_clock l _ _ _ h
  ·cases h
theorem ahead_trans {a b c : ActM} (h : aheadM a b = true) (h' : aheadM b c = true) : aheadM a c = true := by
 unfold aheadM at *
 split at h <;> split at h' <;> split <;> simp_all <;> omega
theorem order_pairwise {n : Int} : ∀ (l : List ActM) (p : Option ActM), orderM n p l = true → l.Pairwise (fun a b => aheadM a b = true) ∧ ∀ q, p = some q → ∀ b ∈ l, aheadM q b = true
 | [], _, _ => ⟨List.Pairwise.nil, fun q _ b hb => by cases hb⟩
 | a :: l, p, h => by
  simp only [orderM, Bool.and_eq_true] at h
  obtain ⟨h1, h2⟩ := order_pairwise l (some a) h.2
  refine ⟨List.pairwise_cons.2 ⟨h2 a rfl, h1⟩, fun q hq b hb => ?_⟩
  subst hq
  have hqa : aheadM q a = true := h.1.2
  rcases List.mem_cons.1 hb with rfl | hb
  ·exact hqa
  ·exact ahead_trans hqa (h2 a rfl b hb)
end Go.Proofs.YtghgiefciijoeaaGreatDoor
namespace Go.Proofs.YtghgiefciijoeaaGreatDoor
open Go.RowKit
set_option linter.unusedVariables false
theorem cnt_app (l m : List ActM) (p : Nat) : cntM (l ++ m) p = cntM l p + cntM m p := by simp [cntM]
theorem cnt_one (a : ActM) (p : Nat) : cntM [a] p = if a.r = (p : Int) then 1 else 0 := by
 unfold cntM
 by_cases h : a.r = (p : Int) <;> simp [h]
structure Inv (n : Nat) (pre : List ActM) (v : List Int) : Prop where
 len : v.length = n
 cnt : ∀ p, p < n → v.getD p 0 = (cntM pre p : Int)
 has : ∀ p, p < n → ∀ k, k < cntM pre p → ∃ a ∈ pre, a.r = (p : Int) ∧ a.n = (k : Int) + 1
theorem inv_zero (n : Nat) : Inv n [] (List.replicate n 0) :=
 ⟨by simp, fun p hp => by simp [List.getD, hp, cntM], fun p hp k hk => by simp [cntM] at hk⟩
theorem inv_step {n : Nat} {pre : List ActM} {v : List Int} {a : ActM} (h : Inv n pre v) (h0 : 0 ≤ a.r) (h1 : a.r < n) (hn : a.n = v.getD a.r.toNat 0 + 1) : Inv n (pre ++ [a]) (v.set a.r.toNat (v.getD a.r.toNat 0 + 1)) := by
 have hl := h.len
 obtain ⟨q, hq⟩ := Int.eq_ofNat_of_zero_le h0
 have hqn : q < n := by omega
 have hqt : a.r.toNat = q := by omega
 rw [hqt] at hn ⊢
 refine ⟨by simpa using hl, fun p hp => ?_, fun p hp k hk => ?_⟩
 ·rw [cnt_app, cnt_one]
  by_cases e : q = p
  ·subst e
   have : (v.set q (v.getD q 0 + 1)).getD q 0 = v.getD q 0 + 1 := by simp [List.getD, hl, hqn]
   rw [this, h.cnt q hqn, if_pos hq]
   omega
  ·have : (v.set q (v.getD q 0 + 1)).getD p 0 = v.getD p 0 := by simp [List.getD, e]
   rw [this, h.cnt p hp, if_neg (by omega)]
   omega
 ·rw [cnt_app, cnt_one] at hk
  by_cases hk2 : k < cntM pre p
  ·obtain ⟨b, hb, r⟩ := h.has p hp k hk2
   exact ⟨b, List.mem_append_left _ hb, r⟩
  ·by_cases e : a.r = (p : Int)
   ·rw [if_pos e] at hk
    have hpq : p = q := by omega
    subst hpq
    refine ⟨a, by simp, e, ?_⟩
    rw [hn, h.cnt p hp]
    omega
   ·rw [if_neg e] at hk
    omega
theorem scan_inv {n : Nat} : ∀ (l : List ActM) (p : Option ActM) (pre : List ActM) (v x : List Int), Inv n pre v → scanM n p v l = some x → Inv n (pre ++ l) x
 | [], _, pre, v, x, hi, h => by cases h; simpa using hi
 | a :: l, p, pre, v, x, hi, h => by
  rw [scanM] at h
  split at h
  ·rename_i hc
   obtain ⟨r0, r1, _⟩ := ok_parts hc.1
   have := scan_inv l (some a) (pre ++ [a]) _ x (inv_step hi r0 r1 hc.2.2) h
   simpa using this
  ·cases h
theorem scan_counts {n : Nat} {l : List ActM} {x : List Int} (h : scanM n none (List.replicate n 0) l = some x) : countsUpM l n = true := by
 have hi := scan_inv l none [] _ x (inv_zero n) h
 simp only [List.nil_append] at hi
 simp only [countsUpM, List.all_eq_true, List.mem_range, List.any_eq_true, Bool.and_eq_true, decide_eq_true_eq]
 exact fun p hp k hk => hi.has p hp k hk
theorem knows_ok {a b : ActM} {n : Nat} (ha : actOkM a n = true) (hb : actOkM b n = true) : knowsM a b = decide (b.n ≤ a.dep.getD b.r.toNat 0) := by
 obtain ⟨_, _, hl⟩ := ok_parts ha
 obtain ⟨r0, r1, _⟩ := ok_parts hb
 have hn : 1 ≤ b.n := by
  simp only [actOkM, Bool.and_eq_true, decide_eq_true_eq] at hb
  omega
 have h1 : decide (0 ≤ b.r) = true := by simpa using r0
 have h2 : decide (b.r < (a.dep.length : Int)) = true := by simp; omega
 have h3 : decide (1 ≤ b.n) = true := by simpa using hn
 rw [knowsM, h1, h2, h3]
 simp
theorem second_eq {n : Nat} (v : List Int) (l : List ActM) (hok : ∀ a ∈ l, actOkM a n = true) : ∀ rest : List ActM, (∀ a ∈ rest, a ∈ l) → secondM v l rest = rest.all fun a => leqB a.dep v && l.all fun b => !decide (b.n ≤ a.dep.getD b.r.toNat 0) || leqB b.dep a.dep
 | [], _ => rfl
 | a :: rest, h => by
  rw [secondM, second_eq v l hok rest (fun x hx => h x (List.mem_cons_of_mem _ hx)), List.all_cons]
  congr 1
  congr 1
  rw [Bool.eq_iff_iff]
  simp only [List.all_eq_true]
  have hp : ∀ b ∈ l, pairB a b = (!decide (b.n ≤ a.dep.getD b.r.toNat 0) || leqB b.dep a.dep) := fun b hb => by
   rw [pairB, knows_ok (hok a (h a (by simp))) (hok b hb)]
  exact ⟨fun H b hb => by rw [← hp b hb]; exact H b hb, fun H b hb => by rw [hp b hb]; exact H b hb⟩
theorem ref_prog {l : List ActM} {n : Nat} (h : afterM l (scanM n none (List.replicate n 0) l) = true) : progM l n = true := by
 unfold afterM at h
 cases hs : scanM n none (List.replicate n 0) l with
 | none => rw [hs] at h; cases h
 | some x =>
  rw [hs] at h
  have ho := scan_order l none _ x hs
  have hx := scan_clock l none _ x hs
  have hok := order_all l none ho
  have h2 : secondM x l l = true := h
  rw [second_eq x l hok l (fun a ha => ha)] at h2
  have hcl : x = clockM l n := hx
  rw [hcl] at h2
  simp only [progM, Bool.and_eq_true]
  exact ⟨⟨ho, scan_counts hs⟩, h2⟩
theorem sorted_all : ∀ (c : Nat) (xs : List Int), xs.length = c → xs.Pairwise (· ≤ ·) → (∀ k, k < c → ((k : Int) + 1) ∈ xs) → ∀ i, i < c → xs.getD i 0 = (i : Int) + 1
 | 0, _, _, _, _, i, hi => by omega
 | c + 1, xs, hl, hp, hh, i, hi => by
  have hne : xs ≠ [] := by intro e; rw [e] at hl; simp at hl
  obtain ⟨ys, y, rfl⟩ : ∃ ys y, xs = ys ++ [y] := ⟨xs.dropLast, xs.getLast hne, (List.dropLast_concat_getLast hne).symm⟩
  have hly : ys.length = c := by simpa using hl
  obtain ⟨hp1, _, hp2⟩ := List.pairwise_append.1 hp
  have hmax : ∀ x ∈ ys, x ≤ y := fun x hx => hp2 x hx y (by simp)
  have hyc : (c : Int) + 1 ≤ y := by
   have := hh c (by omega)
   rcases List.mem_append.1 this with h | h
   ·exact hmax _ h
   ·simp at h; omega
  have hys : ∀ k, k < c → ((k : Int) + 1) ∈ ys := fun k hk => by
   have := hh k (by omega)
   rcases List.mem_append.1 this with h | h
   ·exact h
   ·simp at h; omega
  have ih := sorted_all c ys hly hp1 hys
  by_cases hic : i < c
  ·have := ih i hic
   simpa [List.getD, List.getElem?_append, hly, hic] using this
  ·have hie : i = c := by omega
   subst hie
   have hc1 := hh i (by omega)
   rcases List.mem_append.1 hc1 with h | h
   ·obtain ⟨j, hj, e⟩ := List.mem_iff_getElem.1 h
    have := ih j (by omega)
    simp only [List.getD, List.getElem?_eq_getElem hj, Option.getD_some] at this
    omega
   ·simp at h
    simp [List.getD, hly]
    omega
theorem wrap_small (x : Int) (h0 : 0 ≤ x) (h1 : x ≤ 1000000) : wrap64 x = x := by
 unfold wrap64
 omega
theorem sumW_small {xs : List Int} (h : okB xs = true) : sumW xs = xs.sum := by
 simp only [okB, Bool.and_eq_true, decide_eq_true_eq, List.all_eq_true, good] at h
 obtain ⟨⟨h1, h4⟩, hg⟩ := h
 have g := fun x hx => hg x hx
 match xs, h1, h4 with
 | [a], _, _ =>
  have := g a (by simp)
  simp [sumW]
  exact wrap_small a (by omega) (by omega)
 | [a, b], _, _ =>
  have ga := g a (by simp)
  have gb := g b (by simp)
  simp [sumW]
  rw [wrap_small a (by omega) (by omega), wrap_small (a + b) (by omega) (by omega)]
 | [a, b, c], _, _ =>
  have ga := g a (by simp)
  have gb := g b (by simp)
  have gc := g c (by simp)
  simp [sumW]
  rw [wrap_small a (by omega) (by omega), wrap_small (a + b) (by omega) (by omega), wrap_small (a + b + c) (by omega) (by omega)]
  omega
 | [a, b, c, d], _, _ =>
  have ga := g a (by simp)
  have gb := g b (by simp)
  have gc := g c (by simp)
  have gd := g d (by simp)
  simp [sumW]
  rw [wrap_small a (by omega) (by omega), wrap_small (a + b) (by omega) (by omega), wrap_small (a + b + c) (by omega) (by omega), wrap_small (a + b + c + d) (by omega) (by omega)]
  omega
theorem sum_lt : ∀ (xs ys : List Int) (q : Nat), xs.length = ys.length → (∀ i, i < xs.length → xs.getD i 0 ≤ ys.getD i 0) → q < xs.length → xs.getD q 0 < ys.getD q 0 → xs.sum < ys.sum
 | [], _, q, _, _, hq, _ => by simp at hq
 | x :: xs, [], _, hl, _, _, _ => by simp at hl
 | x :: xs, y :: ys, q, hl, hle, hq, hlt => by
  have hl' : xs.length = ys.length := by simpa using hl
  have h0 : x ≤ y := by simpa using hle 0 (by simp)
  have hle' : ∀ i, i < xs.length → xs.getD i 0 ≤ ys.getD i 0 := fun i hi => by simpa using hle (i + 1) (by simpa using hi)
  have hsum : xs.sum ≤ ys.sum := by
   clear hlt hq hle h0 hl
   induction xs generalizing ys with
   | nil => cases ys with
    | nil => simp
    | cons y ys => simp at hl'
   | cons x xs ih => cases ys with
    | nil => simp at hl'
    | cons y ys =>
     have a1 : x ≤ y := by simpa using hle' 0 (by simp)
     have a2 := ih ys (by simpa using hl') (fun i hi => by simpa using hle' (i + 1) (by simpa using hi))
     simp only [List.sum_cons]
     omega
  cases q with
  | zero =>
   have : x < y := by simpa using hlt
   simp only [List.sum_cons]
   omega
  | succ q =>
   have := sum_lt xs ys q hl' hle' (by simpa using hq) (by simpa using hlt)
   simp only [List.sum_cons]
   omega
end Go.Proofs.YtghgiefciijoeaaGreatDoor
namespace Go.Proofs.YtghgiefciijoeaaGreatDoor
open Go.RowKit
set_option linter.unusedVariables false
theorem ahead_not_both (a b : ActM) : ¬ (aheadM a b = true ∧ aheadM b a = true) := by
 unfold aheadM
 intro h
 by_cases e : sumW a.dep = sumW b.dep
 ·rw [if_pos e, if_pos e.symm] at h
  simp only [Bool.or_eq_true, Bool.and_eq_true, decide_eq_true_eq] at h
  omega
 ·rw [if_neg e, if_neg (fun h => e h.symm)] at h
  simp only [decide_eq_true_eq] at h
  omega
theorem ok_dep {a : ActM} {n : Nat} (h : actOkM a n = true) : okB a.dep = true ∧ a.dep.getD a.r.toNat 0 = a.n - 1 := by
 simp only [actOkM, Bool.and_eq_true, decide_eq_true_eq] at h
 exact ⟨by simp [h], by omega⟩
theorem lesser_ahead {l : List ActM} {n : Nat} (hok : ∀ a ∈ l, actOkM a n = true) (hc : closedM l n = true) {a b : ActM} (ha : a ∈ l) (hb : b ∈ l) (hr : a.r = b.r) (hn : a.n < b.n) : aheadM a b = true := by
 have oa := ok_dep (hok a ha)
 have ob := ok_dep (hok b hb)
 obtain ⟨r0, r1, la⟩ := ok_parts (hok a ha)
 obtain ⟨_, _, lb⟩ := ok_parts (hok b hb)
 simp only [closedM, List.all_eq_true, Bool.and_eq_true, Bool.or_eq_true, Bool.not_eq_true', decide_eq_false_iff_not] at hc
 have h1 := (hc b hb).2 a ha
 have h2 : leqB a.dep b.dep = true := by
  rcases h1 with h1 | h1
  ·exact absurd (by rw [hr, ob.2]; omega) h1
  ·exact h1
 have h3 := (leqB_iff _ _).1 h2
 have hlt : a.dep.getD a.r.toNat 0 < b.dep.getD a.r.toNat 0 := by rw [oa.2, hr, ob.2]; omega
 have hs := sum_lt a.dep b.dep a.r.toNat (by omega) h3 (by omega) hlt
 unfold aheadM
 rw [sumW_small oa.1, sumW_small ob.1, if_neg (by omega)]
 simpa using hs
theorem number_of {l pre post : List ActM} {a : ActM} {n : Nat} (ho : orderM n none l = true) (hcu : countsUpM l n = true) (hc : closedM l n = true) (hl : l = pre ++ a :: post) : a.n = (cntM pre a.r.toNat : Int) + 1 := by
 have hok := order_all l none ho
 have ham : a ∈ l := by rw [hl]; simp
 obtain ⟨r0, r1, _⟩ := ok_parts (hok a ham)
 obtain ⟨p, hp⟩ := Int.eq_ofNat_of_zero_le r0
 have hpn : p < n := by omega
 have hpt : a.r.toNat = p := by omega
 rw [hpt]
 have hpw := (order_pairwise l none ho).1
 have hsort : ((l.filter fun b => decide (b.r = (p : Int))).map ActM.n).Pairwise (· ≤ ·) := by
  rw [List.pairwise_map]
  refine (hpw.filter _).imp_of_mem fun {x y} hx hy h => ?_
  obtain ⟨hx1, hx2⟩ := List.mem_filter.1 hx
  obtain ⟨hy1, hy2⟩ := List.mem_filter.1 hy
  simp only [decide_eq_true_eq] at hx2 hy2
  by_cases hlt : y.n < x.n
  ·exact absurd ⟨h, lesser_ahead hok hc hy1 hx1 (by omega) hlt⟩ (ahead_not_both x y)
  ·omega
 have hhas : ∀ k, k < cntM l p → ((k : Int) + 1) ∈ (l.filter fun b => decide (b.r = (p : Int))).map ActM.n := by
  intro k hk
  simp only [countsUpM, List.all_eq_true, List.mem_range, List.any_eq_true, Bool.and_eq_true, decide_eq_true_eq] at hcu
  obtain ⟨x, hx, h1, h2⟩ := hcu p hpn k hk
  exact List.mem_map.2 ⟨x, List.mem_filter.2 ⟨hx, by simpa using h1⟩, h2⟩
 have hcnt : cntM l p = cntM pre p + (1 + cntM post p) := by
  rw [hl, cnt_app, show a :: post = [a] ++ post from rfl, cnt_app, cnt_one, if_pos hp]
 have hall := sorted_all (cntM l p) _ (by simp [cntM]) hsort hhas (cntM pre p) (by omega)
 have hsplit : (l.filter fun b => decide (b.r = (p : Int))).map ActM.n = (pre.filter fun b => decide (b.r = (p : Int))).map ActM.n ++ a.n :: (post.filter fun b => decide (b.r = (p : Int))).map ActM.n := by
  rw [hl, List.filter_append, List.filter_cons_of_pos (by simpa using hp)]
  simp
 rw [hsplit] at hall
 have hlen : ((pre.filter fun b => decide (b.r = (p : Int))).map ActM.n).length = cntM pre p := by simp [cntM]
 have hget : ((pre.filter fun b => decide (b.r = (p : Int))).map ActM.n ++ a.n :: (post.filter fun b => decide (b.r = (p : Int))).map ActM.n).getD (cntM pre p) 0 = a.n := by
  rw [← hlen]
  simp [List.getD]
 omega
theorem scan_goes {l : List ActM} {n : Nat} (ho : orderM n none l = true) (hcu : countsUpM l n = true) (hc : closedM l n = true) : ∀ (rest pre : List ActM) (p : Option ActM) (v : List Int), l = pre ++ rest → Inv n pre v → orderM n p rest = true → ∃ x, scanM n p v rest = some x
 | [], _, _, v, _, _, _ => ⟨v, rfl⟩
 | a :: rest, pre, p, v, hl, hi, hr => by
  simp only [orderM, Bool.and_eq_true] at hr
  obtain ⟨r0, r1, _⟩ := ok_parts hr.1.1
  have hn : a.n = v.getD a.r.toNat 0 + 1 := by
   rw [number_of ho hcu hc hl, hi.cnt a.r.toNat (by omega)]
  rw [scan_yes hr.1.1 hr.1.2 hn]
  exact scan_goes ho hcu hc rest (pre ++ [a]) (some a) _ (by rw [hl]; simp) (inv_step hi r0 r1 hn) hr.2
theorem prog_ref (l : List ActM) (n : Nat) : progM l n = afterM l (scanM n none (List.replicate n 0) l) := by
 rw [Bool.eq_iff_iff]
 constructor
 ·intro h
  simp only [progM, Bool.and_eq_true] at h
  obtain ⟨⟨ho, hcu⟩, hc⟩ := h
  obtain ⟨x, hx⟩ := scan_goes ho hcu hc l [] none _ rfl (inv_zero n) ho
  have hcl : x = clockM l n := scan_clock l none _ x hx
  rw [hx]
  show secondM x l l = true
  rw [second_eq x l (order_all l none ho) l (fun a ha => ha), hcl]
  exact hc
 ·exact ref_prog
end Go.Proofs.YtghgiefciijoeaaGreatDoor
namespace Go.Proofs.YtghgiefciijoeaaGreatDoor
open Go.RowKit
set_option linter.unusedVariables false
def cuIn (D : DataW Unit) (p : Int) : Nat → Nat → Bool
 | 0, _ => true
 | m + 1, k => Maps.has D (nameL p k) && cuIn D p m (k + 1)
def cuOut (D : DataW Unit) (xs : List Int) : Nat → Nat → Bool
 | 0, _ => true
 | m + 1, p => cuIn D p (xs.getD p 0).toNat 1 && cuOut D xs m (p + 1)
set_option maxRecDepth 100000 in
set_option maxHeartbeats 3200000 in
theorem countsUp_any (a : Option Addr) (l c b n pl : Nat) (x0 x1 x2 x3 : Int) (D : DataW Unit) (w : World) (hown : w.ownsMap Tryz.prog 85 (plainElem Tryz.prog 3) b n D) (hpl : pl ≤ 4)
  (h0 : 0 ≤ x0 ∧ x0 ≤ 100) (h1 : 0 ≤ x1 ∧ x1 ≤ 100) (h2 : 0 ≤ x2 ∧ x2 ≤ 100) (h3 : 0 ≤ x3 ∧ x3 ≤ 100) :
  Calls Tryz.prog 77 #[.agg #[.slice a l c, .map (some b), .int .i64 pl, .int .i64 x0, .int .i64 x1, .int .i64 x2, .int .i64 x3]] w fun e w' => e = .returned (.bool (cuOut D [x0, x1, x2, x3] pl 0)) ∧ Below w.heap.size w w' := by
 obtain ⟨W0, hW0⟩ : ∃ W0, W0 = w.alloc (.cells #[.slice a l c, .map (some b), .int .i64 pl, .int .i64 x0, .int .i64 x1, .int .i64 x2, .int .i64 x3] 73) := ⟨_, rfl⟩
 have k0 : Blk (w.alloc (.cells #[.slice a l c, .map (some b), .int .i64 pl, .int .i64 x0, .int .i64 x1, .int .i64 x2, .int .i64 x3] 73)) w.heap.size [.slice a l c, .map (some b), .int .i64 pl, .int .i64 x0, .int .i64 x1, .int .i64 x2, .int .i64 x3] := Blk.new w _ _
 have b0 := (Below.refl w.heap.size w).alloc (Nat.le_refl _) (.cells #[.slice a l c, .map (some b), .int .i64 pl, .int .i64 x0, .int .i64 x1, .int .i64 x2, .int .i64 x3] 73)
 have o0 := hown.alloc (.cells #[.slice a l c, .map (some b), .int .i64 pl, .int .i64 x0, .int .i64 x1, .int .i64 x2, .int .i64 x3] 73)
 rw [← hW0] at k0 b0 o0
 obtain ⟨Q, hQ⟩ : ∃ Q, Q = w.heap.size := ⟨_, rfl⟩
 rw [← hQ] at k0
 have K0 := Lib.hid k0
 have B0 := Lib.hid b0
 have O0 := Lib.hid o0
 have HX : Hid (∀ p, 0 ≤ [x0, x1, x2, x3].getD p 0 ∧ [x0, x1, x2, x3].getD p 0 ≤ 100) := by
  intro p
  match p with
  | 0 => simpa using h0
  | 1 => simpa using h1
  | 2 => simpa using h2
  | 3 => simpa using h3
  | p + 4 => simp [List.getD]
 have HC : Hid (∀ p, p < 4 → ([.slice a l c, .map (some b), .int .i64 pl, .int .i64 x0, .int .i64 x1, .int .i64 x2, .int .i64 x3] : List Value)[3 + p]? = some (.int .i64 ([x0, x1, x2, x3].getD p 0))) := by
  intro p hp
  match p, hp with
  | 0, _ => rfl
  | 1, _ => rfl
  | 2, _ => rfl
  | 3, _ => rfl
 obtain ⟨R, hR⟩ : ∃ R, R = cuOut D [x0, x1, x2, x3] pl 0 := ⟨_, rfl⟩
 rw [← hR]
 have HR := Lib.hid hR
 clear k0 b0 o0 hown h0 h1 h2 h3 hR
 go_enter Tryz.func77, Tryz.ntmps77
 go_upto_region 1 with (fail)
 rw [← hQ, ← hW0]
 have HQ := Lib.hid hQ
 clear hW0 hQ
 have c0 := K0.out.cell
 go_wp2_with fail
 clear c0
 go_loopw [3, 4, 8] (fun u3 u4 i wr => ∃ p : Nat, p ≤ pl ∧ i = .int .i64 p ∧ Hid (R = cuOut D [x0, x1, x2, x3] (pl - p) p) ∧ Hid (wr.ownsMap Tryz.prog 85 (plainElem Tryz.prog 3) b n D) ∧ Hid (Blk wr Q [.slice a l c, .map (some b), .int .i64 pl, .int .i64 x0, .int .i64 x1, .int .i64 x2, .int .i64 x3]) ∧ Hid (Below w.heap.size w wr)) (fun _ _ i _ => pl - (intOf i).toNat)
 case atStart => exact ⟨0, Nat.zero_le _, rfl, HR.out, O0.out, K0.out, B0.out⟩
 case round =>
  obtain ⟨p, hp, rfl, hg, ho, hk, hb⟩ := hrel
  clear O0 K0 B0
  obtain ⟨wo, rfl⟩ : ∃ wo : World, wo = wr := ⟨_, rfl⟩
  by_cases hlt : p < pl
  ·have hst := hg.out
   rw [show pl - p = (pl - (p + 1)) + 1 from by omega, cuOut] at hst
   have hx := HX.out p
   have hcx := fun W (h : Blk W Q [.slice a l c, .map (some b), .int .i64 pl, .int .i64 x0, .int .i64 x1, .int .i64 x2, .int .i64 x3]) => (h.cell (3 + p)).trans (HC.out p (by omega))
   obtain ⟨x, hxx⟩ : ∃ x, x = [x0, x1, x2, x3].getD p 0 := ⟨_, rfl⟩
   rw [← hxx] at hst hx hcx
   have HCX := Lib.hid hcx
   have HST := Lib.hid hst
   obtain ⟨xn, rfl⟩ := Int.eq_ofNat_of_zero_le hx.1
   have hx100 : xn ≤ 100 := by omega
   clear hcx hst hg hxx hx
   go_wp2_with fail
   go_loopw [4] (fun i wr => ∃ k : Nat, 1 ≤ k ∧ k ≤ xn + 1 ∧ i = .int .i64 k ∧ Hid (R = (cuIn D p (xn + 1 - k) k && cuOut D [x0, x1, x2, x3] (pl - (p + 1)) (p + 1))) ∧ Hid (wr.ownsMap Tryz.prog 85 (plainElem Tryz.prog 3) b n D) ∧ Hid (Blk wr Q [.slice a l c, .map (some b), .int .i64 pl, .int .i64 x0, .int .i64 x1, .int .i64 x2, .int .i64 x3]) ∧ Hid (Below w.heap.size w wr)) (fun i _ => xn + 1 - (intOf i).toNat)
   case atStart => exact ⟨1, by omega, by omega, rfl, by rw [HST.out]; simp [Hid], ho.out, hk.out, hb.out⟩
   case round =>
    clear ho hk hb HST
    obtain ⟨k, hk1, hk2, rfl, hg, ho, hk, hb⟩ := hrel
    have cx := HCX.out wr hk.out
    have i0 : (0 : Int) ≤ (p : Int) := by omega
    have i1 : (p : Int) < 4 := by omega
    by_cases hkl : k ≤ xn
    ·have hst := hg.out
     rw [show xn + 1 - k = (xn + 1 - (k + 1)) + 1 from by omega, cuIn] at hst
     obtain ⟨Y, hY⟩ : ∃ Y, Y = Maps.has D (nameL p k) := ⟨_, rfl⟩
     rw [← hY] at hst
     have CH := has_any a l c b n pl x0 x1 x2 x3 p k D wr ho.out (by omega) (by omega)
     rw [← hY] at CH
     have CH := Lib.hid CH
     have HST := Lib.hid hst
     have c0 := hk.out.cell
     have hbm := ho.out.lt
     clear hg hst hY
     go_wp2_with fail
     refine CH.out.mono ?_
     rintro e w1 ⟨rfl, b1⟩
     have O1 := Lib.hid (ho.out.kept (below_grown b1 none) (by simp))
     have K1 := Lib.hid (hk.out.below b1 hk.out.lt)
     have B1 := Lib.hid (hb.out.trans (b1.mono hb.out.size))
     clear b1 c0 cx
     cases Y
     ·have HRF := Lib.hid (show R = false by rw [HST.out]; simp)
      go_wp2_with fail
      go_ret
      exact ⟨ret_bool HRF.out.symm, B1.out⟩
     ·have HRT := Lib.hid (show R = (cuIn D p (xn + 1 - (k + 1)) (k + 1) && cuOut D [x0, x1, x2, x3] (pl - (p + 1)) (p + 1)) by rw [HST.out]; simp)
      go_wp2_with fail
      go_roundw
      case rel => exact ⟨k + 1, by omega, by omega, by go_num, HRT.out, O1.out, K1.out, B1.out⟩
      case measure => simp [intOf]; omega
    ·have HRT := Lib.hid (show R = cuOut D [x0, x1, x2, x3] (pl - (p + 1)) (p + 1) by rw [hg.out, show xn + 1 - k = 0 from by omega]; rfl)
     go_wp2_with fail
     go_roundw
     case rel => exact ⟨p + 1, by omega, by go_num, HRT.out, ho.out, hk.out, hb.out⟩
     case measure => simp [intOf]; omega
  ·have HRT := Lib.hid (show R = true by rw [hg.out, show pl - p = 0 from by omega]; rfl)
   go_wp2_with fail
   go_ret
   exact ⟨ret_bool HRT.out.symm, hb.out⟩
end Go.Proofs.YtghgiefciijoeaaGreatDoor
namespace Go.Proofs.YtghgiefciijoeaaGreatDoor
open Go.RowKit
set_option linter.unusedVariables false
def I64 (x : Int) : Prop := -9223372036854775808 ≤ x ∧ x ≤ 9223372036854775807
def atD : List ActM → Nat → DataW Unit → DataW Unit
 | [], _, D => D
 | a :: l, i, D => atD l (i + 1) (D.put (nameL a.r a.n) (.lit (.int .i64 i)))
theorem atD_snoc : ∀ (l : List ActM) (i : Nat) (D : DataW Unit) (a : ActM), atD (l ++ [a]) i D = (atD l i D).put (nameL a.r a.n) (.lit (.int .i64 ((i + l.length : Nat) : Int)))
 | [], i, D, a => by simp [atD]
 | b :: l, i, D, a => by
  simp only [List.cons_append, atD, atD_snoc l (i + 1), List.length_cons]
  rw [show i + 1 + l.length = i + (l.length + 1) from by omega]
theorem has_atD : ∀ (l : List ActM) (i : Nat) (D : DataW Unit) (r n : Int), Maps.IsMap D → (∀ a ∈ l, I64 a.r ∧ I64 a.n) → I64 r → I64 n → Maps.has (atD l i D) (nameL r n) = (l.any (fun a => decide (a.r = r) && decide (a.n = n)) || Maps.has D (nameL r n))
 | [], i, D, r, n, _, _, _, _ => by simp [atD]
 | a :: l, i, D, r, n, hD, hl, hr, hn => by
  have ha := hl a (by simp)
  rw [atD, has_atD l (i + 1) _ r n (hD.put _ _) (fun b hb => hl b (List.mem_cons_of_mem _ hb)) hr hn, List.any_cons]
  by_cases e : a.r = r ∧ a.n = n
  ·obtain ⟨e1, e2⟩ := e
   have hk := keyedName.key (nameKey a.r a.n ha.1 ha.2)
   subst e1
   subst e2
   rw [Maps.has_put_same hD hk]
   simp
  ·have hne : nameL r n ≠ nameL a.r a.n := fun h => e (by
    have := nameL_inj hr hn ha.1 ha.2 h
    exact ⟨this.1.symm, this.2.symm⟩)
   rw [Maps.has_put_other hne]
   have : (decide (a.r = r) && decide (a.n = n)) = false := by
    rw [Bool.and_eq_false_iff]
    by_cases e1 : a.r = r
    ·exact .inr (by simpa using fun e2 => e ⟨e1, e2⟩)
    ·exact .inl (by simpa using e1)
   rw [this]
   simp
theorem cuIn_eq (D : DataW Unit) (p : Int) : ∀ (m k : Nat), cuIn D p m k = (List.range m).all fun j => Maps.has D (nameL p ((k + j : Nat) : Int))
 | 0, k => rfl
 | m + 1, k => by
  rw [cuIn, cuIn_eq D p m (k + 1), List.range_succ_eq_map, List.all_cons, List.all_map]
  simp only [Nat.add_zero]
  congr 1
  congr 1
  funext j
  simp only [Function.comp]
  rw [show k + 1 + j = k + (j + 1) from by omega]
theorem cuOut_eq (D : DataW Unit) (xs : List Int) : ∀ (m p : Nat), cuOut D xs m p = (List.range m).all fun j => cuIn D ((p + j : Nat) : Int) (xs.getD (p + j) 0).toNat 1
 | 0, p => rfl
 | m + 1, p => by
  rw [cuOut, cuOut_eq D xs m (p + 1), List.range_succ_eq_map, List.all_cons, List.all_map]
  simp only [Nat.add_zero]
  congr 1
  congr 1
  funext j
  simp only [Function.comp]
  rw [show p + 1 + j = p + (j + 1) from by omega]
theorem clockFrom_cnt {n : Nat} : ∀ (l : List ActM) (v : List Int), v.length = n → (∀ a ∈ l, 0 ≤ a.r ∧ a.r < n) → ∀ p, p < n → (clockFrom l v).getD p 0 = v.getD p 0 + (cntM l p : Int)
 | [], v, _, _, p, _ => by simp [clockFrom, cntM]
 | a :: l, v, hv, hl, p, hp => by
  obtain ⟨r0, r1⟩ := hl a (by simp)
  obtain ⟨q, hq⟩ := Int.eq_ofNat_of_zero_le r0
  have hqt : a.r.toNat = q := by omega
  rw [clockFrom, clockFrom_cnt l _ (by simpa using hv) (fun b hb => hl b (List.mem_cons_of_mem _ hb)) p hp, show a :: l = [a] ++ l from rfl, cnt_app, cnt_one, hqt]
  by_cases e : q = p
  ·subst e
   have : (v.set q (v.getD q 0 + 1)).getD q 0 = v.getD q 0 + 1 := by simp [List.getD, hv, hp]
   rw [this, if_pos hq]
   omega
  ·have : (v.set q (v.getD q 0 + 1)).getD p 0 = v.getD p 0 := by simp [List.getD, e]
   rw [this, if_neg (by omega)]
   omega
theorem clockM_cnt {n : Nat} (l : List ActM) (hl : ∀ a ∈ l, 0 ≤ a.r ∧ a.r < n) (p : Nat) (hp : p < n) : (clockM l n).getD p 0 = (cntM l p : Int) := by
 rw [clockM, clockFrom_cnt l _ (by simp) hl p hp]
 simp [List.getD, hp]
theorem cu_model {n : Nat} (l : List ActM) (xs : List Int) (hok : ∀ a ∈ l, I64 a.r ∧ I64 a.n) (hn : n ≤ 4) (hlen : l.length ≤ 60) (hx : ∀ p, p < n → xs.getD p 0 = (cntM l p : Int)) : cuOut (atD l 0 (.map [])) xs n 0 = countsUpM l n := by
 rw [cuOut_eq, countsUpM]
 rw [Bool.eq_iff_iff]
 simp only [List.all_eq_true, List.mem_range, Nat.zero_add]
 have hc : ∀ p, cntM l p ≤ 60 := fun p => Nat.le_trans (List.length_filter_le _ _) hlen
 have key : ∀ p, p < n → (cuIn (atD l 0 (.map [])) (p : Int) (xs.getD p 0).toNat 1 = true ↔ ∀ k, k < cntM l p → (l.any fun a => decide (a.r = (p : Int)) && decide (a.n = (k : Int) + 1)) = true) := by
  intro p hp
  rw [hx p hp, Int.toNat_natCast, cuIn_eq]
  simp only [List.all_eq_true, List.mem_range]
  have h1 : ∀ k, k < cntM l p → Maps.has (atD l 0 (.map [])) (nameL p ((1 + k : Nat) : Int)) = (l.any fun a => decide (a.r = (p : Int)) && decide (a.n = (k : Int) + 1)) := fun k hk => by
   have := hc p
   rw [has_atD l 0 (.map []) p ((1 + k : Nat) : Int) Maps.isMap_empty hok ⟨by omega, by omega⟩ ⟨by omega, by omega⟩]
   have e : ((1 + k : Nat) : Int) = (k : Int) + 1 := by omega
   rw [e]
   have : Maps.has (.map [] : DataW Unit) (nameL p ((k : Int) + 1)) = false := rfl
   rw [this, Bool.or_false]
  exact ⟨fun H k hk => by rw [← h1 k hk]; exact H k hk, fun H k hk => by rw [h1 k hk]; exact H k hk⟩
 exact ⟨fun H p hp => (key p hp).1 (H p hp), fun H p hp => (key p hp).2 (H p hp)⟩
end Go.Proofs.YtghgiefciijoeaaGreatDoor
