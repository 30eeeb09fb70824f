/- MN, MF. -/
import Derived.Test.YtghgiefciijoeaaGreatDoorMC
import Derived.Test.YtghgiefciijoeaaGreatDoorCI
import Derived.Test.YtghgiefciijoeaaGreatDoorAK
import Derived.Deep.DeepCutAuto
import Derived.BigQuiet
import Derived.Deep.QuietTactic

namespace Go.Proofs.YtghgiefciijoeaaGreatDoor
open Go.RowKit
set_option linter.unusedVariables false
theorem owns_list {w w' : World} {lo K size n : Nat} {v : Value} {xs : List Value} {ts : List ActT} (h : ∀ t ∈ ts, t.Owns w lo) (ho : w.ownsRow K 32 size v n xs) (hg : w.grownBy w' v.ownBlock) : ∀ t ∈ ts, t.Owns w' lo :=
 fun t ht => (h t ht).else_ hg (own_else ho)
theorem owns_below {w w' : World} {lo : Nat} {ts : List ActT} (h : ∀ t ∈ ts, t.Owns w lo) (hb : Below w.heap.size w w') : ∀ t ∈ ts, t.Owns w' lo := fun t ht => (h t ht).below hb
def Put (w : World) (lo : Nat) (l : List ActM) (e : Ending) (w' : World) : Prop := ∃ v, e = .returned v ∧ OwnActs w' lo v l ∧ Below w.heap.size w w'
theorem slice_of {w : World} {t : ActT} (h : t.Reads w) : ∃ x m c y n d, t.vd = .slice x m c ∧ t.vs = .slice y n d := by
 obtain ⟨x, c, h1⟩ := ints_len h.1
 obtain ⟨y, d, h2⟩ := ups_len h.2
 exact ⟨x, _, c, y, _, d, h1, h2⟩
theorem put_own {W : World} {lo j : Nat} {v : Value} {ts : List ActT} {t' : ActT} {a : ActM} (hr : W.ownsRow lo 32 11 v (ts.length + 1) (va (ts.take j ++ t' :: ts.drop j))) (he : ∀ x ∈ ts, x.Owns W lo) (ht : t'.Owns W lo)
  (ha : t'.a = a) (hj : putJ (ts.map ActT.a) a ts.length = j) (hl : j ≤ ts.length) : OwnActs W lo v (putM (ts.map ActT.a) a) := by
 refine ⟨ts.take j ++ t' :: ts.drop j, ?_, ?_, fun x hx => ?_⟩
 ·unfold putM
  rw [List.length_map, hj, ← ha]
  simp [List.map_append, List.map_take, List.map_drop]
 ·rw [cur_length ts t' j hl]
  exact hr
 ·simp only [List.mem_append, List.mem_cons] at hx
  rcases hx with hx | rfl | hx
  ·exact he x (List.mem_of_mem_take hx)
  ·exact ht
  ·exact he x (List.mem_of_mem_drop hx)
set_option maxRecDepth 100000 in
set_option maxHeartbeats 6400000 in
theorem l3put_any (lo : Nat) (v : Value) (ts : List ActT) (t : ActT) (w : World) (h : OwnT w lo v ts) (hlo : lo ≤ w.heap.size) (ht : t.Reads w) (hs : t.a.Small) (hl : ts.length ≤ 1048576) :
  Calls Tryz.prog 58 #[v, t.val] w (Put w lo (putM (ts.map ActT.a) t.a)) := by
 obtain ⟨i2, hi, hz0, hz1, hz2⟩ := info_parts Tryz.infoAct
 have HT := Lib.hid ht
 have HS := Lib.hid hs
 have HO := Lib.hid h
 clear h ht hs
 have HTu := HT
 obtain ⟨sa, sm, hsv⟩ := actsT_len (ownT_acts HO.out)
 subst hsv
 have B0 := Lib.hid ((Below.refl w.heap.size w).alloc (Nat.le_refl _) (.cells #[.int .i64 t.a.r, .int .i64 t.a.n, t.vd, .int .i64 t.a.actor, .int .i64 t.a.kind, .int .i64 t.a.to, .int .i64 t.a.bucket, .int .i64 t.a.mask, .int .i64 t.a.gr, .int .i64 t.a.gn, t.vs] 32))
 have K0 := Lib.hid (Blk.new w #[.int .i64 t.a.r, .int .i64 t.a.n, t.vd, .int .i64 t.a.actor, .int .i64 t.a.kind, .int .i64 t.a.to, .int .i64 t.a.bucket, .int .i64 t.a.mask, .int .i64 t.a.gr, .int .i64 t.a.gn, t.vs] 32)
 go_enter Tryz.func58, Tryz.ntmps58
 simp only [ActT.val]
 go_upto_region 1 with (fail)
 obtain ⟨W1, hW1⟩ : ∃ W1, W1 = w.alloc (.cells #[.int .i64 t.a.r, .int .i64 t.a.n, t.vd, .int .i64 t.a.actor, .int .i64 t.a.kind, .int .i64 t.a.to, .int .i64 t.a.bucket, .int .i64 t.a.mask, .int .i64 t.a.gr, .int .i64 t.a.gn, t.vs] 32) := ⟨_, rfl⟩
 rw [← hW1] at B0 K0 ⊢
 have hsz : W1.heap.size = w.heap.size + 1 := by rw [hW1]; simp
 have HSZ := Lib.hid hsz
 clear hW1 hsz
 have O0 := Lib.hid (World.ownsRow_lit (size := 11) (e := 32) (base := W1.heap.size) W1 #[] 0 (Nat.le_refl _) (by unfold maxLen; omega) rfl)
 have B1 := Lib.hid (B0.out.alloc B0.out.size (.cells #[] 32))
 have K1 := Lib.hid (K0.out.alloc (.cells #[] 32))
 have E1 := Lib.hid (HO.out.below B1.out)
 have HM1 : Hid (0 + ts.length ≤ maxLen) := by show _ ≤ _; unfold maxLen; omega
 have HM2 : Hid ((0 + ts.length) * 120 ≤ 140737488355328) := by show _ ≤ _; omega
 have CO := Lib.hid (va_one (ts := ts) (fun x hx => ⟨ints_one (E1.out.2 x hx).reads.1, ups_one (E1.out.2 x hx).reads.2⟩))
 go_wp2_with (at_builtin; refine wpList_app rfl (.tmp 8) (.tmp 9) 23 rfl W1.heap.size 32 i2 _ 11 120 Tryz.underlying23 hi hz0 hz1 hz2 rfl (by decide) _ (.slice sa ts.length sm) 0 ts.length [] (va ts) rfl rfl O0.out (src_acts (ownT_acts E1.out)) CO.out HM1.out HM2.out (by simp) ?_)
 intro v1 w1 hown1 hgrow1 _
 try simp only [Nat.zero_add, List.nil_append] at hown1
 obtain ⟨a1, c1, rfl⟩ := row_shape hown1
 have G1 : (W1.alloc (.cells #[] 32)).grownBy w1 (some W1.heap.size) := hgrow1
 have K2 := Lib.hid (K1.out.grown G1 (by rw [HSZ.out]; omega))
 have B2 := Lib.hid (B1.out.grown G1 B1.out.size (fun k hk => by cases hk; exact B0.out.size))
 have E2 := Lib.hid (owns_list E1.out.2 O0.out hgrow1)
 have R1 := Lib.hid hown1
 have L1 : W1.heap.size + 1 ≤ w1.heap.size := by have := G1.size; simpa using this
 clear hgrow1 G1 hown1 HM1 HM2 CO
 have HT2 := Lib.hid (HT.out.below B2.out)
 have CL := Lib.hid (l2own_any t w1 HT2.out HS.out)
 have c0 := K2.out.cell
 go_wp2_with fail
 refine CL.out.mono ?_
 rintro e w2 ⟨t', hta, rfl, hown, b2⟩
 simp only [ActT.val]
 have B3 := Lib.hid (B2.out.trans (b2.mono B2.out.size))
 have R2 := Lib.hid (row_keep R1.out (fun g _ hl _ => b2.block g hl))
 have E3 := Lib.hid (owns_below E2.out b2)
 have T3 := Lib.hid (hown.less (show lo ≤ w1.heap.size from Nat.le_trans hlo B2.out.size))
 have TA := Lib.hid hta
 have L2 : W1.heap.size + 1 ≤ w2.heap.size := Nat.le_trans L1 b2.size
 clear b2 hown hta c0
 have R3 := Lib.hid (row_keep (w' := w2.alloc (.cells #[.int .i64 t'.a.r, .int .i64 t'.a.n, t'.vd, .int .i64 t'.a.actor, .int .i64 t'.a.kind, .int .i64 t'.a.to, .int .i64 t'.a.bucket, .int .i64 t'.a.mask, .int .i64 t'.a.gr, .int .i64 t'.a.gn, t'.vs] 32)) R2.out (fun g _ hl _ => Below.heap_alloc _ _ _ hl))
 have E4 := Lib.hid (owns_below E3.out ((Below.refl _ _).alloc (Nat.le_refl _) (.cells #[.int .i64 t'.a.r, .int .i64 t'.a.n, t'.vd, .int .i64 t'.a.actor, .int .i64 t'.a.kind, .int .i64 t'.a.to, .int .i64 t'.a.bucket, .int .i64 t'.a.mask, .int .i64 t'.a.gr, .int .i64 t'.a.gn, t'.vs] 32)))
 have T4 := Lib.hid (T3.out.alloc (.cells #[.int .i64 t'.a.r, .int .i64 t'.a.n, t'.vd, .int .i64 t'.a.actor, .int .i64 t'.a.kind, .int .i64 t'.a.to, .int .i64 t'.a.bucket, .int .i64 t'.a.mask, .int .i64 t'.a.gr, .int .i64 t'.a.gn, t'.vs] 32))
 have B4 := Lib.hid (B3.out.alloc B3.out.size (.cells #[.int .i64 t'.a.r, .int .i64 t'.a.n, t'.vd, .int .i64 t'.a.actor, .int .i64 t'.a.kind, .int .i64 t'.a.to, .int .i64 t'.a.bucket, .int .i64 t'.a.mask, .int .i64 t'.a.gr, .int .i64 t'.a.gn, t'.vs] 32))
 have SR := Lib.hid (src_new (w := w2) t' 32)
 have CO := Lib.hid (cells_one T3.out.reads)
 have HM1 : Hid (ts.length + 1 ≤ maxLen) := by show _ ≤ _; unfold maxLen; omega
 have HM2 : Hid ((ts.length + 1) * 120 ≤ 140737488355328) := by show _ ≤ _; omega
 go_wp2_with (at_builtin; refine wpList_app rfl (.tmp 11) (.tmp 14) 23 rfl W1.heap.size 32 i2 _ 11 120 Tryz.underlying23 hi hz0 hz1 hz2 rfl (by decide) (.slice a1 ts.length c1) (.slice (some ⟨w2.heap.size, 0, none⟩) 1 1) ts.length 1 (va ts) t'.cells rfl rfl R3.out SR.out CO.out HM1.out HM2.out (by simp; omega) ?_)
 intro v3 w3 hown3 hgrow3 _
 have R5 := Lib.hid hown3
 have E5 := Lib.hid (owns_list E4.out R3.out hgrow3)
 have T5 := Lib.hid (T4.out.else_ hgrow3 (own_else R3.out))
 have B5 := Lib.hid (owned_block B4.out R3.out hgrow3 B4.out.size (by have := HSZ.out; omega))
 clear hown3 hgrow3 HM1 HM2 CO SR R3 E4 T4 B4 R2 E3 T3 B3 E2 R1 K2 K1 E1 O0 HT2 CL B2 B1 K0 B0 HT HTu
 have hform : ∃ g cap, v3 = .slice (some ⟨g, 0, none⟩) (ts.length + 1) cap ∧ w.heap.size ≤ g := by
  rcases R5.out.2 with ⟨_, h0⟩ | ⟨g, cap, cur, hv, hg, _⟩
  ·omega
  ·exact ⟨g, cap, hv, by have := HSZ.out; omega⟩
 obtain ⟨g, cap, rfl, hg⟩ := hform
 have R6 : Hid (w3.ownsRow g 32 11 (.slice (some ⟨g, 0, none⟩) (ts.length + 1) cap) (ts.length + 1) (va (ts.take ts.length ++ t' :: ts.drop ts.length))) := by
  show World.ownsRow _ _ _ _ _ _ _
  have := (own_at R5.out).1
  simpa [va] using this
 clear R5
 obtain ⟨M, hM⟩ : ∃ M, M = ts.length + 1 := ⟨_, rfl⟩
 rw [← hM] at R6 ⊢
 have HM := Lib.hid hM
 have M1 : M ≤ 1048577 := by omega
 have M0 : 1 ≤ M := by omega
 clear hM
 obtain ⟨x1, m1, y1, x2, m2, y2, hvd, hvs⟩ := slice_of T5.out.reads
 obtain ⟨⟨r, n, dep, actor, kind, dst, bucket, mask, gr, gn, ups⟩, vd, vs⟩ := t'
 simp only at hvd hvs
 subst hvd hvs
 obtain ⟨J, hJ⟩ : ∃ J, J = putJ (ts.map ActT.a) t.a ts.length := ⟨_, rfl⟩
 have HJ := Lib.hid hJ
 clear hJ
 have e0 : (M : Int) - 1 = ts.length := by have := HM.out; omega
 go_wp2
 go_loopw [6] (fun i wr => ∃ j : Nat, j ≤ ts.length ∧ i = .int .i64 j ∧ Hid (wr.ownsRow g 32 11 (.slice (some ⟨g, 0, none⟩) M cap) M (va (ts.take j ++ (⟨⟨r, n, dep, actor, kind, dst, bucket, mask, gr, gn, ups⟩, .slice x1 m1 y1, .slice x2 m2 y2⟩ : ActT) :: ts.drop j))) ∧ Hid (∀ x ∈ ts, x.Owns wr lo) ∧ Hid (((⟨⟨r, n, dep, actor, kind, dst, bucket, mask, gr, gn, ups⟩, .slice x1 m1 y1, .slice x2 m2 y2⟩ : ActT)).Owns wr lo) ∧ Hid (Below w.heap.size w wr) ∧ Hid (J = putJ (ts.map ActT.a) t.a j)) (fun i _ => (intOf i).toNat)
 case atStart => exact ⟨ts.length, Nat.le_refl _, rfl, R6, E5, T5, B5, HJ⟩
 case round =>
  obtain ⟨j, hj, rfl, hr, he, ht, hbel, hjj⟩ := hrel
  clear R6 E5 T5 B5 e0
  by_cases h0 : j = 0
  ·subst h0
   have e1 : decide ((0 : Int) < ((0 : Nat) : Int)) = false := by decide
   have HF := Lib.hid (show J = 0 by rw [hjj.out]; rfl)
   go_wp2
   go_quiet (fail)
   go_wp2
   go_ret
   exact ⟨_, rfl, put_own (row_less (lo := lo) (by rw [← HM.out]; exact hr.out) (by omega)) he.out ht.out TA.out (by rw [← HJ.out, HF.out]) (Nat.zero_le _), below_drewN hbel.out _⟩
  ·obtain ⟨p, hjp⟩ : ∃ p, j = p + 1 := ⟨j - 1, by omega⟩
   have HJP := Lib.hid hjp
   have hp : p < ts.length := by omega
   have hpj : j - 1 = p := by omega
   have j0 : 0 < j := by omega
   have jM : j < M := by have := HM.out; omega
   have pM : p < M := by omega
   have at1 := row_actAt hr.out j ((cur_length ts _ _ hj).trans HM.out.symm) jM
   have at0 := row_actAt hr.out p ((cur_length ts _ _ hj).trans HM.out.symm) pM
   have hca := cur_at ts (⟨⟨r, n, dep, actor, kind, dst, bucket, mask, gr, gn, ups⟩, .slice x1 m1 y1, .slice x2 m2 y2⟩ : ActT) p hp
   have hsw := cur_swap ts (⟨⟨r, n, dep, actor, kind, dst, bucket, mask, gr, gn, ups⟩, .slice x1 m1 y1, .slice x2 m2 y2⟩ : ActT) p hp
   rw [← hjp] at hca hsw
   rw [hca.1] at at1
   rw [hca.2] at at0
   have hq := he.out _ (getD_mem hp)
   have hgm := getD_map hp
   have hst := hjj.out
   rw [hjp, putJ, hgm] at hst
   clear hgm hjj hca hjp h0
   obtain ⟨q, hqq⟩ : ∃ q, q = ts.getD p t0 := ⟨_, rfl⟩
   rw [← hqq] at at0 hq hsw hst
   have HQ := Lib.hid hqq
   clear hqq
   obtain ⟨x3, m3, y3, x4, m4, y4, hvd, hvs⟩ := slice_of hq.reads
   obtain ⟨⟨r', n', dep', actor', kind', dst', bucket', mask', gr', gn', ups'⟩, vd', vs'⟩ := q
   simp only at hvd hvs hst
   subst hvd hvs
   have HSW := Lib.hid hsw
   have HTO := ht
   have HQO := Lib.hid hq
   clear hsw hq
   have AH := Lib.hid (fun w (h1 : ((⟨⟨r, n, dep, actor, kind, dst, bucket, mask, gr, gn, ups⟩, .slice x1 m1 y1, .slice x2 m2 y2⟩ : ActT)).Reads w) (h2 : ((⟨⟨r', n', dep', actor', kind', dst', bucket', mask', gr', gn', ups'⟩, .slice x3 m3 y3, .slice x4 m4 y4⟩ : ActT)).Reads w) => specAhead_any _ _ _ _ w h1.is h2.is)
   simp only [ActT.val] at AH
   rw [← TA.out] at hst
   have HPJ := Lib.hid hpj
   have e1 : decide ((0 : Int) < (j : Int)) = true := by simp; omega
   have e2 : IntKind.i64.wrap ((j : Int) - 1) = p := by rw [IntWalk.i64_in _ (by omega)]; omega
   have i0 : (0 : Int) ≤ (j : Int) := by omega
   have i1 : (j : Int) < (M : Int) := by omega
   have i2' : (0 : Int) ≤ (p : Int) := by omega
   have i3 : (p : Int) < (M : Int) := by omega
   clear hpj
   have c0 := at1.c0
   have c1 := at1.c1
   have c2 := at1.c2
   have c3 := at1.c3
   have c4 := at1.c4
   have c5 := at1.c5
   have c6 := at1.c6
   have c7 := at1.c7
   have c8 := at1.c8
   have c9 := at1.c9
   have c10 := at1.c10
   have d0 := at0.c0
   have d1 := at0.c1
   have d2 := at0.c2
   have d3 := at0.c3
   have d4 := at0.c4
   have d5 := at0.c5
   have d6 := at0.c6
   have d7 := at0.c7
   have d8 := at0.c8
   have d9 := at0.c9
   have d10 := at0.c10
   clear at0 at1
   go_wp2_with fail
   refine wp_region_still_tail 12 (by kernel_rfl) (by kernel_rfl) ?_
   simp only [List.take_succ_cons, List.take_zero, List.drop_succ_cons, List.drop_zero]
   change wpStill _ _ wr.drew _ _ _
   repeat still_step
   refine wpStill_nil ?_
   change wpList _ _ _ _ _ wr.drew
   obtain ⟨w4, hw4⟩ : ∃ w4, w4 = wr.drew := ⟨_, rfl⟩
   have hb4 : Hid (Below w.heap.size w w4) := by rw [hw4]; exact hbel.out.drew
   have hr4 : Hid (w4.ownsRow g 32 11 (.slice (some ⟨g, 0, none⟩) M cap) M (va (ts.take j ++ (⟨⟨r, n, dep, actor, kind, dst, bucket, mask, gr, gn, ups⟩, .slice x1 m1 y1, .slice x2 m2 y2⟩ : ActT) :: ts.drop j))) := by rw [hw4]; exact hr.out
   have he4 : Hid (∀ x ∈ ts, x.Owns w4 lo) := by rw [hw4]; exact he.out
   have ht4 : Hid (((⟨⟨r, n, dep, actor, kind, dst, bucket, mask, gr, gn, ups⟩, .slice x1 m1 y1, .slice x2 m2 y2⟩ : ActT)).Owns w4 lo) := by rw [hw4]; exact ht.out
   have hq4 : Hid (((⟨⟨r', n', dep', actor', kind', dst', bucket', mask', gr', gn', ups'⟩, .slice x3 m3 y3, .slice x4 m4 y4⟩ : ActT)).Owns w4 lo) := by rw [hw4]; exact HQO.out
   rw [← hw4]
   clear hw4 c0 c1 c2 c3 c4 c5 c6 c7 c8 c9 c10 d0 d1 d2 d3 d4 d5 d6 d7 d8 d9 d10 hr he ht hbel HQO HTO
   cases hah : aheadM ⟨r, n, dep, actor, kind, dst, bucket, mask, gr, gn, ups⟩ ⟨r', n', dep', actor', kind', dst', bucket', mask', gr', gn', ups'⟩
   ·rw [hah, if_neg (by simp)] at hst
    have HST := Lib.hid hst
    have HAH := Lib.hid hah
    clear hst hah
    go_wp2_with fail
    refine (AH.out _ ht4.out.reads hq4.out.reads).mono ?_
    rintro e w5 ⟨rfl, b5⟩
    rw [HAH.out]
    have B5 := Lib.hid (hb4.out.trans (b5.mono hb4.out.size))
    have R5 := Lib.hid (row_keep hr4.out (fun g _ hl _ => b5.block g hl))
    have E5 := Lib.hid (owns_below he4.out b5)
    have T5 := Lib.hid (ht4.out.below b5)
    have Q5 := Lib.hid (hq4.out.below b5)
    clear b5 hr4 he4 ht4 hq4 hb4
    go_wp2
    go_ret
    exact ⟨_, rfl, put_own (row_less (lo := lo) (by rw [← HM.out]; exact R5.out) (by omega)) E5.out T5.out TA.out (by rw [← HJ.out, HST.out, HJP.out]) hj, B5.out⟩
   ·rw [hah, if_pos rfl] at hst
    have HST := Lib.hid hst
    have HAH := Lib.hid hah
    clear hst hah
    go_wp2_with fail
    refine (AH.out _ ht4.out.reads hq4.out.reads).mono ?_
    rintro e w5 ⟨rfl, b5⟩
    rw [HAH.out]
    have B5 := Lib.hid (hb4.out.trans (b5.mono hb4.out.size))
    have R5 := Lib.hid (row_keep hr4.out (fun g _ hl _ => b5.block g hl))
    have E5 := Lib.hid (owns_below he4.out b5)
    have T5 := Lib.hid (ht4.out.below b5)
    have Q5 := Lib.hid (hq4.out.below b5)
    clear b5 hr4 he4 ht4 hq4 hb4
    have at1 := row_actAt R5.out j ((cur_length ts _ _ hj).trans HM.out.symm) jM
    have hca := cur_at ts (⟨⟨r, n, dep, actor, kind, dst, bucket, mask, gr, gn, ups⟩, .slice x1 m1 y1, .slice x2 m2 y2⟩ : ActT) p hp
    rw [← HJP.out] at hca
    rw [hca.1] at at1
    have c0 := at1.c0
    have c1 := at1.c1
    have c2 := at1.c2
    have c3 := at1.c3
    have c4 := at1.c4
    have c5 := at1.c5
    have c6 := at1.c6
    have c7 := at1.c7
    have c8 := at1.c8
    have c9 := at1.c9
    have c10 := at1.c10
    clear at1
    go_upto_region 7 with (fail)
    have R6 := Lib.hid (row_keep (w' := w5.alloc (.cells #[.int .i64 r, .int .i64 n, .slice x1 m1 y1, .int .i64 actor, .int .i64 kind, .int .i64 dst, .int .i64 bucket, .int .i64 mask, .int .i64 gr, .int .i64 gn, .slice x2 m2 y2] 32)) R5.out (fun g _ hl _ => Below.heap_alloc _ _ _ hl))
    have E6 := Lib.hid (owns_below E5.out ((Below.refl _ _).alloc (Nat.le_refl _) (.cells #[.int .i64 r, .int .i64 n, .slice x1 m1 y1, .int .i64 actor, .int .i64 kind, .int .i64 dst, .int .i64 bucket, .int .i64 mask, .int .i64 gr, .int .i64 gn, .slice x2 m2 y2] 32)))
    have T6 := Lib.hid (T5.out.alloc (.cells #[.int .i64 r, .int .i64 n, .slice x1 m1 y1, .int .i64 actor, .int .i64 kind, .int .i64 dst, .int .i64 bucket, .int .i64 mask, .int .i64 gr, .int .i64 gn, .slice x2 m2 y2] 32))
    have Q6 := Lib.hid (Q5.out.alloc (.cells #[.int .i64 r, .int .i64 n, .slice x1 m1 y1, .int .i64 actor, .int .i64 kind, .int .i64 dst, .int .i64 bucket, .int .i64 mask, .int .i64 gr, .int .i64 gn, .slice x2 m2 y2] 32))
    have B6 := Lib.hid (B5.out.alloc B5.out.size (.cells #[.int .i64 r, .int .i64 n, .slice x1 m1 y1, .int .i64 actor, .int .i64 kind, .int .i64 dst, .int .i64 bucket, .int .i64 mask, .int .i64 gr, .int .i64 gn, .slice x2 m2 y2] 32))
    have X6 := Lib.hid (Blk.new w5 #[.int .i64 r, .int .i64 n, .slice x1 m1 y1, .int .i64 actor, .int .i64 kind, .int .i64 dst, .int .i64 bucket, .int .i64 mask, .int .i64 gr, .int .i64 gn, .slice x2 m2 y2] 32)
    have gw5 : g < w5.heap.size := by
     rcases (own_at R5.out) with ⟨_, _, h⟩
     exact h
    obtain ⟨W6, hW6⟩ : ∃ W6, W6 = w5.alloc (.cells #[.int .i64 r, .int .i64 n, .slice x1 m1 y1, .int .i64 actor, .int .i64 kind, .int .i64 dst, .int .i64 bucket, .int .i64 mask, .int .i64 gr, .int .i64 gn, .slice x2 m2 y2] 32) := ⟨_, rfl⟩
    rw [← hW6] at R6 E6 T6 Q6 B6 X6 ⊢
    clear hW6 R5 E5 T5 Q5 B5 c0 c1 c2 c3 c4 c5 c6 c7 c8 c9 c10
    have at1 := row_actAt R6.out j ((cur_length ts _ _ hj).trans HM.out.symm) jM
    have at0 := row_actAt R6.out p ((cur_length ts _ _ hj).trans HM.out.symm) pM
    rw [hca.1] at at1
    rw [hca.2, ← HQ.out] at at0
    have c0 := at1.c0
    have c1 := at1.c1
    have c2 := at1.c2
    have c3 := at1.c3
    have c4 := at1.c4
    have c5 := at1.c5
    have c6 := at1.c6
    have c7 := at1.c7
    have c8 := at1.c8
    have c9 := at1.c9
    have c10 := at1.c10
    have d0 := at0.c0
    have d1 := at0.c1
    have d2 := at0.c2
    have d3 := at0.c3
    have d4 := at0.c4
    have d5 := at0.c5
    have d6 := at0.c6
    have d7 := at0.c7
    have d8 := at0.c8
    have d9 := at0.c9
    have d10 := at0.c10
    clear at1 at0
    have ff := R6.out.frozenAt
    have R7 := Lib.hid (row_set11 R6.out j ((cur_length ts _ _ hj).trans HM.out.symm) jM (⟨⟨r', n', dep', actor', kind', dst', bucket', mask', gr', gn', ups'⟩, .slice x3 m3 y3, .slice x4 m4 y4⟩ : ActT))
    have G7 := Lib.hid (grown_set11 W6 g (j * 11) (j * 11 + 1) (j * 11 + 2) (j * 11 + 3) (j * 11 + 4) (j * 11 + 5) (j * 11 + 6) (j * 11 + 7) (j * 11 + 8) (j * 11 + 9) (j * 11 + 10) (.int .i64 r') (.int .i64 n') (.slice x3 m3 y3) (.int .i64 actor') (.int .i64 kind') (.int .i64 dst') (.int .i64 bucket') (.int .i64 mask') (.int .i64 gr') (.int .i64 gn') (.slice x4 m4 y4))
    go_upto_region 8 with (fail)
    have ty := row_type R6.out
    have EW : Elsewhere W6 lo (some g) := fun g' e => by cases e; exact .inr ty
    have E7 := Lib.hid (fun x hx => (E6.out x hx).else_ G7.out EW)
    have T7 := Lib.hid (T6.out.else_ G7.out EW)
    have B7 := Lib.hid (B6.out.grown G7.out B6.out.size (fun k hk => by cases hk; exact hg))
    have X7 := Lib.hid (X6.out.grown G7.out (by omega))
    obtain ⟨W7, hW7⟩ : ∃ W7, W7 = (((((((((((W6.setCell ⟨g, j * 11, none⟩ (.int .i64 r')).setCell ⟨g, j * 11 + 1, none⟩ (.int .i64 n')).setCell ⟨g, j * 11 + 2, none⟩ (.slice x3 m3 y3)).setCell ⟨g, j * 11 + 3, none⟩ (.int .i64 actor')).setCell ⟨g, j * 11 + 4, none⟩ (.int .i64 kind')).setCell ⟨g, j * 11 + 5, none⟩ (.int .i64 dst')).setCell ⟨g, j * 11 + 6, none⟩ (.int .i64 bucket')).setCell ⟨g, j * 11 + 7, none⟩ (.int .i64 mask')).setCell ⟨g, j * 11 + 8, none⟩ (.int .i64 gr')).setCell ⟨g, j * 11 + 9, none⟩ (.int .i64 gn')).setCell ⟨g, j * 11 + 10, none⟩ (.slice x4 m4 y4)) := ⟨_, rfl⟩
    rw [← hW7] at R7 E7 T7 B7 X7 ⊢
    clear hW7 c0 c1 c2 c3 c4 c5 c6 c7 c8 c9 c10 d0 d1 d2 d3 d4 d5 d6 d7 d8 d9 d10 ff G7 EW ty R6 E6 T6 Q6 B6 X6
    have hl7 : ((ts.take j ++ (⟨⟨r, n, dep, actor, kind, dst, bucket, mask, gr, gn, ups⟩, .slice x1 m1 y1, .slice x2 m2 y2⟩ : ActT) :: ts.drop j).set j (⟨⟨r', n', dep', actor', kind', dst', bucket', mask', gr', gn', ups'⟩, .slice x3 m3 y3, .slice x4 m4 y4⟩ : ActT)).length = M := by rw [List.length_set]; exact (cur_length ts _ _ hj).trans HM.out.symm
    have at0 := row_actAt R7.out p hl7 pM
    generalize ((ts.take j ++ (⟨⟨r, n, dep, actor, kind, dst, bucket, mask, gr, gn, ups⟩, .slice x1 m1 y1, .slice x2 m2 y2⟩ : ActT) :: ts.drop j).set j (⟨⟨r', n', dep', actor', kind', dst', bucket', mask', gr', gn', ups'⟩, .slice x3 m3 y3, .slice x4 m4 y4⟩ : ActT)).getD p t0 = z at at0
    obtain ⟨⟨z0, z1, z2, z3, z4, z5, z6, z7, z8, z9, z10⟩, z11, z12⟩ := z
    have d0 := at0.c0
    have d1 := at0.c1
    have d2 := at0.c2
    have d3 := at0.c3
    have d4 := at0.c4
    have d5 := at0.c5
    have d6 := at0.c6
    have d7 := at0.c7
    have d8 := at0.c8
    have d9 := at0.c9
    have d10 := at0.c10
    clear at0
    simp only at d0 d1 d2 d3 d4 d5 d6 d7 d8 d9 d10
    have ff := R7.out.frozenAt
    have cx := X7.out.cell
    have R8 := Lib.hid (row_set11 R7.out p hl7 pM (⟨⟨r, n, dep, actor, kind, dst, bucket, mask, gr, gn, ups⟩, .slice x1 m1 y1, .slice x2 m2 y2⟩ : ActT))
    have hsw2 := HSW.out
    rw [hsw2] at R8
    have G8 := Lib.hid (grown_set11 W7 g (p * 11) (p * 11 + 1) (p * 11 + 2) (p * 11 + 3) (p * 11 + 4) (p * 11 + 5) (p * 11 + 6) (p * 11 + 7) (p * 11 + 8) (p * 11 + 9) (p * 11 + 10) (.int .i64 r) (.int .i64 n) (.slice x1 m1 y1) (.int .i64 actor) (.int .i64 kind) (.int .i64 dst) (.int .i64 bucket) (.int .i64 mask) (.int .i64 gr) (.int .i64 gn) (.slice x2 m2 y2))
    have ty := row_type R7.out
    have EW : Elsewhere W7 lo (some g) := fun g' e => by cases e; exact .inr ty
    have E8 := Lib.hid (fun x hx => (E7.out x hx).else_ G8.out EW)
    have T8 := Lib.hid (T7.out.else_ G8.out EW)
    have B8 := Lib.hid (B7.out.grown G8.out B7.out.size (fun k hk => by cases hk; exact hg))
    clear EW ty hsw2 hca hl7
    go_wp2
    go_roundw
    case rel => exact ⟨p, by omega, by first | go_num | rw [e2], R8.out, E8.out, T8.out, B8.out, by
     show J = _
     have h1 := HST.out
     have h2 := TA.out
     try simp only at h2
     rw [h2] at h1
     exact h1⟩
    case measure => (have h4 := HJP.out; simp [intOf]; omega)
end Go.Proofs.YtghgiefciijoeaaGreatDoor
namespace Go.Proofs.YtghgiefciijoeaaGreatDoor
open Go.RowKit
set_option linter.unusedVariables false
theorem scan_all {n : Int} : ∀ (l : List ActM) (p : Option ActM) (next v : List Int), scanM n p next l = some v → ∀ a ∈ l, actOkM a n = true
 | [], _, _, _, _, a, ha => by cases ha
 | x :: l, p, next, v, h, a, ha => by
  rw [scanM] at h
  split at h
  ·rename_i hx
   rcases List.mem_cons.1 ha with rfl | ha
   ·exact hx.1
   ·exact scan_all l _ _ v h a ha
  ·cases h
theorem setOk_all {l : List ActM} {n : Int} (h : setOkM l n = true) : 1 ≤ n ∧ n ≤ 4 ∧ l.length ≤ 60 ∧ ∀ a ∈ l, actOkM a n = true := by
 simp only [setOkM, Bool.and_eq_true, decide_eq_true_eq] at h
 obtain ⟨⟨⟨h1, h2⟩, h3⟩, h4⟩ := h
 refine ⟨h1, h2, h3, ?_⟩
 cases hs : scanM n none (List.replicate n.toNat 0) l with
 | none => rw [hs] at h4; cases h4
 | some v => exact scan_all l none _ v hs
theorem ok_small {a : ActM} {n : Int} (h : actOkM a n = true) : a.Small := by
 have hu : a.ups.length ≤ 5 := by
  simp only [actOkM, Bool.and_eq_true, fieldsM, okUps, decide_eq_true_eq] at h
  have h := h.2
  split at h
  ·simp only [Bool.and_eq_true, decide_eq_true_eq] at h; omega
  ·split at h
   ·simp only [Bool.and_eq_true, decide_eq_true_eq] at h; omega
   ·split at h
    ·simp only [Bool.and_eq_true, decide_eq_true_eq] at h; omega
    ·split at h
     ·simp only [Bool.and_eq_true, decide_eq_true_eq] at h; omega
     ·cases h
 have hd : a.dep.length ≤ 4 := by
  simp only [actOkM, Bool.and_eq_true, decide_eq_true_eq] at h
  omega
 exact ⟨by omega, by omega⟩
theorem setOk_small {l : List ActM} {n : Int} (h : setOkM l n = true) : SmallL l := by
 obtain ⟨_, _, h3, h4⟩ := setOk_all h
 exact ⟨by omega, fun a ha => ok_small (h4 a ha)⟩
def addM (l : List ActM) (n : Int) (a : ActM) : Option (List ActM) :=
 if setOkM l n = true ∧ findM l a.r a.n < 0 ∧ setOkM (putM l a) n = true then some (putM l a) else none
def AddedNo (w : World) (e : Ending) (w' : World) : Prop := e = .returned (.tuple #[.slice none 0 0, .bool false]) ∧ Below w.heap.size w w'
def AddedYes (w : World) (l : List ActM) (e : Ending) (w' : World) : Prop := ∃ v, e = .returned (.tuple #[v, .bool true]) ∧ OwnActs w' w.heap.size v l ∧ Below w.heap.size w w'
def Added (w : World) (o : Option (List ActM)) (e : Ending) (w' : World) : Prop := (o = none ∧ AddedNo w e w') ∨ ∃ l, o = some l ∧ AddedYes w l e w'
set_option maxRecDepth 100000 in
set_option maxHeartbeats 3200000 in
theorem addAct_any (v : Value) (l : List ActM) (n : Int) (t : ActT) (w : World) (h : Acts w v l) (hn : -9223372036854775808 ≤ n ∧ n ≤ 9223372036854775807) (ht : t.Reads w) (hs : t.a.Small) :
  Calls Tryz.prog 17 #[v, .int .i64 n, t.val] w (Added w (addM l n t.a)) := by
 have HA := Lib.hid h
 have HT := Lib.hid ht
 have HS := Lib.hid hs
 clear h ht hs
 obtain ⟨O, hO⟩ : ∃ O, O = addM l n t.a := ⟨_, rfl⟩
 rw [← hO]
 have HO := Lib.hid hO
 clear hO
 have SO := Lib.hid (fun W v l h => setOk_any v l n W h hn)
 have B0 := Lib.hid ((Below.refl w.heap.size w).alloc (Nat.le_refl _) (.cells #[.int .i64 t.a.r, .int .i64 t.a.n, t.vd, .int .i64 t.a.actor, .int .i64 t.a.kind, .int .i64 t.a.to, .int .i64 t.a.bucket, .int .i64 t.a.mask, .int .i64 t.a.gr, .int .i64 t.a.gn, t.vs] 32))
 have K0 := Lib.hid (Blk.new w #[.int .i64 t.a.r, .int .i64 t.a.n, t.vd, .int .i64 t.a.actor, .int .i64 t.a.kind, .int .i64 t.a.to, .int .i64 t.a.bucket, .int .i64 t.a.mask, .int .i64 t.a.gr, .int .i64 t.a.gn, t.vs] 32)
 cases h1 : setOkM l n
 ·have HN := Lib.hid (show O = none by rw [HO.out, addM, h1]; simp)
  have H1 := Lib.hid h1
  clear h1
  go_enter Tryz.func17, Tryz.ntmps17
  simp only [ActT.val]
  go_wp2_with fail
  refine (SO.out _ v l (HA.out.below B0.out)).mono ?_
  rintro e w1 ⟨rfl, b1⟩
  rw [H1.out]
  have B1 := Lib.hid (B0.out.trans (b1.mono B0.out.size))
  clear b1
  go_wp2_with fail
  go_ret2
  exact .inl ⟨HN.out, rfl, B1.out⟩
 ·have SM := Lib.hid (setOk_small h1)
  have H1 := Lib.hid h1
  obtain ⟨f, hf⟩ : ∃ f, f = findM l t.a.r t.a.n := ⟨_, rfl⟩
  have HF := Lib.hid hf
  clear h1 hf
  by_cases h2 : f < 0
  ·obtain ⟨s, hs⟩ : ∃ s, s = setOkM (putM l t.a) n := ⟨_, rfl⟩
   have HSP := Lib.hid hs
   have HH := Lib.hid h2
   clear hs
   cases s
   ·have HN := Lib.hid (show O = none by rw [HO.out, addM, ← HSP.out]; simp)
    have e1 : decide (0 ≤ f) = false := by simp; omega
    go_enter Tryz.func17, Tryz.ntmps17
    simp only [ActT.val]
    go_wp2_with fail
    refine (SO.out _ v l (HA.out.below B0.out)).mono ?_
    rintro e w1 ⟨rfl, b1⟩
    rw [H1.out]
    have B1 := Lib.hid (B0.out.trans (b1.mono B0.out.size))
    have K1 := Lib.hid (K0.out.below b1 K0.out.lt)
    have c0 := K1.out.cell
    clear b1
    go_wp2_with fail
    refine (find_any v l _ _ _ (HA.out.below B1.out)).mono ?_
    rintro e w2 ⟨rfl, hw2⟩
    subst hw2
    rw [← HF.out]
    go_wp2_with fail
    clear c0
    have D0 : Hid (Below w2.heap.size w2 w2.drew) := (Below.refl _ _).drew
    refine wp_region_held_drew (S := fun w' => Below w2.heap.size w2 w') (by kernel_rfl) (D0.out) (fun hHeld => ?_)
    refine held_take (i := 0) (d := some 22) (v := ?_) rfl (by kernel_rfl) (by kernel_rfl) (by kernel_rfl) (by kernel_rfl) (fun _ _ _ h => h) (by kernel_rfl) ?_ hHeld ?_
    rotate_left
    ·intro w' hSw
     go_simp
     first | done | with_reducible rfl
    simp only [Act.put, List.setIfInBounds_toArray, List.set_cons_zero, List.set_cons_succ]
    refine held_take (i := 2) (d := some 24) (v := ?_) rfl (by kernel_rfl) (by kernel_rfl) (by kernel_rfl) (by kernel_rfl) (fun _ _ _ h => h) (by kernel_rfl) ?_ hHeld ?_
    rotate_left
    ·intro w' hSw
     have cc := (K1.out.below hSw K1.out.lt).cell
     go_simp
     first | done | with_reducible rfl
    simp only [Act.put, List.setIfInBounds_toArray, List.set_cons_zero, List.set_cons_succ]
    refine wpAnyH_ready (rs := [1]) (by kernel_rfl) (by simp) ?_
    refine AllReadyH.cons rfl (fun K hK => ?_) AllReadyH.nil
    go_simp
    refine (l3own_any v l _ (HA.out.below (B1.out.trans (hHeld.mono B1.out.size))) SM.out).mono ?_
    rintro e w3 ⟨v3, rfl, o3, b3⟩
    have o3 := o3.less hHeld.size
    have D3 := Lib.hid (hHeld.trans (b3.mono hHeld.size))
    have O3 := Lib.hid o3
    clear b3 o3
    go_simp
    refine hK.out _ _ (D3.out) (fun hHeld => ?_)
    clear hK K
    try simp only [Act.put, List.setIfInBounds_toArray, List.set_cons_zero, List.set_cons_succ]
    refine wpAnyH_ready (rs := [3]) (by kernel_rfl) (by simp) ?_
    refine AllReadyH.cons rfl (fun K hK => ?_) AllReadyH.nil
    go_simp
    obtain ⟨us, hus, hot⟩ := O3.out
    refine (l3put_any w2.heap.size v3 us t _ hot D3.out.size (HT.out.below (B1.out.trans (D3.out.mono B1.out.size))) HS.out (by have := SM.out.1; rw [hus] at this; simpa using this)).mono ?_
    rintro e w4 ⟨v4, rfl, o4, b4⟩
    rw [← hus] at o4
    have D4 := Lib.hid (D3.out.trans (b4.mono D3.out.size))
    have P4 := Lib.hid o4
    clear b4 o4 hus hot
    go_simp
    refine hK.out _ _ (D4.out) (fun hHeld => ?_)
    clear hK K
    try simp only [Act.put, List.setIfInBounds_toArray, List.set_cons_zero, List.set_cons_succ]
    refine held_take (i := 4) (d := some 8) (v := ?_) rfl (by kernel_rfl) (by kernel_rfl) (by kernel_rfl) (by kernel_rfl) (fun _ _ _ h => h) (by kernel_rfl) ?_ hHeld ?_
    rotate_left
    ·intro w' hSw
     go_simp
     first | done | with_reducible rfl
    simp only [Act.put, List.setIfInBounds_toArray, List.set_cons_zero, List.set_cons_succ]
    refine wpAnyH_done (by kernel_rfl) ?_ _
    have B4 := Lib.hid (B1.out.trans (D4.out.mono B1.out.size))
    go_wp2_with fail
    refine (SO.out _ v4 _ (ownActs_acts P4.out)).mono ?_
    rintro e w5 ⟨rfl, b5⟩
    rw [← HSP.out]
    have b5h := Lib.hid b5
    have B5 := Lib.hid (B4.out.trans (b5.mono B4.out.size))
    clear b5
    go_wp2_with fail
    go_ret2
    exact .inl ⟨HN.out, rfl, B5.out⟩
   ·have HN := Lib.hid (show O = some (putM l t.a) by rw [HO.out, addM, ← HSP.out, H1.out, ← HF.out]; simp [h2])
    have e1 : decide (0 ≤ f) = false := by simp; omega
    go_enter Tryz.func17, Tryz.ntmps17
    simp only [ActT.val]
    go_wp2_with fail
    refine (SO.out _ v l (HA.out.below B0.out)).mono ?_
    rintro e w1 ⟨rfl, b1⟩
    rw [H1.out]
    have B1 := Lib.hid (B0.out.trans (b1.mono B0.out.size))
    have K1 := Lib.hid (K0.out.below b1 K0.out.lt)
    have c0 := K1.out.cell
    clear b1
    go_wp2_with fail
    refine (find_any v l _ _ _ (HA.out.below B1.out)).mono ?_
    rintro e w2 ⟨rfl, hw2⟩
    subst hw2
    rw [← HF.out]
    go_wp2_with fail
    clear c0
    have D0 : Hid (Below w2.heap.size w2 w2.drew) := (Below.refl _ _).drew
    refine wp_region_held_drew (S := fun w' => Below w2.heap.size w2 w') (by kernel_rfl) (D0.out) (fun hHeld => ?_)
    refine held_take (i := 0) (d := some 22) (v := ?_) rfl (by kernel_rfl) (by kernel_rfl) (by kernel_rfl) (by kernel_rfl) (fun _ _ _ h => h) (by kernel_rfl) ?_ hHeld ?_
    rotate_left
    ·intro w' hSw
     go_simp
     first | done | with_reducible rfl
    simp only [Act.put, List.setIfInBounds_toArray, List.set_cons_zero, List.set_cons_succ]
    refine held_take (i := 2) (d := some 24) (v := ?_) rfl (by kernel_rfl) (by kernel_rfl) (by kernel_rfl) (by kernel_rfl) (fun _ _ _ h => h) (by kernel_rfl) ?_ hHeld ?_
    rotate_left
    ·intro w' hSw
     have cc := (K1.out.below hSw K1.out.lt).cell
     go_simp
     first | done | with_reducible rfl
    simp only [Act.put, List.setIfInBounds_toArray, List.set_cons_zero, List.set_cons_succ]
    refine wpAnyH_ready (rs := [1]) (by kernel_rfl) (by simp) ?_
    refine AllReadyH.cons rfl (fun K hK => ?_) AllReadyH.nil
    go_simp
    refine (l3own_any v l _ (HA.out.below (B1.out.trans (hHeld.mono B1.out.size))) SM.out).mono ?_
    rintro e w3 ⟨v3, rfl, o3, b3⟩
    have o3 := o3.less hHeld.size
    have D3 := Lib.hid (hHeld.trans (b3.mono hHeld.size))
    have O3 := Lib.hid o3
    clear b3 o3
    go_simp
    refine hK.out _ _ (D3.out) (fun hHeld => ?_)
    clear hK K
    try simp only [Act.put, List.setIfInBounds_toArray, List.set_cons_zero, List.set_cons_succ]
    refine wpAnyH_ready (rs := [3]) (by kernel_rfl) (by simp) ?_
    refine AllReadyH.cons rfl (fun K hK => ?_) AllReadyH.nil
    go_simp
    obtain ⟨us, hus, hot⟩ := O3.out
    refine (l3put_any w2.heap.size v3 us t _ hot D3.out.size (HT.out.below (B1.out.trans (D3.out.mono B1.out.size))) HS.out (by have := SM.out.1; rw [hus] at this; simpa using this)).mono ?_
    rintro e w4 ⟨v4, rfl, o4, b4⟩
    rw [← hus] at o4
    have D4 := Lib.hid (D3.out.trans (b4.mono D3.out.size))
    have P4 := Lib.hid o4
    clear b4 o4 hus hot
    go_simp
    refine hK.out _ _ (D4.out) (fun hHeld => ?_)
    clear hK K
    try simp only [Act.put, List.setIfInBounds_toArray, List.set_cons_zero, List.set_cons_succ]
    refine held_take (i := 4) (d := some 8) (v := ?_) rfl (by kernel_rfl) (by kernel_rfl) (by kernel_rfl) (by kernel_rfl) (fun _ _ _ h => h) (by kernel_rfl) ?_ hHeld ?_
    rotate_left
    ·intro w' hSw
     go_simp
     first | done | with_reducible rfl
    simp only [Act.put, List.setIfInBounds_toArray, List.set_cons_zero, List.set_cons_succ]
    refine wpAnyH_done (by kernel_rfl) ?_ _
    have B4 := Lib.hid (B1.out.trans (D4.out.mono B1.out.size))
    go_wp2_with fail
    refine (SO.out _ v4 _ (ownActs_acts P4.out)).mono ?_
    rintro e w5 ⟨rfl, b5⟩
    rw [← HSP.out]
    have b5h := Lib.hid b5
    have B5 := Lib.hid (B4.out.trans (b5.mono B4.out.size))
    clear b5
    go_wp2_with fail
    go_ret2
    exact .inr ⟨_, HN.out, _, rfl, (P4.out.below b5h.out).less B1.out.size, B5.out⟩
  ·have HN := Lib.hid (show O = none by rw [HO.out, addM, ← HF.out]; simp [h2])
   have e1 : decide (0 ≤ f) = true := by simp; omega
   go_enter Tryz.func17, Tryz.ntmps17
   simp only [ActT.val]
   go_wp2_with fail
   refine (SO.out _ v l (HA.out.below B0.out)).mono ?_
   rintro e w1 ⟨rfl, b1⟩
   rw [H1.out]
   have B1 := Lib.hid (B0.out.trans (b1.mono B0.out.size))
   have c0 := (K0.out.below b1 K0.out.lt).cell
   clear b1
   go_wp2_with fail
   refine (find_any v l _ _ _ (HA.out.below B1.out)).mono ?_
   rintro e w2 ⟨rfl, rfl⟩
   rw [← HF.out]
   go_wp2_with fail
   go_ret2
   exact .inl ⟨HN.out, rfl, B1.out⟩
end Go.Proofs.YtghgiefciijoeaaGreatDoor
namespace Go.Proofs.YtghgiefciijoeaaGreatDoor
open Go.RowKit
set_option linter.unusedVariables false
def unionFrom (out : List ActM) : List ActM → Option (List ActM)
 | [] => some out
 | a :: rest =>
  if 0 ≤ findM out a.r a.n then (if sameM (out.getD (findM out a.r a.n).toNat act0) a = true then unionFrom out rest else none) else unionFrom (putM out a) rest
def unionM (l m : List ActM) (n : Int) : Option (List ActM) :=
 if setOkM l n = true ∧ setOkM m n = true then (match unionFrom l m with | some out => if setOkM out n = true then some out else none | none => none) else none
theorem putJ_le (l : List ActM) (a : ActM) (j : Nat) : putJ l a j ≤ j := by
 induction j with
 | zero => simp [putJ]
 | succ j ih => rw [putJ]; split <;> omega
theorem putM_length (l : List ActM) (a : ActM) : (putM l a).length = l.length + 1 := by
 have := putJ_le l a l.length
 simp only [putM, List.length_append, List.length_take, List.length_cons, List.length_drop]
 omega
theorem findFrom_range (r n : Int) (l : List ActM) (i : Nat) (h : 0 ≤ findFrom r n l i) : i ≤ (findFrom r n l i).toNat ∧ (findFrom r n l i).toNat < i + l.length := by
 induction l generalizing i with
 | nil => simp [findFrom] at h
 | cons a l ih =>
  rw [findFrom] at h ⊢
  split at h
  ·rename_i hx; rw [if_pos hx]; simp
  ·rename_i hx; rw [if_neg hx]
   have := ih (i + 1) h
   simp only [List.length_cons]
   omega
theorem find_range (l : List ActM) (r n : Int) (h : 0 ≤ findM l r n) : (findM l r n).toNat < l.length := by
 have := findFrom_range r n l 0 h
 unfold findM
 omega
end Go.Proofs.YtghgiefciijoeaaGreatDoor
namespace Go.Proofs.YtghgiefciijoeaaGreatDoor
open Go.RowKit
set_option linter.unusedVariables false
theorem actsT_at {w : World} {a : Option Addr} {len cap : Nat} {ts : List ActT} (h : ActsT w (.slice a len cap) ts) (hp : 0 < len) : len = ts.length ∧ ∃ b off, a = some ⟨b, off, none⟩ ∧ b < w.heap.size ∧ ∀ i, i < len → ActAt w b (off + i * 11) (ts.getD i t0) := by
 rcases h.2 with ⟨a', cap', h', rfl⟩ | ⟨b, off, cap', h', h1, h2, h3, h4⟩
 ·simp only [Value.slice.injEq] at h'; omega
 ·simp only [Value.slice.injEq] at h'
  obtain ⟨rfl, rfl, rfl⟩ := h'
  exact ⟨rfl, b, off, rfl, h1, h4⟩
def doneM (n : Int) (o : Option (List ActM)) : Option (List ActM) := match o with | some out => if setOkM out n = true then some out else none | none => none
theorem union_eq {l m : List ActM} {n : Int} (h1 : setOkM l n = true) (h2 : setOkM m n = true) : unionM l m n = doneM n (unionFrom l m) := by rw [unionM, if_pos ⟨h1, h2⟩]; rfl
set_option maxRecDepth 100000 in
set_option maxHeartbeats 6400000 in
theorem union_walk (v : Value) (l : List ActM) (x : Option Addr) (len cap : Nat) (ts : List ActT) (n : Int) (w : World) (h : Acts w v l) (hm : ActsT w (.slice x len cap) ts) (hl : ts.length = len) (hn : -9223372036854775808 ≤ n ∧ n ≤ 9223372036854775807)
  (h1 : setOkM l n = true) (h2 : setOkM (ts.map ActT.a) n = true) :
  Calls Tryz.prog 123 #[v, .slice x len cap, .int .i64 n] w (Added w (unionM l (ts.map ActT.a) n)) := by
 have HA := Lib.hid h
 have HM := Lib.hid hm
 have N1 := Lib.hid hl
 have H1 := Lib.hid h1
 have H2 := Lib.hid h2
 have SM := Lib.hid (setOk_small h1)
 have L1 : l.length ≤ 60 := (setOk_all h1).2.2.1
 have L2 : len ≤ 60 := by have := (setOk_all h2).2.2.1; rw [List.length_map] at this; omega
 have SA := Lib.hid (fun t (ht : t ∈ ts) => ok_small ((setOk_all h2).2.2.2 t.a (List.mem_map_of_mem ht)))
 obtain ⟨O, hO⟩ : ∃ O, O = unionFrom l (ts.map ActT.a) := ⟨_, rfl⟩
 have hU : unionM l (ts.map ActT.a) n = doneM n O := by rw [union_eq h1 h2, hO]
 obtain ⟨U, hUU⟩ : ∃ U, U = unionM l (ts.map ActT.a) n := ⟨_, rfl⟩
 rw [← hUU] at hU ⊢
 have HU := Lib.hid hU
 have HO := Lib.hid hO
 clear h hm hl h1 h2 hO hU hUU
 have SO := Lib.hid (fun W v l h => setOk_any v l n W h hn)
 go_enter Tryz.func123, Tryz.ntmps123
 go_wp2_with fail
 refine (SO.out _ v l HA.out).mono ?_
 rintro e w1 ⟨rfl, b1⟩
 rw [H1.out]
 have B1 := Lib.hid b1
 clear b1
 go_wp2_with fail
 refine (SO.out _ _ _ ⟨ts, rfl, HM.out.below B1.out⟩).mono ?_
 rintro e w2 ⟨rfl, b2⟩
 rw [H2.out]
 have B2 := Lib.hid (B1.out.trans (b2.mono B1.out.size))
 clear b2
 go_wp2_with fail
 refine (l3own_any v l _ (HA.out.below B2.out) SM.out).mono ?_
 rintro e w3 ⟨v3, rfl, o3, b3⟩
 have B3 := Lib.hid (B2.out.trans (b3.mono B2.out.size))
 have O3 := Lib.hid (o3.less B2.out.size)
 clear b3 o3
 go_wp2_with fail
 go_loopw [8, 9] (fun sv i wr => ∃ (k : Nat) (us : List ActM) (u : Value), u = sv ∧ k ≤ len ∧ i = .int .i64 k ∧ us.length ≤ 60 + k ∧ Hid (O = unionFrom us ((ts.map ActT.a).drop k)) ∧ Hid (OwnActs wr w.heap.size u us) ∧ Hid (Below w.heap.size w wr)) (fun _ i _ => len - (intOf i).toNat)
 case atStart => exact ⟨0, l, _, rfl, Nat.zero_le _, rfl, L1, HO.out, O3.out, B3.out⟩
 case round =>
  obtain ⟨k, us, u, hu, hk, rfl, hul, hg, ho, hbel⟩ := hrel
  subst hu
  clear O3 B3 B2 B1
  obtain ⟨ua, uc, rfl⟩ := acts_len (ownActs_acts ho.out)
  by_cases hlt : k < len
  ·obtain ⟨hz, b, off, rfl, hb, hc⟩ := actsT_at HM.out (by omega)
   clear hz
   have hm := getD_mem (ts := ts) (i := k) (by rw [N1.out]; exact hlt)
   have AT := Lib.hid ((hc k hlt).below hbel.out hb)
   have HT := Lib.hid ((HM.out.1 _ hm).below hbel.out)
   have SMt := Lib.hid (SA.out _ hm)
   have hst := hg.out
   rw [drop_ts (by rw [N1.out]; exact hlt), unionFrom] at hst
   obtain ⟨t, htt⟩ : ∃ t, t = ts.getD k t0 := ⟨_, rfl⟩
   rw [← htt] at AT HT SMt hst
   clear hc hm hg htt
   have FI := Lib.hid (fun q => find_any (.slice ua us.length uc) us t.a.r t.a.n (wr.drewN q) (acts_drewN (ownActs_acts ho.out) q))
   obtain ⟨f, hf⟩ : ∃ f, f = findM us t.a.r t.a.n := ⟨_, rfl⟩
   rw [← hf] at FI hst
   have HF := Lib.hid hf
   clear hf
   have i0 : (0 : Int) ≤ (k : Int) := by omega
   have i1 : (k : Int) < (len : Int) := by omega
   have c0 := AT.out.c0
   have c1 := AT.out.c1
   have c2 := AT.out.c2
   have c3 := AT.out.c3
   have c4 := AT.out.c4
   have c5 := AT.out.c5
   have c6 := AT.out.c6
   have c7 := AT.out.c7
   have c8 := AT.out.c8
   have c9 := AT.out.c9
   have c10 := AT.out.c10
   by_cases hf0 : 0 ≤ f
   ·rw [if_pos hf0] at hst
    have hfr := find_range us t.a.r t.a.n (by rw [← HF.out]; exact hf0)
    rw [← HF.out] at hfr
    obtain ⟨fk, rfl⟩ := Int.eq_ofNat_of_zero_le hf0
    simp only [Int.toNat_natCast] at hfr hst
    obtain ⟨us', hus, hot⟩ := ho.out
    have hat := ownT_acts hot
    obtain ⟨hul2, b2, off2, rfl, hb2, hc2⟩ := actsT_at hat (by omega)
    have hm2 := getD_mem (ts := us') (i := fk) (by omega)
    have AT2 := Lib.hid (hc2 fk hfr)
    have HT2 := Lib.hid (hat.1 _ hm2)
    have hga : us.getD fk act0 = (us'.getD fk t0).a := by rw [hus, getD_map (by omega)]
    simp only [hga] at hst
    obtain ⟨t2, htt⟩ : ∃ t2, t2 = us'.getD fk t0 := ⟨_, rfl⟩
    rw [← htt] at AT2 HT2 hst
    clear hm2 htt hc2 hat hot hga hus
    have SM2 := Lib.hid (fun W (h1 : t2.Reads W) (h2 : t.Reads W) => specSame_any t2.val t.val t2.a t.a W h1.is h2.is)
    simp only [ActT.val] at SM2
    have e1 : decide (0 ≤ (fk : Int)) = true := by simp
    have e2 : decide ((fk : Int) < 0) = false := by simp
    have i2 : (0 : Int) ≤ (fk : Int) := by omega
    have i3 : (fk : Int) < (us.length : Int) := by omega
    have d0 := AT2.out.c0
    have d1 := AT2.out.c1
    have d2 := AT2.out.c2
    have d3 := AT2.out.c3
    have d4 := AT2.out.c4
    have d5 := AT2.out.c5
    have d6 := AT2.out.c6
    have d7 := AT2.out.c7
    have d8 := AT2.out.c8
    have d9 := AT2.out.c9
    have d10 := AT2.out.c10
    clear hul2
    cases hS : sameM t2.a t.a
    ·have HN := Lib.hid (show U = none by rw [HU.out, hst, hS]; rfl)
     have HSm := Lib.hid hS
     clear hst hS
     go_wp2_with fail
     go_quiet ((go_at_call 57; exact Calls.quiet_of_same (FI.out _)))
     go_wp2_with fail
     refine wp_region_still_tail 11 (by kernel_rfl) (by kernel_rfl) ?_
     simp only [List.take_succ_cons, List.take_zero, List.drop_succ_cons, List.drop_zero]
     change wpStill _ _ (wr.drewN nq).drew _ _ _
     repeat still_step
     refine wpStill_nil ?_
     change wpList _ _ _ _ _ (wr.drewN nq).drew
     have D5 : Hid (Below wr.heap.size wr (wr.drewN nq).drew) := (below_drewN (Below.refl _ _) nq).drew
     generalize (wr.drewN nq).drew = W5 at D5 ⊢
     go_wp2_with fail
     refine (SM2.out _ (HT2.out.below D5.out) (HT.out.below D5.out)).mono ?_
     rintro e w6 ⟨rfl, b6⟩
     rw [HSm.out]
     have D6 := Lib.hid (D5.out.trans (b6.mono D5.out.size))
     have O6 := Lib.hid (ho.out.below D6.out)
     clear b6
     go_wp2_with fail
     go_ret2
     exact .inl ⟨HN.out, rfl, hbel.out.trans (D6.out.mono hbel.out.size)⟩
    ·have HST := Lib.hid (show O = unionFrom us ((ts.map ActT.a).drop (k + 1)) by rw [hst, hS]; rfl)
     have HSm := Lib.hid hS
     clear hst hS
     go_wp2_with fail
     go_quiet ((go_at_call 57; exact Calls.quiet_of_same (FI.out _)))
     go_wp2_with fail
     refine wp_region_still_tail 11 (by kernel_rfl) (by kernel_rfl) ?_
     simp only [List.take_succ_cons, List.take_zero, List.drop_succ_cons, List.drop_zero]
     change wpStill _ _ (wr.drewN nq).drew _ _ _
     repeat still_step
     refine wpStill_nil ?_
     change wpList _ _ _ _ _ (wr.drewN nq).drew
     have D5 : Hid (Below wr.heap.size wr (wr.drewN nq).drew) := (below_drewN (Below.refl _ _) nq).drew
     generalize (wr.drewN nq).drew = W5 at D5 ⊢
     go_wp2_with fail
     refine (SM2.out _ (HT2.out.below D5.out) (HT.out.below D5.out)).mono ?_
     rintro e w6 ⟨rfl, b6⟩
     rw [HSm.out]
     have D6 := Lib.hid (D5.out.trans (b6.mono D5.out.size))
     have O6 := Lib.hid (ho.out.below D6.out)
     clear b6
     go_wp2_with fail
     go_roundw
     case rel =>
      exact ⟨k + 1, us, _, rfl, by omega, by go_num, by omega, HST.out, O6.out, hbel.out.trans (D6.out.mono hbel.out.size)⟩
     case measure => simp [intOf]; omega
   ·rw [if_neg hf0] at hst
    have HST := Lib.hid hst
    have e1 : decide (0 ≤ f) = false := by simp; omega
    have e2 : decide (f < 0) = true := by simp; omega
    clear hst
    go_wp2_with fail
    go_quiet ((go_at_call 57; exact Calls.quiet_of_same (FI.out _)))
    go_wp2_with fail
    go_quiet (fail)
    obtain ⟨us', hus, hot⟩ := ho.out
    have PU := Lib.hid (fun W (hB : Below wr.heap.size wr W) => l3put_any w.heap.size (.slice ua us.length uc) us' t W (hot.below hB) (Nat.le_trans hbel.out.size hB.size) (HT.out.below hB) SMt.out (by have := congrArg List.length hus; simp at this; omega))
    rw [← hus] at PU
    clear hus hot
    go_wp2_with fail
    simp only [ActT.val] at PU
    refine (PU.out _ (below_drewN (Below.refl _ _) _)).mono ?_
    rintro e w4 ⟨v4, rfl, o4, b4⟩
    have O4 := Lib.hid o4
    have B4 := Lib.hid ((below_drewN hbel.out _).trans (b4.mono hbel.out.size))
    clear b4 o4
    go_wp2_with fail
    go_roundw
    case rel =>
     exact ⟨k + 1, _, _, rfl, by omega, by go_num, by rw [putM_length]; omega, HST.out, O4.out, B4.out⟩
    case measure => simp [intOf]; omega
  ·have HO2 := Lib.hid (show O = some us by rw [hg.out, drop_end (by simp; rw [N1.out]; omega)]; rfl)
   have SE := Lib.hid (fun W h => SO.out W (.slice ua us.length uc) us h)
   cases hS : setOkM us n
   ·have HN := Lib.hid (show U = none by rw [HU.out, HO2.out, doneM]; simp [hS])
    have HSm := Lib.hid hS
    clear hS hg
    go_wp2_with fail
    refine (SE.out _ (ownActs_acts ho.out)).mono ?_
    rintro e w6 ⟨rfl, b6⟩
    rw [HSm.out]
    have D6 := Lib.hid (hbel.out.trans (b6.mono hbel.out.size))
    clear b6
    go_wp2_with fail
    go_ret2
    exact .inl ⟨HN.out, rfl, D6.out⟩
   ·have HN := Lib.hid (show U = some us by rw [HU.out, HO2.out, doneM]; simp [hS])
    have HSm := Lib.hid hS
    clear hS hg
    go_wp2_with fail
    refine (SE.out _ (ownActs_acts ho.out)).mono ?_
    rintro e w6 ⟨rfl, b6⟩
    rw [HSm.out]
    have D6 := Lib.hid (hbel.out.trans (b6.mono hbel.out.size))
    have O6 := Lib.hid (ho.out.below b6)
    clear b6
    go_wp2_with fail
    go_ret2
    exact .inr ⟨_, HN.out, _, rfl, O6.out, D6.out⟩
end Go.Proofs.YtghgiefciijoeaaGreatDoor
namespace Go.Proofs.YtghgiefciijoeaaGreatDoor
open Go.RowKit
set_option linter.unusedVariables false
set_option maxRecDepth 100000 in
set_option maxHeartbeats 1600000 in
theorem union_any (v v' : Value) (l m : List ActM) (n : Int) (w : World) (h : Acts w v l) (h' : Acts w v' m) (hn : -9223372036854775808 ≤ n ∧ n ≤ 9223372036854775807) :
  Calls Tryz.prog 123 #[v, v', .int .i64 n] w (Added w (unionM l m n)) := by
 cases h1 : setOkM l n
 ·have HN := Lib.hid (show unionM l m n = none by rw [unionM, h1]; simp)
  have SO := Lib.hid (setOk_any v l n w h hn)
  rw [h1] at SO
  clear h1 h h'
  go_enter Tryz.func123, Tryz.ntmps123
  go_wp2_with fail
  refine SO.out.mono ?_
  rintro e w1 ⟨rfl, b1⟩
  have B1 := Lib.hid b1
  clear b1
  go_wp2_with fail
  go_ret2
  exact .inl ⟨HN.out, rfl, B1.out⟩
 ·cases h2 : setOkM m n
  ·have HN := Lib.hid (show unionM l m n = none by rw [unionM, h2]; simp)
   have SO := Lib.hid (setOk_any v l n w h hn)
   have SO2 := Lib.hid (fun W (hb : Below w.heap.size w W) => setOk_any v' m n W (h'.below hb) hn)
   rw [h1] at SO
   rw [h2] at SO2
   clear h1 h2 h h'
   go_enter Tryz.func123, Tryz.ntmps123
   go_wp2_with fail
   refine SO.out.mono ?_
   rintro e w1 ⟨rfl, b1⟩
   have B1 := Lib.hid b1
   clear b1
   go_wp2_with fail
   refine (SO2.out _ B1.out).mono ?_
   rintro e w2 ⟨rfl, b2⟩
   have B2 := Lib.hid (B1.out.trans (b2.mono B1.out.size))
   clear b2
   go_wp2_with fail
   go_ret2
   exact .inl ⟨HN.out, rfl, B2.out⟩
  ·obtain ⟨ts, rfl, ht⟩ := h'
   obtain ⟨x, cap, rfl⟩ := actsT_len ht
   exact union_walk v l x _ cap ts n w h ht rfl hn h1 h2
end Go.Proofs.YtghgiefciijoeaaGreatDoor
