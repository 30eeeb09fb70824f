/- Rights: the program's small functions. -/
import Derived.Test.YtghgiefciijoeaaGreatDoorLA
import Derived.Test.YtghgiefciijoeaaGreatDoorMI
import Derived.Test.YtghgiefciijoeaaGreatDoorMG
import Derived.Deep.DeepCutAuto

namespace Go.Proofs.YtghgiefciijoeaaGreatDoor
open Go.RowKit
set_option linter.unusedVariables false
set_option linter.unusedSimpArgs false
set_option maxHeartbeats 1600000 in
theorem limits_any (t : ActT) (bk : Int) (w : World) (ht : t.Reads w) : Calls Tryz.prog 170 #[t.val, .int .i64 bk] w fun e w' => e = .returned (.bool (ceilIs bk t.a)) ∧ Below w.heap.size w w' := by
 have HT := Lib.hid ht
 clear ht
 obtain ⟨⟨r, nn, dep, actor, kind, dst, bucket, mask, gr, gn, ups⟩, vd, vs⟩ := t
 have hsd := ints_len HT.out.1
 have hsu := ups_len HT.out.2
 simp only at hsd hsu
 obtain ⟨da, dc, rfl⟩ := hsd
 obtain ⟨ua, uc, rfl⟩ := hsu
 try simp only [ActT.val] at  ⊢
 obtain ⟨dl, hdl⟩ : ∃ x, x = dep.length := ⟨_, rfl⟩
 obtain ⟨ul, hul⟩ : ∃ x, x = ups.length := ⟨_, rfl⟩
 try rw [← hdl] at HT
 try rw [← hul] at HT
 try rw [← hdl]
 try rw [← hul]
 have HDL := Lib.hid hdl
 clear hdl hul
 have b0 := Lib.hid ((Below.refl w.heap.size w).alloc (Nat.le_refl _) (.cells #[.int .i64 r, .int .i64 nn, .slice da dl dc, .int .i64 actor, .int .i64 kind, .int .i64 dst, .int .i64 bucket, .int .i64 mask, .int .i64 gr, .int .i64 gn, .slice ua ul uc] 32))
 unfold ceilIs
 by_cases h1 : kind = 3
 ·have e1 : (kind == 3) = true := by simp [h1]
  have H1 := Lib.hid h1
  clear h1
  by_cases h2 : actor = 0
  ·have e2 : (actor == 0) = true := by simp [h2]
   have H2 := Lib.hid h2
   clear h2
   by_cases h3 : bucket = bk
   ·have e3 : (bucket == bk) = true := by simp [h3]
    have H3 := Lib.hid h3
    clear h3
    go_enter Tryz.func170, Tryz.ntmps170
    go_wp2
    go_ret
    exact ⟨ret_bool (by simp [H1.out, H2.out, H3.out]), b0.out⟩
   ·have e3 : (bucket == bk) = false := by simp [h3]
    go_enter Tryz.func170, Tryz.ntmps170
    go_wp2
    go_ret
    exact ⟨ret_bool (by simp [H1.out, H2.out, h3]), b0.out⟩
  ·have e2 : (actor == 0) = false := by simp [h2]
   go_enter Tryz.func170, Tryz.ntmps170
   go_wp2
   go_ret
   exact ⟨ret_bool (by simp [H1.out, h2]), b0.out⟩
 ·have e1 : (kind == 3) = false := by simp [h1]
  go_enter Tryz.func170, Tryz.ntmps170
  go_wp2
  go_ret
  exact ⟨ret_bool (by simp [h1]), b0.out⟩
set_option maxHeartbeats 1600000 in
theorem isPast_any (va : Option Addr) (vl vc mb : Nat) (q x0 x1 x2 x3 er en m y0 y1 y2 y3 : Int) (xs : List Int) (t : ActT) (w : World) (ht : t.Reads w) (h0 : 0 ≤ t.a.r) (h4 : t.a.r < 4) (hy : [y0, y1, y2, y3].getD t.a.r.toNat 0 = xs.getD t.a.r.toNat 0) :
  Calls Tryz.prog 178 #[.agg #[.slice va vl vc, .map (some mb), .int .i64 q, .int .i64 x0, .int .i64 x1, .int .i64 x2, .int .i64 x3, .int .i64 er, .int .i64 en, .int .i64 m, .int .i64 y0, .int .i64 y1, .int .i64 y2, .int .i64 y3], t.val] w fun e w' => e = .returned (.bool (pastM xs t.a)) ∧ Below w.heap.size w w' := by
 have RE := Lib.hid (fun W (h : t.Reads W) => reaches_any m y0 y1 y2 y3 _ t t.a.r.toNat W h (by omega) (by omega) hy)
 have HT := Lib.hid ht
 unfold pastM
 clear ht hy
 obtain ⟨⟨r, nn, dep, actor, kind, dst, bucket, mask, gr, gn, ups⟩, vd, vs⟩ := t
 have hsd := ints_len HT.out.1
 have hsu := ups_len HT.out.2
 simp only at hsd hsu
 obtain ⟨da, dc, rfl⟩ := hsd
 obtain ⟨ua, uc, rfl⟩ := hsu
 try simp only [ActT.val] at RE ⊢
 obtain ⟨dl, hdl⟩ : ∃ x, x = dep.length := ⟨_, rfl⟩
 obtain ⟨ul, hul⟩ : ∃ x, x = ups.length := ⟨_, rfl⟩
 try rw [← hdl] at HT
 try rw [← hul] at HT
 try rw [← hdl] at RE
 try rw [← hul] at RE
 try rw [← hdl]
 try rw [← hul]
 have HDL := Lib.hid hdl
 clear hdl hul
 clear h0 h4
 have BW := Lib.hid (Below.refl w.heap.size w)
 go_enter Tryz.func178, Tryz.ntmps178
 have kV := (Blk.new w #[.slice va vl vc, .map (some mb), .int .i64 q, .int .i64 x0, .int .i64 x1, .int .i64 x2, .int .i64 x3, .int .i64 er, .int .i64 en, .int .i64 m, .int .i64 y0, .int .i64 y1, .int .i64 y2, .int .i64 y3] 133).alloc (.cells #[.int .i64 r, .int .i64 nn, .slice da dl dc, .int .i64 actor, .int .i64 kind, .int .i64 dst, .int .i64 bucket, .int .i64 mask, .int .i64 gr, .int .i64 gn, .slice ua ul uc] 32)
 have kT := Blk.new (w.alloc (.cells #[.slice va vl vc, .map (some mb), .int .i64 q, .int .i64 x0, .int .i64 x1, .int .i64 x2, .int .i64 x3, .int .i64 er, .int .i64 en, .int .i64 m, .int .i64 y0, .int .i64 y1, .int .i64 y2, .int .i64 y3] 133)) #[.int .i64 r, .int .i64 nn, .slice da dl dc, .int .i64 actor, .int .i64 kind, .int .i64 dst, .int .i64 bucket, .int .i64 mask, .int .i64 gr, .int .i64 gn, .slice ua ul uc] 32
 simp only [World.size_alloc] at kT
 have ba := ((Below.refl w.heap.size w).alloc (Nat.le_refl _) (.cells #[.slice va vl vc, .map (some mb), .int .i64 q, .int .i64 x0, .int .i64 x1, .int .i64 x2, .int .i64 x3, .int .i64 er, .int .i64 en, .int .i64 m, .int .i64 y0, .int .i64 y1, .int .i64 y2, .int .i64 y3] 133)).alloc (by simp [World.size_alloc]; try omega) (.cells #[.int .i64 r, .int .i64 nn, .slice da dl dc, .int .i64 actor, .int .i64 kind, .int .i64 dst, .int .i64 bucket, .int .i64 mask, .int .i64 gr, .int .i64 gn, .slice ua ul uc] 32)
 obtain ⟨pV, hpV⟩ : ∃ p, p = w.heap.size := ⟨_, rfl⟩
 obtain ⟨pT, hpT⟩ : ∃ p, p = w.heap.size + 1 := ⟨_, rfl⟩
 go_upto_region 1 with (fail)
 rw [← hpT] at kT
 try rw [← hpT]
 rw [← hpV] at kV
 try rw [← hpV]
 obtain ⟨w1, hW⟩ : ∃ W, W = (w.alloc (.cells #[.slice va vl vc, .map (some mb), .int .i64 q, .int .i64 x0, .int .i64 x1, .int .i64 x2, .int .i64 x3, .int .i64 er, .int .i64 en, .int .i64 m, .int .i64 y0, .int .i64 y1, .int .i64 y2, .int .i64 y3] 133)).alloc (.cells #[.int .i64 r, .int .i64 nn, .slice da dl dc, .int .i64 actor, .int .i64 kind, .int .i64 dst, .int .i64 bucket, .int .i64 mask, .int .i64 gr, .int .i64 gn, .slice ua ul uc] 32) := ⟨_, rfl⟩
 rw [← hW] at ba kV kT ⊢
 have KV := Lib.hid kV
 have GV := Lib.hid (show w.heap.size ≤ pV by omega)
 have KT := Lib.hid kT
 have GT := Lib.hid (show w.heap.size ≤ pT by omega)
 replace BW := Lib.hid (BW.out.trans ((ba).mono BW.out.size))
 replace HT := Lib.hid (HT.out.below (ba))
 clear ba hW kV hpV kT hpT
 have v0 := KV.out.cell 0
 have v1 := KV.out.cell 1
 have v2 := KV.out.cell 2
 have v3 := KV.out.cell 3
 have v4 := KV.out.cell 4
 have v5 := KV.out.cell 5
 have v6 := KV.out.cell 6
 have v7 := KV.out.cell 7
 have v8 := KV.out.cell 8
 have v9 := KV.out.cell 9
 have v10 := KV.out.cell 10
 have v11 := KV.out.cell 11
 have v12 := KV.out.cell 12
 have v13 := KV.out.cell 13
 simp only [List.getElem?_cons_zero, List.getElem?_cons_succ] at v0 v1 v2 v3 v4 v5 v6 v7 v8 v9 v10 v11 v12 v13
 have t0 := KT.out.cell 0
 have t1 := KT.out.cell 1
 have t2 := KT.out.cell 2
 have t3 := KT.out.cell 3
 have t4 := KT.out.cell 4
 have t5 := KT.out.cell 5
 have t6 := KT.out.cell 6
 have t7 := KT.out.cell 7
 have t8 := KT.out.cell 8
 have t9 := KT.out.cell 9
 have t10 := KT.out.cell 10
 simp only [List.getElem?_cons_zero, List.getElem?_cons_succ] at t0 t1 t2 t3 t4 t5 t6 t7 t8 t9 t10
 go_wp2_with fail
 refine (RE.out _ HT.out).mono ?_
 rintro e w2 ⟨rfl, b⟩
 clear v0 v1 v2 v3 v4 v5 v6 v7 v8 v9 v10 v11 v12 v13 t0 t1 t2 t3 t4 t5 t6 t7 t8 t9 t10
 replace BW := Lib.hid (BW.out.trans ((b).mono BW.out.size))
 replace HT := Lib.hid (HT.out.below (b))
 replace KV := Lib.hid (KV.out.below (b) KV.out.lt)
 replace KT := Lib.hid (KT.out.below (b) KT.out.lt)
 clear b
 go_wp2_with fail
 go_ret
 exact ⟨rfl, BW.out⟩
set_option maxHeartbeats 3200000 in
set_option maxRecDepth 100000 in
theorem isLater_any (va : Option Addr) (vl vc mb : Nat) (q x0 x1 x2 x3 er en m y0 y1 y2 y3 : Int) (t : ActT) (w : World) (ht : t.Reads w) (he : er < t.a.dep.length) :
  Calls Tryz.prog 171 #[.agg #[.slice va vl vc, .map (some mb), .int .i64 q, .int .i64 x0, .int .i64 x1, .int .i64 x2, .int .i64 x3, .int .i64 er, .int .i64 en, .int .i64 m, .int .i64 y0, .int .i64 y1, .int .i64 y2, .int .i64 y3], t.val] w fun e w' => e = .returned (.bool (laterM t.a er en)) ∧ Below w.heap.size w w' := by
 have KN := Lib.hid (fun W (h : t.Reads W) => knows_any t.a.r t.a.n t.a.actor er en t.vd t.a.dep W h.1)
 rw [later_knows he] at KN
 obtain ⟨X, hX⟩ : ∃ X, X = laterM t.a er en := ⟨_, rfl⟩
 rw [← hX] at KN ⊢
 have HT := Lib.hid ht
 clear ht he hX
 obtain ⟨⟨r, nn, dep, actor, kind, dst, bucket, mask, gr, gn, ups⟩, vd, vs⟩ := t
 have hsd := ints_len HT.out.1
 have hsu := ups_len HT.out.2
 simp only at hsd hsu
 obtain ⟨da, dc, rfl⟩ := hsd
 obtain ⟨ua, uc, rfl⟩ := hsu
 try simp only [ActT.val] at KN ⊢
 obtain ⟨dl, hdl⟩ : ∃ x, x = dep.length := ⟨_, rfl⟩
 obtain ⟨ul, hul⟩ : ∃ x, x = ups.length := ⟨_, rfl⟩
 try rw [← hdl] at HT
 try rw [← hul] at HT
 try rw [← hdl] at KN
 try rw [← hul] at KN
 try rw [← hdl]
 try rw [← hul]
 have HDL := Lib.hid hdl
 clear hdl hul
 try simp only at KN
 have BW := Lib.hid (Below.refl w.heap.size w)
 go_enter Tryz.func171, Tryz.ntmps171
 have kV := (Blk.new w #[.slice va vl vc, .map (some mb), .int .i64 q, .int .i64 x0, .int .i64 x1, .int .i64 x2, .int .i64 x3, .int .i64 er, .int .i64 en, .int .i64 m, .int .i64 y0, .int .i64 y1, .int .i64 y2, .int .i64 y3] 133).alloc (.cells #[.int .i64 r, .int .i64 nn, .slice da dl dc, .int .i64 actor, .int .i64 kind, .int .i64 dst, .int .i64 bucket, .int .i64 mask, .int .i64 gr, .int .i64 gn, .slice ua ul uc] 32)
 have kT := Blk.new (w.alloc (.cells #[.slice va vl vc, .map (some mb), .int .i64 q, .int .i64 x0, .int .i64 x1, .int .i64 x2, .int .i64 x3, .int .i64 er, .int .i64 en, .int .i64 m, .int .i64 y0, .int .i64 y1, .int .i64 y2, .int .i64 y3] 133)) #[.int .i64 r, .int .i64 nn, .slice da dl dc, .int .i64 actor, .int .i64 kind, .int .i64 dst, .int .i64 bucket, .int .i64 mask, .int .i64 gr, .int .i64 gn, .slice ua ul uc] 32
 simp only [World.size_alloc] at kT
 have ba := ((Below.refl w.heap.size w).alloc (Nat.le_refl _) (.cells #[.slice va vl vc, .map (some mb), .int .i64 q, .int .i64 x0, .int .i64 x1, .int .i64 x2, .int .i64 x3, .int .i64 er, .int .i64 en, .int .i64 m, .int .i64 y0, .int .i64 y1, .int .i64 y2, .int .i64 y3] 133)).alloc (by simp [World.size_alloc]; try omega) (.cells #[.int .i64 r, .int .i64 nn, .slice da dl dc, .int .i64 actor, .int .i64 kind, .int .i64 dst, .int .i64 bucket, .int .i64 mask, .int .i64 gr, .int .i64 gn, .slice ua ul uc] 32)
 obtain ⟨pV, hpV⟩ : ∃ p, p = w.heap.size := ⟨_, rfl⟩
 obtain ⟨pT, hpT⟩ : ∃ p, p = w.heap.size + 1 := ⟨_, rfl⟩
 go_upto_region 1 with (fail)
 rw [← hpT] at kT
 try rw [← hpT]
 rw [← hpV] at kV
 try rw [← hpV]
 obtain ⟨w1, hW⟩ : ∃ W, W = (w.alloc (.cells #[.slice va vl vc, .map (some mb), .int .i64 q, .int .i64 x0, .int .i64 x1, .int .i64 x2, .int .i64 x3, .int .i64 er, .int .i64 en, .int .i64 m, .int .i64 y0, .int .i64 y1, .int .i64 y2, .int .i64 y3] 133)).alloc (.cells #[.int .i64 r, .int .i64 nn, .slice da dl dc, .int .i64 actor, .int .i64 kind, .int .i64 dst, .int .i64 bucket, .int .i64 mask, .int .i64 gr, .int .i64 gn, .slice ua ul uc] 32) := ⟨_, rfl⟩
 rw [← hW] at ba kV kT ⊢
 have KV := Lib.hid kV
 have GV := Lib.hid (show w.heap.size ≤ pV by omega)
 have KT := Lib.hid kT
 have GT := Lib.hid (show w.heap.size ≤ pT by omega)
 replace BW := Lib.hid (BW.out.trans ((ba).mono BW.out.size))
 replace HT := Lib.hid (HT.out.below (ba))
 clear ba hW kV hpV kT hpT
 refine wp_region_held_drew (S := fun w' => Below w1.heap.size w1 w') (by kernel_rfl) ((Below.refl w1.heap.size w1).drew) (fun hHeld => ?_)
 refine held_take (i := 0) (d := some 5) (v := ?_) rfl (by kernel_rfl) (by kernel_rfl) (by kernel_rfl) (by kernel_rfl) (fun _ _ _ h => h) (by kernel_rfl) ?_ hHeld ?_
 rotate_left
 ·intro w' hSw
  have gT := KT.out.below hSw KT.out.lt
  have t0 := gT.cell 0
  have t1 := gT.cell 1
  have t2 := gT.cell 2
  have t3 := gT.cell 3
  have t4 := gT.cell 4
  have t5 := gT.cell 5
  have t6 := gT.cell 6
  have t7 := gT.cell 7
  have t8 := gT.cell 8
  have t9 := gT.cell 9
  have t10 := gT.cell 10
  simp only [List.getElem?_cons_zero, List.getElem?_cons_succ] at t0 t1 t2 t3 t4 t5 t6 t7 t8 t9 t10
  go_simp
  first | done | with_reducible rfl
 simp only [Act.put, List.setIfInBounds_toArray, List.set_cons_zero, List.set_cons_succ]
 refine held_take (i := 2) (d := some 7) (v := ?_) rfl (by kernel_rfl) (by kernel_rfl) (by kernel_rfl) (by kernel_rfl) (fun _ _ _ h => h) (by kernel_rfl) ?_ hHeld ?_
 rotate_left
 ·intro w' hSw
  go_simp
  first | done | with_reducible rfl
 simp only [Act.put, List.setIfInBounds_toArray, List.set_cons_zero, List.set_cons_succ]
 refine held_take (i := 3) (d := some 8) (v := ?_) rfl (by kernel_rfl) (by kernel_rfl) (by kernel_rfl) (by kernel_rfl) (fun _ _ _ h => h) (by kernel_rfl) ?_ hHeld ?_
 rotate_left
 ·intro w' hSw
  have gV := KV.out.below hSw KV.out.lt
  have v0 := gV.cell 0
  have v1 := gV.cell 1
  have v2 := gV.cell 2
  have v3 := gV.cell 3
  have v4 := gV.cell 4
  have v5 := gV.cell 5
  have v6 := gV.cell 6
  have v7 := gV.cell 7
  have v8 := gV.cell 8
  have v9 := gV.cell 9
  have v10 := gV.cell 10
  have v11 := gV.cell 11
  have v12 := gV.cell 12
  have v13 := gV.cell 13
  simp only [List.getElem?_cons_zero, List.getElem?_cons_succ] at v0 v1 v2 v3 v4 v5 v6 v7 v8 v9 v10 v11 v12 v13
  go_simp
  first | done | with_reducible rfl
 simp only [Act.put, List.setIfInBounds_toArray, List.set_cons_zero, List.set_cons_succ]
 refine held_take (i := 4) (d := some 9) (v := ?_) rfl (by kernel_rfl) (by kernel_rfl) (by kernel_rfl) (by kernel_rfl) (fun _ _ _ h => h) (by kernel_rfl) ?_ hHeld ?_
 rotate_left
 ·intro w' hSw
  go_simp
  first | done | with_reducible rfl
 simp only [Act.put, List.setIfInBounds_toArray, List.set_cons_zero, List.set_cons_succ]
 refine held_take (i := 5) (d := some 10) (v := ?_) rfl (by kernel_rfl) (by kernel_rfl) (by kernel_rfl) (by kernel_rfl) (fun _ _ _ h => h) (by kernel_rfl) ?_ hHeld ?_
 rotate_left
 ·intro w' hSw
  have gV := KV.out.below hSw KV.out.lt
  have v0 := gV.cell 0
  have v1 := gV.cell 1
  have v2 := gV.cell 2
  have v3 := gV.cell 3
  have v4 := gV.cell 4
  have v5 := gV.cell 5
  have v6 := gV.cell 6
  have v7 := gV.cell 7
  have v8 := gV.cell 8
  have v9 := gV.cell 9
  have v10 := gV.cell 10
  have v11 := gV.cell 11
  have v12 := gV.cell 12
  have v13 := gV.cell 13
  simp only [List.getElem?_cons_zero, List.getElem?_cons_succ] at v0 v1 v2 v3 v4 v5 v6 v7 v8 v9 v10 v11 v12 v13
  go_simp
  first | done | with_reducible rfl
 simp only [Act.put, List.setIfInBounds_toArray, List.set_cons_zero, List.set_cons_succ]
 refine wpAnyH_ready (rs := [1]) (by kernel_rfl) (by simp) ?_
 refine AllReadyH.cons rfl (fun K hK => ?_) AllReadyH.nil
 go_simp
 refine (commonOf_any r nn actor kind dst bucket mask gr gn dl dc da (.slice ua ul uc) _).mono ?_
 rintro e w2 ⟨rfl, b2⟩
 have D2 := hHeld.trans (b2.mono hHeld.size)
 go_simp
 refine hK.out _ _ (D2) (fun hHeld => ?_)
 clear hK K
 try simp only [Act.put, List.setIfInBounds_toArray, List.set_cons_zero, List.set_cons_succ]
 refine wpAnyH_ready (rs := [6]) (by kernel_rfl) (by simp) ?_
 refine AllReadyH.cons rfl (fun K hK => ?_) AllReadyH.nil
 go_simp
 refine (KN.out _ (HT.out.below hHeld)).mono ?_
 rintro e w3 ⟨rfl, b3⟩
 have D3 := hHeld.trans (b3.mono hHeld.size)
 go_simp
 refine hK.out _ _ (D3) (fun hHeld => ?_)
 clear hK K
 try simp only [Act.put, List.setIfInBounds_toArray, List.set_cons_zero, List.set_cons_succ]
 refine held_take (i := 7) (d := some 4) (v := ?_) rfl (by kernel_rfl) (by kernel_rfl) (by kernel_rfl) (by kernel_rfl) (fun _ _ _ h => h) (by kernel_rfl) ?_ hHeld ?_
 rotate_left
 ·intro w' hSw
  go_simp
  first | done | with_reducible rfl
 simp only [Act.put, List.setIfInBounds_toArray, List.set_cons_zero, List.set_cons_succ]
 refine wpAnyH_done (by kernel_rfl) ?_ _
 have BZ := Lib.hid (BW.out.trans (hHeld.mono BW.out.size))
 clear hHeld
 go_wp2_with fail
 go_ret
 exact ⟨rfl, BZ.out⟩
set_option maxHeartbeats 400000 in
theorem within_any (x y : Int) (w : World) : Calls Tryz.prog 161 #[.int .i64 x, .int .i64 y] w fun e w' => e = .returned (.int .i64 (bits .and .i64 x y)) ∧ w' = w := by
 go_enter Tryz.func161, Tryz.ntmps161
 go_wp2
 go_ret
 exact ⟨rfl, rfl⟩
end Go.Proofs.YtghgiefciijoeaaGreatDoor
