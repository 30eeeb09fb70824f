/- markActS, heldActS at lists of acts whose blocks are apart. -/
import Derived.Test.YtghgiefciijoeaaGreatDoorML

namespace Go.Proofs.YtghgiefciijoeaaGreatDoor
open Go.RowKit
set_option linter.unusedVariables false
def mkD (a : ActM) (k : Int) : Int := k + 1 + 1 + a.dep.length
def mkA (k : Int) (a : ActM) : ActM := ⟨k, k + 1, iota (k + 1 + 1) a.dep.length, mkD a k, mkD a k + 1, mkD a k + 1 + 1, mkD a k + 1 + 1 + 1, mkD a k + 1 + 1 + 1 + 1, mkD a k + 1 + 1 + 1 + 1 + 1, mkD a k + 1 + 1 + 1 + 1 + 1 + 1, mkU (mkD a k + 1 + 1 + 1 + 1 + 1 + 1 + 1) a.ups⟩
def szA (a : ActM) : Nat := 9 + a.dep.length + 4 * a.ups.length
def mkL (k : Int) : List ActM → List ActM
 | [] => []
 | a :: l => mkA k a :: mkL (k + szA a) l
def szL : List ActM → Nat
 | [] => 0
 | a :: l => szA a + szL l
theorem szL_tot : ∀ l : List ActM, szL l ≤ 9 * totM l
 | [] => by simp [szL, totM]
 | a :: l => by have := szL_tot l; simp only [szL, totM, szA]; omega
theorem szL_len : ∀ l : List ActM, l.length ≤ szL l
 | [] => by simp
 | a :: l => by have := szL_len l; simp only [szL, szA, List.length_cons]; omega
theorem szL_app (l m : List ActM) : szL (l ++ m) = szL l + szL m := by
 induction l with
 | nil => simp [szL]
 | cons a l ih => simp only [List.cons_append, szL, ih]; omega
theorem mkL_length : ∀ (k : Int) (l : List ActM), (mkL k l).length = l.length
 | _, [] => rfl
 | k, a :: l => by simp [mkL, mkL_length (k + szA a) l]
theorem mkL_snoc : ∀ (k : Int) (l : List ActM) (a : ActM), mkL k (l ++ [a]) = mkL k l ++ [mkA (k + szL l) a]
 | k, [], a => by simp [mkL, szL]
 | k, b :: l, a => by
  rw [List.cons_append, mkL, mkL_snoc (k + szA b) l a, mkL, List.cons_append]
  congr 4
  simp only [szL]
  omega
theorem va_set9 (l : List ActT) (k : Nat) (a : ActM) (h : k < l.length) :
  (((((((((va l).set (k * 11) (.int .i64 a.r)).set (k * 11 + 1) (.int .i64 a.n)).set (k * 11 + 3) (.int .i64 a.actor)).set (k * 11 + 4) (.int .i64 a.kind)).set (k * 11 + 5) (.int .i64 a.to)).set (k * 11 + 6) (.int .i64 a.bucket)).set (k * 11 + 7) (.int .i64 a.mask)).set (k * 11 + 8) (.int .i64 a.gr)).set (k * 11 + 9) (.int .i64 a.gn) = va (l.set k ⟨a, (l.getD k t0).vd, (l.getD k t0).vs⟩) := by
 induction l generalizing k with
 | nil => simp at h
 | cons x l ih =>
  have hv : ∀ x l, va (x :: l) = .int .i64 x.a.r :: .int .i64 x.a.n :: x.vd :: .int .i64 x.a.actor :: .int .i64 x.a.kind :: .int .i64 x.a.to :: .int .i64 x.a.bucket :: .int .i64 x.a.mask :: .int .i64 x.a.gr :: .int .i64 x.a.gn :: x.vs :: va l := fun _ _ => rfl
  cases k with
  | zero => rfl
  | succ k =>
   have := ih k (by simpa using h)
   rw [List.set_cons_succ, List.getD_cons_succ, hv, hv, ← this, show (k + 1) * 11 = k * 11 + 11 from by omega]
   rfl
theorem set_mid (s1 : List ActT) (u : ActT) (s3 : List ActT) (x : ActT) (j : Nat) (h : s1.length = j) : (s1 ++ u :: s3).set j x = (s1 ++ [x]) ++ s3 := by
 rw [List.set_append_right _ _ (by omega), h, Nat.sub_self, List.set_cons_zero, List.append_assoc]
 rfl
theorem markI {w : World} {ds : List Nat} {v : Value} {xs : List Int} (h : OwnI w ds v xs) (k : Int) (hk : 0 ≤ k) (hs : k + xs.length ≤ 4000000000) :
  Calls Tryz.prog 61 #[v, .int .i64 k] w fun e w' => e = .returned (.int .i64 (k + xs.length)) ∧ OwnI w' ds v (iota k xs.length) ∧ GrOn ds w w' := by
 rcases h with ⟨rfl, rfl, a, cap, rfl⟩ | ⟨d, rfl, hp, h⟩
 ·refine (mark_empty a cap k w hk (by simpa using hs)).mono ?_
  rintro e w' ⟨rfl, rfl⟩
  exact ⟨by simp, .inl ⟨rfl, rfl, a, cap, rfl⟩, GrOn.refl _ _⟩
 ·refine (mark_any d v k xs w h hk hs).mono ?_
  rintro e w' ⟨rfl, h1, h2⟩
  exact ⟨rfl, .inr ⟨d, rfl, by rw [iota_length]; exact hp, h1⟩, GrOn.of_grown h2⟩
theorem markP {w : World} {ds : List Nat} {v : Value} {us : List UpM} (h : OwnP w ds v us) (k : Int) (hk : 0 ≤ k) (hs : k + 4 * us.length ≤ 4000000000) :
  Calls Tryz.prog 62 #[v, .int .i64 k] w fun e w' => e = .returned (.int .i64 (k + 4 * us.length)) ∧ OwnP w' ds v (mkU k us) ∧ GrOn ds w w' := by
 rcases h with ⟨rfl, rfl, a, cap, rfl⟩ | ⟨d, rfl, hp, h⟩
 ·refine (markU_empty a cap k w hk (by simpa using hs)).mono ?_
  rintro e w' ⟨rfl, rfl⟩
  exact ⟨by simp, .inl ⟨rfl, rfl, a, cap, rfl⟩, GrOn.refl _ _⟩
 ·refine (markU_any d v k us w h hk hs).mono ?_
  rintro e w' ⟨rfl, h1, h2⟩
  exact ⟨rfl, .inr ⟨d, rfl, by rw [mkU_length]; exact hp, h1⟩, GrOn.of_grown h2⟩
set_option maxRecDepth 100000 in
set_option maxHeartbeats 6400000 in
theorem markL_some (g n cap : Nat) (k : Int) (ts : List ActT) (cs : List Nat) (w : World) (hn : ts.length = n) (hnd : (g :: cs).Nodup) (hk : 0 ≤ k) (hs : k + szL (ts.map ActT.a) ≤ 4000000000)
  (ho : w.ownsRow g 32 11 (.slice (some ⟨g, 0, none⟩) n cap) n (va ts)) (hl : Lists w ts cs) :
  Calls Tryz.prog 28 #[.slice (some ⟨g, 0, none⟩) n cap, .int .i64 k] w fun e w' => e = .returned (.int .i64 (k + szL (ts.map ActT.a))) ∧ OwnL w' (.slice (some ⟨g, 0, none⟩) n cap) (mkL k (ts.map ActT.a)) (g :: cs) ∧ GrOn (g :: cs) w w' := by
 have HN := Lib.hid hn
 have HO := Lib.hid ho
 have HL := Lib.hid hl
 have HND := Lib.hid hnd
 have HS := Lib.hid hs
 obtain ⟨F, hF⟩ : ∃ F, F = szL (ts.map ActT.a) := ⟨_, rfl⟩
 have HF := Lib.hid hF
 have hnF : n ≤ F := by rw [hF, ← hn]; simpa using szL_len (ts.map ActT.a)
 rw [← hF] at hs ⊢
 clear hn ho hl hnd hF
 go_enter Tryz.func28, Tryz.ntmps28
 go_wp2
 go_loopw [1, 5] (fun t i wr => ∃ (j : Nat) (s1 s2 : List ActT) (b1 b2 : List Nat) (z : Nat), j ≤ n ∧ i = .int .i64 j ∧ t = .int .i64 (k + z) ∧ z ≤ F ∧ Hid (z = szL ((ts.map ActT.a).take j)) ∧ Hid (s1.length = j) ∧ Hid (s2 = ts.drop j) ∧ Hid (s1.map ActT.a = mkL k ((ts.map ActT.a).take j)) ∧ Hid (cs = b1 ++ b2) ∧
  Hid (wr.ownsRow g 32 11 (.slice (some ⟨g, 0, none⟩) n cap) n (va (s1 ++ s2))) ∧ Hid (Lists wr s1 b1) ∧ Hid (Lists wr s2 b2) ∧ Hid (GrOn (g :: cs) w wr)) (fun _ i _ => n - (intOf i).toNat)
 case atStart => exact ⟨0, [], ts, [], cs, 0, Nat.zero_le _, rfl, by simp, Nat.zero_le _, rfl, rfl, rfl, rfl, rfl, HO.out, rfl, HL.out, GrOn.refl _ _⟩
 case round =>
  obtain ⟨j, s1, s2, b1, b2, z, hj, rfl, rfl, hz, hzz, hl1, hs2, hm1, hcs, hrow, hli1, hli2, hgr⟩ := hrel
  clear HO HL
  by_cases hlt : j < n
  ·obtain ⟨u, s3, hs3, hs4⟩ : ∃ u s3, s2 = u :: s3 ∧ s3 = ts.drop (j + 1) := by
    have := hs2.out
    rw [List.drop_eq_getElem_cons (by rw [HN.out]; exact hlt)] at this
    exact ⟨_, _, this, rfl⟩
   subst hs3
   have htk : (ts.map ActT.a).take (j + 1) = (ts.map ActT.a).take j ++ [u.a] := by
    have h1 := hs2.out
    have h2 : ts[j]? = some u := by
     have : (ts.drop j)[0]? = some u := by rw [← h1]; rfl
     simpa using this
    rw [List.take_add_one, List.getElem?_map, h2]
    rfl
   obtain ⟨ds, us, b3, hb3, hI, hP, hli3⟩ := hli2.out
   have hF1 : z + szA u.a ≤ F := by
    have h1 : F = szL ((ts.map ActT.a).take (j + 1)) + szL ((ts.map ActT.a).drop (j + 1)) := by rw [HF.out, ← szL_app, List.take_append_drop]
    rw [htk, szL_app, ← hzz.out] at h1
    simp only [szL] at h1
    omega
   have hnd := HND.out
   rw [hcs.out, hb3] at hnd
   have hgd : g ∉ ds := fun h => (List.nodup_cons.1 hnd).1 (by simp [h])
   have hgu : g ∉ us := fun h => (List.nodup_cons.1 hnd).1 (by simp [h])
   have hg1 : g ∉ b1 := fun h => (List.nodup_cons.1 hnd).1 (by simp [h])
   have hg3 : g ∉ b3 := fun h => (List.nodup_cons.1 hnd).1 (by simp [h])
   have hn2 := (List.nodup_cons.1 hnd).2
   have hdd : ∀ b ∈ b1, b ∉ ds ∧ b ∉ us := fun b hb => by
    have := (List.nodup_append.1 hn2).2.2 b hb
    exact ⟨fun h => this b (by simp [h]) rfl, fun h => this b (by simp [h]) rfl⟩
   have hn3 := (List.nodup_append.1 hn2).2.1
   have hd3 : ∀ b ∈ b3, b ∉ ds ∧ b ∉ us := fun b hb =>
    ⟨fun h => (List.nodup_append.1 hn3).2.2 b (by simp [h]) b hb rfl, fun h => (List.nodup_append.1 hn3).2.2 b (by simp [h]) b hb rfl⟩
   have hdu : ∀ b ∈ ds, b ∉ us := fun b hb h => (List.nodup_append.1 (List.nodup_append.1 hn3).1).2.2 b hb b h rfl
   clear hnd hn2 hn3
   have hsa : szA u.a = 9 + u.a.dep.length + 4 * u.a.ups.length := rfl
   have hgt : (s1 ++ u :: s3).getD j t0 = u := by
    simp [List.getD, hl1.out]
   have hl0 : (s1 ++ u :: s3).length = n := by
    have h1 := congrArg List.length hs2.out
    simp only [List.length_drop, List.length_cons, HN.out] at h1
    simp [hl1.out]
    omega
   obtain ⟨⟨r, nn, dep, actor, kind, dst, bucket, mask, gr, gn, ups⟩, vd, vs⟩ := u
   have hsd := ints_len hI.ints
   have hsu := ups_len hP.ups
   simp only at hsd hsu hsa hF1
   obtain ⟨da, dc, rfl⟩ := hsd
   obtain ⟨ua, uc, rfl⟩ := hsu
   have hat := row_actAt hrow.out j hl0 hlt
   rw [hgt] at hat
   have c0 := hat.c0
   have c1 := hat.c1
   have c2 := hat.c2
   have c10 := hat.c10
   simp only at c0 c1 c2 c10
   have f0 := hrow.out.frozenAt (j * 11)
   have f1 := hrow.out.frozenAt (j * 11 + 1)
   have ST := Lib.hid ((hrow.out.stored (j * 11) (.int .i64 (k + z))).1.stored (j * 11 + 1) (.int .i64 (k + z + 1))).1
   have GT := Lib.hid ((grown_set (w := wr) g (j * 11) (.int .i64 (k + z))).trans (grown_set g (j * 11 + 1) (.int .i64 (k + z + 1))))
   have HSA := Lib.hid hsa
   have HHI := Lib.hid hI
   have HHP := Lib.hid hP
   have HL3 := Lib.hid hli3
   have HTK := Lib.hid htk
   have HB3 := Lib.hid hb3
   have HGT := Lib.hid hgt
   have HL0 := Lib.hid hl0
   have HS4 := Lib.hid hs4
   have hbd : z + 9 + dep.length + 4 * ups.length ≤ F := by omega
   clear hI hP hli3 htk hb3 hgt hl0 hs4 hsa hF1 hat hli2 hs2
   go_wp2_with fail
   obtain ⟨W1, hW1⟩ : ∃ W1, W1 = (wr.setCell ⟨g, j * 11, none⟩ (.int .i64 (k + z))).setCell ⟨g, j * 11 + 1, none⟩ (.int .i64 (k + z + 1)) := ⟨_, rfl⟩
   rw [← hW1] at ST GT ⊢
   clear hW1 c0 c1 c2 c10 f0 f1
   have g1 : GrOn [g] wr W1 := GrOn.of_grown GT.out
   have I1 := HHI.out.keep fun b hb => g1.same b (HHI.out.lt b hb) (fun h => hgd (List.mem_singleton.1 h ▸ hb))
   have P1 := HHP.out.keep fun b hb => g1.same b (HHP.out.lt b hb) (fun h => hgu (List.mem_singleton.1 h ▸ hb))
   have L1 := hli1.out.keep fun b hb => g1.same b (hli1.out.lt b hb) (fun h => hg1 (List.mem_singleton.1 h ▸ hb))
   have L3 := HL3.out.keep fun b hb => g1.same b (HL3.out.lt b hb) (fun h => hg3 (List.mem_singleton.1 h ▸ hb))
   have G1 := hgr.out.trans (g1.sub (cs := g :: cs) (by simp))
   refine (markI I1 (k + z + 1 + 1) (by omega) (by omega)).mono ?_
   rintro e w2 ⟨rfl, i2, g2⟩
   have I2 := Lib.hid i2
   have P2 := Lib.hid (P1.keep fun b hb => g2.same b (P1.lt b hb) (fun h => hdu b h hb))
   have L2 := Lib.hid (L1.keep fun b hb => g2.same b (L1.lt b hb) (hdd b hb).1)
   have M2 := Lib.hid (L3.keep fun b hb => g2.same b (L3.lt b hb) (hd3 b hb).1)
   have R2 := Lib.hid (row_block ST.out (g2.same g (row_lt ST.out) hgd))
   have G2 := Lib.hid (G1.trans (g2.sub (cs := g :: cs) (fun x hx => List.mem_cons_of_mem _ (by rw [hcs.out, HB3.out]; simp [hx]))))
   clear i2 g2 I1 P1 L1 L3 g1 G1 ST GT HHI HHP HL3 hli1 hrow hgr
   have hXl : (((va (s1 ++ (⟨⟨r, nn, dep, actor, kind, dst, bucket, mask, gr, gn, ups⟩, .slice da dep.length dc, .slice ua ups.length uc⟩ : ActT) :: s3)).set (j * 11) (.int .i64 (k + z))).set (j * 11 + 1) (.int .i64 (k + z + 1))).length = n * 11 := by
    rw [List.length_set, List.length_set, va_length, HL0.out]
   have hX10 : (((va (s1 ++ (⟨⟨r, nn, dep, actor, kind, dst, bucket, mask, gr, gn, ups⟩, .slice da dep.length dc, .slice ua ups.length uc⟩ : ActT) :: s3)).set (j * 11) (.int .i64 (k + z))).set (j * 11 + 1) (.int .i64 (k + z + 1)))[j * 11 + 10]? = some (.slice ua ups.length uc) := by
    rw [List.getElem?_set_ne (by omega), List.getElem?_set_ne (by omega), va_at _ j 10 (by rw [HL0.out]; exact hlt) (by omega), HGT.out]
    rfl
   have hS9 := va_set9 (s1 ++ (⟨⟨r, nn, dep, actor, kind, dst, bucket, mask, gr, gn, ups⟩, .slice da dep.length dc, .slice ua ups.length uc⟩ : ActT) :: s3) j (mkA (k + z) ⟨r, nn, dep, actor, kind, dst, bucket, mask, gr, gn, ups⟩) (by rw [HL0.out]; exact hlt)
   rw [HGT.out] at hS9
   simp only [mkA, mkD] at hS9
   obtain ⟨XS, hXe⟩ : ∃ XS, XS = ((va (s1 ++ (⟨⟨r, nn, dep, actor, kind, dst, bucket, mask, gr, gn, ups⟩, .slice da dep.length dc, .slice ua ups.length uc⟩ : ActT) :: s3)).set (j * 11) (.int .i64 (k + z))).set (j * 11 + 1) (.int .i64 (k + z + 1)) := ⟨_, rfl⟩
   rw [← hXe] at R2 hXl hX10 hS9
   have hXS : ∀ i, i < n * 11 → ∃ z, XS[i]? = some z := fun i hi => ⟨XS[i]'(by omega), List.getElem?_eq_getElem (by omega)⟩
   obtain ⟨z3, hz3⟩ := hXS (j * 11 + 3) (by omega)
   have d3 := (R2.out.cellAt (j * 11 + 3) (by omega)).trans hz3
   have f3 := R2.out.frozenAt (j * 11 + 3)
   obtain ⟨z4, hz4⟩ := hXS (j * 11 + 4) (by omega)
   have d4 := (R2.out.cellAt (j * 11 + 4) (by omega)).trans hz4
   have f4 := R2.out.frozenAt (j * 11 + 4)
   obtain ⟨z5, hz5⟩ := hXS (j * 11 + 5) (by omega)
   have d5 := (R2.out.cellAt (j * 11 + 5) (by omega)).trans hz5
   have f5 := R2.out.frozenAt (j * 11 + 5)
   obtain ⟨z6, hz6⟩ := hXS (j * 11 + 6) (by omega)
   have d6 := (R2.out.cellAt (j * 11 + 6) (by omega)).trans hz6
   have f6 := R2.out.frozenAt (j * 11 + 6)
   obtain ⟨z7, hz7⟩ := hXS (j * 11 + 7) (by omega)
   have d7 := (R2.out.cellAt (j * 11 + 7) (by omega)).trans hz7
   have f7 := R2.out.frozenAt (j * 11 + 7)
   obtain ⟨z8, hz8⟩ := hXS (j * 11 + 8) (by omega)
   have d8 := (R2.out.cellAt (j * 11 + 8) (by omega)).trans hz8
   have f8 := R2.out.frozenAt (j * 11 + 8)
   obtain ⟨z9, hz9⟩ := hXS (j * 11 + 9) (by omega)
   have d9 := (R2.out.cellAt (j * 11 + 9) (by omega)).trans hz9
   have f9 := R2.out.frozenAt (j * 11 + 9)
   have d10 := (R2.out.cellAt (j * 11 + 10) (by omega)).trans hX10
   have st := (((((((R2.out.stored (j * 11 + 3) (.int .i64 (k + z + 1 + 1 + dep.length))).1.stored (j * 11 + 4) (.int .i64 (k + z + 1 + 1 + dep.length + 1))).1.stored (j * 11 + 5) (.int .i64 (k + z + 1 + 1 + dep.length + 1 + 1))).1.stored (j * 11 + 6) (.int .i64 (k + z + 1 + 1 + dep.length + 1 + 1 + 1))).1.stored (j * 11 + 7) (.int .i64 (k + z + 1 + 1 + dep.length + 1 + 1 + 1 + 1))).1.stored (j * 11 + 8) (.int .i64 (k + z + 1 + 1 + dep.length + 1 + 1 + 1 + 1 + 1))).1.stored (j * 11 + 9) (.int .i64 (k + z + 1 + 1 + dep.length + 1 + 1 + 1 + 1 + 1 + 1))).1
   rw [hS9] at st
   have ST := Lib.hid st
   have GT := Lib.hid ((grown_set (w := w2) g (j * 11 + 3) (.int .i64 (k + z + 1 + 1 + dep.length))).trans ((grown_set g (j * 11 + 4) (.int .i64 (k + z + 1 + 1 + dep.length + 1))).trans ((grown_set g (j * 11 + 5) (.int .i64 (k + z + 1 + 1 + dep.length + 1 + 1))).trans ((grown_set g (j * 11 + 6) (.int .i64 (k + z + 1 + 1 + dep.length + 1 + 1 + 1))).trans ((grown_set g (j * 11 + 7) (.int .i64 (k + z + 1 + 1 + dep.length + 1 + 1 + 1 + 1))).trans ((grown_set g (j * 11 + 8) (.int .i64 (k + z + 1 + 1 + dep.length + 1 + 1 + 1 + 1 + 1))).trans ((grown_set g (j * 11 + 9) (.int .i64 (k + z + 1 + 1 + dep.length + 1 + 1 + 1 + 1 + 1 + 1))))))))))
   clear st hXS hXe hXl hX10 hS9 hz3 hz4 hz5 hz6 hz7 hz8 hz9
   go_wp2_with fail
   obtain ⟨W3, hW3⟩ : ∃ W3, W3 = (((((((w2.setCell ⟨g, j * 11 + 3, none⟩ (.int .i64 (k + z + 1 + 1 + dep.length))).setCell ⟨g, j * 11 + 4, none⟩ (.int .i64 (k + z + 1 + 1 + dep.length + 1))).setCell ⟨g, j * 11 + 5, none⟩ (.int .i64 (k + z + 1 + 1 + dep.length + 1 + 1))).setCell ⟨g, j * 11 + 6, none⟩ (.int .i64 (k + z + 1 + 1 + dep.length + 1 + 1 + 1))).setCell ⟨g, j * 11 + 7, none⟩ (.int .i64 (k + z + 1 + 1 + dep.length + 1 + 1 + 1 + 1))).setCell ⟨g, j * 11 + 8, none⟩ (.int .i64 (k + z + 1 + 1 + dep.length + 1 + 1 + 1 + 1 + 1))).setCell ⟨g, j * 11 + 9, none⟩ (.int .i64 (k + z + 1 + 1 + dep.length + 1 + 1 + 1 + 1 + 1 + 1))) := ⟨_, rfl⟩
   rw [← hW3] at ST GT ⊢
   clear hW3 d3 d4 d5 d6 d7 d8 d9 d10 f3 f4 f5 f6 f7 f8 f9
   have g3 : GrOn [g] w2 W3 := GrOn.of_grown GT.out
   have I3 := I2.out.keep fun b hb => g3.same b (I2.out.lt b hb) (fun h => hgd (List.mem_singleton.1 h ▸ hb))
   have P3 := P2.out.keep fun b hb => g3.same b (P2.out.lt b hb) (fun h => hgu (List.mem_singleton.1 h ▸ hb))
   have L3 := L2.out.keep fun b hb => g3.same b (L2.out.lt b hb) (fun h => hg1 (List.mem_singleton.1 h ▸ hb))
   have M3 := M2.out.keep fun b hb => g3.same b (M2.out.lt b hb) (fun h => hg3 (List.mem_singleton.1 h ▸ hb))
   have G3 := G2.out.trans (g3.sub (cs := g :: cs) (by simp))
   refine (markP P3 (k + z + 1 + 1 + dep.length + 1 + 1 + 1 + 1 + 1 + 1 + 1) (by omega) (by omega)).mono ?_
   rintro e w4 ⟨rfl, p4, g4⟩
   have P4 := Lib.hid p4
   have I4 := Lib.hid (I3.keep fun b hb => g4.same b (I3.lt b hb) (hdu b hb))
   have L4 := Lib.hid (L3.keep fun b hb => g4.same b (L3.lt b hb) (hdd b hb).2)
   have M4 := Lib.hid (M3.keep fun b hb => g4.same b (M3.lt b hb) (hd3 b hb).2)
   have R4 := Lib.hid (row_block ST.out (g4.same g (row_lt ST.out) hgu))
   have G4 := Lib.hid (G3.trans (g4.sub (cs := g :: cs) (fun x hx => List.mem_cons_of_mem _ (by rw [hcs.out, HB3.out]; simp [hx]))))
   clear p4 g4 I3 P3 L3 M3 g3 G3 ST GT I2 P2 L2 M2 R2 G2
   go_wp2_with fail
   go_roundw
   case rel =>
    refine ⟨j + 1, s1 ++ [⟨mkA (k + z) ⟨r, nn, dep, actor, kind, dst, bucket, mask, gr, gn, ups⟩, .slice da dep.length dc, .slice ua ups.length uc⟩], s3, b1 ++ (ds ++ us), b3, z + szA ⟨r, nn, dep, actor, kind, dst, bucket, mask, gr, gn, ups⟩, by omega, by go_num, ?_, by rw [HSA.out]; omega, ?_, ?_, HS4.out, ?_, ?_, ?_, ?_, M4.out, G4.out⟩
    ·rw [HSA.out]; congr 1; push_cast; omega
    ·show _ = _
     rw [HTK.out, szL_app, ← hzz.out]
     rfl
    ·show _ = _
     simp [hl1.out]
    ·show _ = _
     rw [HTK.out, mkL_snoc, List.map_append, hm1.out, ← hzz.out]
     rfl
    ·show _ = _
     rw [hcs.out, HB3.out]
     simp
    ·have := R4.out
     rw [set_mid s1 _ s3 _ j hl1.out] at this
     exact this
    ·exact L4.out.snoc I4.out P4.out
   case measure => simp [intOf]; omega
  ·have hjn : j = n := by omega
   subst hjn
   have h1 := hs2.out
   rw [List.drop_of_length_le (by rw [HN.out]; exact Nat.le_refl _)] at h1
   have htl : (ts.map ActT.a).take j = ts.map ActT.a := List.take_of_length_le (by rw [List.length_map, HN.out]; exact Nat.le_refl _)
   have hzf : z = F := by rw [hzz.out, htl, HF.out]
   have hm2 := hm1.out
   rw [htl] at hm2
   have hr2 := hrow.out
   rw [h1, List.append_nil] at hr2
   have hb2 : b2 = [] := by
    have := hli2.out
    rw [h1] at this
    exact this
   have hc2 := hcs.out
   rw [hb2, List.append_nil] at hc2
   have HM2 := Lib.hid hm2
   have HR2 := Lib.hid hr2
   have HC2 := Lib.hid hc2
   clear hm2 hr2 hc2 hb2 h1 htl
   subst hzf
   go_wp2_with fail
   go_ret
   refine ⟨rfl, .inr ⟨s1, g, _, cap, cs, HM2.out, hl1.out, rfl, HND.out, rfl, HR2.out, ?_⟩, hgr.out⟩
   rw [HC2.out]
   exact hli1.out
theorem markL_empty (a : Option Addr) (cap : Nat) (k : Int) (w : World) (hk : 0 ≤ k) (hs : k ≤ 4000000000) :
  Calls Tryz.prog 28 #[.slice a 0 cap, .int .i64 k] w fun e w' => e = .returned (.int .i64 k) ∧ w' = w := by
 go_enter Tryz.func28, Tryz.ntmps28
 go_wp2
 go_loop [1, 5] (fun t i => t = .int .i64 k ∧ i = .int .i64 0) (fun _ _ => 0)
 case atStart => exact ⟨rfl, rfl⟩
 case round =>
  obtain ⟨rfl, rfl⟩ := hrel
  go_wp2
  go_ret
  exact ⟨rfl, rfl⟩
theorem markL_any {w : World} {v : Value} {l : List ActM} {bs : List Nat} (h : OwnL w v l bs) (k : Int) (hk : 0 ≤ k) (hs : k + szL l ≤ 4000000000) :
  Calls Tryz.prog 28 #[v, .int .i64 k] w fun e w' => e = .returned (.int .i64 (k + szL l)) ∧ OwnL w' v (mkL k l) bs ∧ GrOn bs w w' := by
 rcases h with ⟨rfl, rfl, a, cap, rfl⟩ | ⟨ts, g, n, cap, cs, rfl, h2, rfl, h4, rfl, ho, hl⟩
 ·refine (markL_empty a cap k w hk (by simpa [szL] using hs)).mono ?_
  rintro e w' ⟨rfl, rfl⟩
  exact ⟨by simp [szL], .inl ⟨rfl, rfl, a, cap, rfl⟩, GrOn.refl _ _⟩
 ·exact markL_some g n cap k ts cs w h2 h4 hk hs ho hl
end Go.Proofs.YtghgiefciijoeaaGreatDoor
