/- A part that is closed (l3part2), DrawUnion. -/
import Derived.Test.YtkcfcmigcphjlaaGreatRB
import Derived.Test.YtkcfcmigcphjlaaGreatGK
import Derived.Test.YtkcfcmigcphjlaaGreatGG
import Derived.Deep.DeepCutAuto




namespace Go.Proofs.YtkcfcmigcphjlaaGreat
open Go.RowKit
set_option linter.unusedVariables false

theorem ints_own' {w : World} {g k cap : Nat} {xs : List Int} (h : w.ownsRow g 3 1 (.slice (some ⟨g, 0, none⟩) k cap) k (vi xs)) (hk : xs.length = k) : Ints w (.slice (some ⟨g, 0, none⟩) k cap) xs := by
  subst hk
  exact ints_own rfl h
/-- a call that writes into the cursor and into new memory alone -/
structure LX (w : World) (B : Nat) (W : World) : Prop where
  bl : B < w.heap.size
  cu : Cur W B
  g : w.grownBy W (some B)
theorem LX.alloc {w W : World} {B : Nat} (h : LX w B W) (o : Obj) : LX w B (W.alloc o) :=
  ⟨h.bl, h.cu.grown (grown_alloc W o none) (fun g e => by cases e), grown_then h.g (grown_alloc W o none) (fun g e => by cases e)⟩
theorem LX.call {w W W' : World} {B : Nat} (h : LX w B W) (hc : Cur W' B) (hg : W.grownBy W' (some B)) : LX w B W' :=
  ⟨h.bl, hc, grown_then h.g hg (fun g e => .inl (by cases e; rfl))⟩
theorem LX.far {w W W' : World} {B g : Nat} (h : LX w B W) (hg : W.grownBy W' (some g)) (hw : w.heap.size ≤ g) : LX w B W' :=
  ⟨h.bl, h.cu.grown hg (fun k e => by cases e; have := h.bl; omega), grown_then h.g hg (fun k e => .inr (by cases e; exact hw))⟩
theorem LX.below {w W W' : World} {B : Nat} (h : LX w B W) (hb : Below W.heap.size W W') : LX w B W' :=
  ⟨h.bl, h.cu.grown (below_grown hb none) (fun g e => by cases e), grown_then h.g (below_grown hb none) (fun g e => by cases e)⟩
/-- acts that stand behind s -/
def DrawnP (w : World) (B s : Nat) (e : Ending) (w' : World) : Prop := ∃ (v : Value) (us : List ActT), e = .returned v ∧ StillT w' s v us ∧ SmallL (us.map ActT.a) ∧ us.length ≤ 61 ∧ Cur w' B ∧ w.grownBy w' (some B)
set_option maxRecDepth 100000 in
set_option maxHeartbeats 6400000 in
theorem l3part2_any (B s n : Nat) (v : Value) (ts : List ActT) (w : World) (h : Cur w B) (h1 : StillT w s v ts) (hBs : B < s) (hs : s ≤ w.heap.size) (hsm : SmallL (ts.map ActT.a)) (hl : ts.length ≤ 61) (hn : n ≤ 5) : Calls Tryz.prog 57 #[.pointer (some ⟨B, 0, none⟩), v, .int .i64 n] w (DrawnP w B s) := by
  obtain ⟨j0, hi, hz0, hz1, hz2⟩ := info_parts Tryz.info3
  obtain ⟨x, c, rfl⟩ := actsT_len h1.now
  have CS := Lib.hid (setOk_any (.slice x ts.length c) (ts.map ActT.a) n w ⟨ts, rfl, h1.now⟩ (by constructor <;> omega))
  obtain ⟨m, hmm⟩ : ∃ m, m = ts.length := ⟨_, rfl⟩
  rw [← hmm] at h1 CS ⊢
  have HM := Lib.hid hmm
  have hm61 : m ≤ 61 := by omega
  have hst := Lib.hid h1
  have X0 := Lib.hid (show LX w B w from ⟨by omega, h, grown_refl _ _⟩)
  have SM := Lib.hid hsm
  have FIN : Hid (∀ W, LX w B W → DrawnP w B s (.returned (.slice x m c)) W) := Lib.hid fun W hW => ⟨_, ts, rfl, hst.out.cur hW.g hBs, SM.out, by have := HM.out; omega, hW.cu, hW.g⟩
  clear h h1 hsm hmm hl
  go_enter Tryz.func57, Tryz.ntmps57
  go_wp2_with fail
  refine CS.out.mono ?_
  rintro e w1 ⟨rfl, b1⟩
  have X1 := Lib.hid (X0.out.below b1)
  clear b1 X0
  cases hok : setOkM (ts.map ActT.a) n
  · clear hok CS
    go_wp2_with fail
    go_ret
    exact FIN.out _ X1.out
  · by_cases h0 : 0 < m
    · have hm0 : ((m : Int) == 0) = false := by simp; omega
      have OK := Lib.hid (setOk_all hok).2.2.2
      have hn4 := (setOk_all hok).2.1
      have hn1 := (setOk_all hok).1
      clear hok
      obtain ⟨g, off, rfl⟩ : ∃ g off, x = some ⟨g, off, none⟩ := by
        obtain ⟨_, b, o, e, _⟩ := actsT_at hst.out.now h0
        exact ⟨b, o, e⟩
      go_wp2_with fail
      refine (below_any B m _ X1.out.cu (by omega)).mono ?_
      rintro e w2 ⟨y, rfl, y0, _, y2, hc, hg⟩
      have hy := y2 (by omega)
      obtain ⟨i, rfl⟩ := Int.eq_ofNat_of_zero_le y0
      have X2 := Lib.hid (X1.out.call hc hg)
      have hit : i < m := by omega
      have S2 := Lib.hid (hst.out.cur X2.out.g hBs)
      have at_ := S2.out.at i hit
      have rd := S2.out.now.1 _ (getD_mem (ts := ts) (i := i) (by have := HM.out; omega))
      have ok := OK.out _ (List.mem_map.2 ⟨_, getD_mem (ts := ts) (i := i) (by have := HM.out; omega), rfl⟩)
      clear hc hg y2 y0 X1 CS
      generalize ts.getD i t0 = T at at_ rd ok
      obtain ⟨xt, mt, yt, ut, kt, zt, hdt, hstt⟩ := slice_of rd
      obtain ⟨⟨q0, q1, q2, q3, q4, q5, q6, q7, q8, q9, q10⟩, vdt, vst⟩ := T
      simp only at hdt hstt ok
      subst hdt hstt
      obtain ⟨r0, r1, hdl⟩ := ok_parts ok
      have r0' : 0 ≤ q0 := r0
      have r1' : q0 < (n : Int) := r1
      have hdl' : q2.length = n := hdl
      clear r0 r1 hdl ok
      obtain ⟨q, rfl⟩ := Int.eq_ofNat_of_zero_le r0'
      have hqn : q < n := by omega
      have LN := Lib.hid hdl'
      clear r0' r1' hdl'
      have i0 : (0 : Int) ≤ (i : Int) := by omega
      have i1 : (i : Int) < (m : Int) := by omega
      obtain ⟨c0, c1, c2, c3, c4, c5, c6, c7, c8, c9, c10⟩ := at_
      simp only at c0 c1 c2 c3 c4 c5 c6 c7 c8 c9 c10
      obtain ⟨P, hP⟩ : ∃ P, P = w2.heap.size := ⟨_, rfl⟩
      obtain ⟨W3, hW3⟩ : ∃ V, V = w2.alloc (.cells #[.int .i64 (q : Int), .int .i64 q1, .slice xt mt yt, .int .i64 q3, .int .i64 q4, .int .i64 q5, .int .i64 q6, .int .i64 q7, .int .i64 q8, .int .i64 q9, .slice ut kt zt] 33) := ⟨_, rfl⟩
      have X3 := Lib.hid (show LX w B W3 from by rw [hW3]; exact X2.out.alloc _)
      have K3 := Lib.hid (show Blk W3 P _ from by rw [hW3, hP]; exact Blk.new w2 _ _)
      have RD := Lib.hid (show Ints W3 (.slice xt mt yt) q2 from by rw [hW3]; exact rd.1.below (B := 0) ((Below.refl _ _).alloc (Nat.le_refl _) _))
      have hPw : w.heap.size ≤ P := by rw [hP]; exact X2.out.g.size
      have hP3 : P < W3.heap.size := by rw [hW3, hP]; simp
      clear rd
      go_upto_region 4 with (fail)
      rw [← hP, ← hW3]
      clear hW3 hP c0 c1 c2 c3 c4 c5 c6 c7 c8 c9 c10 X2 S2
      have c := K3.out.cell
      have O0 := Lib.hid (World.ownsRow_lit (size := 1) (e := 3) (base := W3.heap.size) W3 #[] 0 (Nat.le_refl _) (by unfold maxLen; omega) rfl)
      have K3a := Lib.hid (K3.out.alloc (.cells #[] 3))
      have X3a := Lib.hid (X3.out.alloc (.cells #[] 3))
      have SR := Lib.hid (show Src (W3.alloc (.cells #[] 3)) 1 (.slice xt mt yt) n (vi q2) from by rw [← LN.out]; exact src_ints (RD.out.below (B := 0) ((Below.refl _ _).alloc (Nat.le_refl _) _)))
      have HK := Lib.hid (show n = q2.length from LN.out.symm)
      go_wp2_with (at_builtin; refine wpList_app rfl (.tmp 26) (.tmp 28) 27 rfl W3.heap.size 3 j0 (.int .i64 0) 1 8 Tryz.underlying27 hi hz0 hz1 hz2 rfl (by decide) _ (.slice xt mt yt) 0 n [] (vi q2) rfl rfl O0.out SR.out (vi_one q2) (by unfold maxLen; omega) (by omega) (by simp) ?_)
      intro v4 w4 hown4 hgrow4 _
      try simp only [Nat.zero_add, List.nil_append] at hown4
      obtain ⟨H, hH, hO⟩ := own_of_row HK.out.symm hown4
      have G4 : (W3.alloc (.cells #[] 3)).grownBy w4 (some W3.heap.size) := hgrow4
      have X4 := Lib.hid (X3a.out.far G4 (by have := X3.out.g.size; omega))
      have K4 := Lib.hid (K3a.out.grown G4 (by omega))
      obtain ⟨cap4, rfl, ho4⟩ : ∃ cap, v4 = .slice (some ⟨H, 0, none⟩) n cap ∧ w4.ownsRow H 3 1 (.slice (some ⟨H, 0, none⟩) n cap) n (vi q2) := by
        rcases hO with ⟨_, _, _, hz⟩ | ⟨_, cap, hv, ho⟩
        · have := LN.out; rw [hz] at this; simp at this; omega
        · rw [← HK.out] at hv ho; exact ⟨cap, hv, ho⟩
      have hHw : w.heap.size ≤ H := by have := X3.out.g.size; omega
      have hPH : P ≠ H := by omega
      have hcell := (ho4.cellAt q (by have := LN.out; omega)).trans (vi_getD q2 q (by have := LN.out; omega))
      have hfz := ho4.frozenAt q
      obtain ⟨z, hz⟩ : ∃ z, z = q2.getD q 0 := ⟨_, rfl⟩
      rw [← hz] at hcell
      have hqk : (q : Int) < (n : Int) := by omega
      have hq0 : (0 : Int) ≤ (q : Int) := by omega
      have HO := Lib.hid (ho4.stored q (.int .i64 (wrap64 (z + 1)))).1
      rw [vi_set] at HO
      have X5 := Lib.hid (X4.out.far (grown_set (w := w4) H q (.int .i64 (wrap64 (z + 1)))) hHw)
      clear hgrow4 G4 hown4 hO hH ho4 c hz O0 SR K3a X3a X3 K3 RD
      have c := K4.out.cell
      go_upto_region 6 with (fail)
      obtain ⟨W5, hW5⟩ : ∃ V, V = w4.setCell ⟨H, q, none⟩ (.int .i64 (wrap64 (z + 1))) := ⟨_, rfl⟩
      rw [← hW5] at HO X5 ⊢
      have I5 := Lib.hid (show Ints W5 (.slice (some ⟨H, 0, none⟩) n cap4) (q2.set q (wrap64 (z + 1))) from ints_own' HO.out (by rw [List.length_set]; exact HK.out.symm))
      have L5 := Lib.hid (show (q2.set q (wrap64 (z + 1))).length = n from by rw [List.length_set]; exact LN.out)
      clear hW5 c hcell hfz K4 X4 HO
      have S5 := Lib.hid (hst.out.cur X5.out.g hBs)
      go_wp2_with fail
      refine (l3part_any (.slice (some ⟨g, off, none⟩) m c) _ (ts.map ActT.a) _ true W5 ⟨ts, rfl, S5.out.now⟩ I5.out SM.out (by rw [L5.out]; omega) (by rw [L5.out]; omega) (fun a ha => by have := ok_parts (OK.out a ha); rw [L5.out]; exact ⟨this.1, this.2.1⟩)).mono ?_
      rintro e w6 ⟨v6, rfl, ⟨us, hus, ho6⟩, b6⟩
      obtain ⟨x6, c6, rfl⟩ := row_shape ho6.1
      have X6 := Lib.hid (X5.out.below b6)
      have FN : Hid (DrawnP w B s (.returned (.slice x6 us.length c6)) w6) := by
        refine ⟨_, us, rfl, ⟨_, us, W5.heap.size, Nat.le_trans hs X5.out.g.size, ho6, fun V o => ownT_acts o⟩, ?_, ?_, X6.out.cu, X6.out.g⟩
        · rw [← hus]; exact smallL_part SM.out _ _
        · have := partM_len (ts.map ActT.a) (q2.set q (wrap64 (z + 1))) true
          rw [hus, List.length_map, List.length_map] at this
          have := HM.out
          omega
      generalize us.length = k6 at FN ⊢
      clear b6 ho6 X5 S5 I5 L5 hus
      go_wp2_with fail
      go_ret
      exact FN.out
    · have hm0 : ((m : Int) == 0) = true := by simp; omega
      clear hok CS
      go_wp2_with fail
      go_ret
      exact FIN.out _ X1.out
/-- two lists of acts and how many places, in new memory -/
def DrawnU (w : World) (e : Ending) (w' : World) : Prop := ∃ (v v' : Value) (l m : List ActM) (n : Int), e = .returned (.tuple #[v, v', .int .i64 n]) ∧ Acts w' v l ∧ Acts w' v' m ∧ l.length ≤ 61 ∧ m.length ≤ 61 ∧ 0 ≤ n ∧ n ≤ 5 ∧ Below w.heap.size w w'
set_option maxRecDepth 100000 in
set_option maxHeartbeats 3200000 in
theorem drawUnion_any (a : Option Addr) (len cap : Nat) (w : World) (hm : len ≤ 9223372036854775807) (hc : Code w w.heap.size a len) : Calls Tryz.prog 20 #[.slice a len cap] w (DrawnU w) := by
  have HC := Lib.hid hc
  clear hc
  go_enter Tryz.func20, Tryz.ntmps20
  go_wp2_with fail
  refine (new_any a len cap _ hm HC.out).mono ?_
  rintro e w1 ⟨B, rfl, hB, hcu, hb1⟩
  have C1 := Lib.hid hcu
  have B1 := Lib.hid hb1
  have hBl := hcu.lt
  clear hcu hb1 HC
  go_wp2_with fail
  refine (l3bent_any B _ C1.out).mono ?_
  rintro e w2 ⟨v, ts, n, rfl, hst, hs, hl, h0, h5, hc, hg⟩
  obtain ⟨k, rfl⟩ := Int.eq_ofNat_of_zero_le h0
  have hk5 : k ≤ 5 := by omega
  obtain ⟨x, c, rfl⟩ := actsT_len hst.now
  have B2 := Lib.hid (B1.out.grown hg B1.out.size (fun g e => by cases e; omega))
  have S2 := Lib.hid hst
  have SM := Lib.hid hs
  have Z2 := Lib.hid hg.size
  have C2 := Lib.hid hc
  obtain ⟨m, hmm⟩ : ∃ m, m = ts.length := ⟨_, rfl⟩
  rw [← hmm] at S2 ⊢
  have HM := Lib.hid hmm
  clear hst hs hc hg C1 B1 hmm h0 h5
  go_wp2_with fail
  refine (l3part2_any B w1.heap.size k _ ts w2 C2.out S2.out hBl Z2.out SM.out hl hk5).mono ?_
  rintro e w3 ⟨v3, us, rfl, hst3, hs3, hl3, hc, hg⟩
  obtain ⟨x3, c3, rfl⟩ := actsT_len hst3.now
  have B3 := Lib.hid (B2.out.grown hg B2.out.size (fun g e => by cases e; omega))
  have S3 := Lib.hid (S2.out.cur hg hBl)
  have U3 := Lib.hid hst3
  have C3 := Lib.hid hc
  have Z3 := Lib.hid (Nat.le_trans Z2.out hg.size)
  obtain ⟨m3, hm3⟩ : ∃ m, m = us.length := ⟨_, rfl⟩
  rw [← hm3] at U3 ⊢
  have HM3 := Lib.hid hm3
  clear hst3 hs3 hc hg B2 C2 S2 Z2 hm3
  go_wp2_with fail
  refine (once_any B 5 _ C3.out (by omega)).mono ?_
  rintro e w4 ⟨b, rfl, hc, hg⟩
  have B4 := Lib.hid (B3.out.grown hg B3.out.size (fun g e => by cases e; omega))
  have S4 := Lib.hid (S3.out.cur hg hBl)
  have U4 := Lib.hid (U3.out.cur hg hBl)
  have C4 := Lib.hid hc
  have Z4 := Lib.hid (Nat.le_trans Z3.out hg.size)
  clear hc hg B3 C3 S3 U3 Z3
  cases b
  · go_wp2_with fail
    refine (l3part2_any B w1.heap.size k _ ts w4 C4.out S4.out hBl Z4.out SM.out hl hk5).mono ?_
    rintro e w5 ⟨v5, vs, rfl, hst5, hs5, hl5, hc, hg⟩
    obtain ⟨x5, c5, rfl⟩ := actsT_len hst5.now
    have B5 := Lib.hid (B4.out.grown hg B4.out.size (fun g e => by cases e; omega))
    have U5 := Lib.hid (U4.out.cur hg hBl)
    have V5 := Lib.hid hst5.now
    have FN : Hid (DrawnU w (.returned (.tuple #[.slice x3 m3 c3, .slice x5 vs.length c5, .int .i64 k])) w5) :=
      ⟨_, _, us.map ActT.a, vs.map ActT.a, k, rfl, ⟨us, rfl, U5.out.now⟩, ⟨vs, rfl, V5.out⟩, by rw [List.length_map]; exact hl3, by rw [List.length_map]; exact hl5, by omega, by omega, B5.out⟩
    generalize vs.length = m5 at FN ⊢
    clear hst5 hs5 hc hg B4 C4 S4 U4 Z4 hl5 U5 V5 B5
    go_wp2_with fail
    refine bodyPost_ret (v := .tuple #[.slice x3 m3 c3, .slice x5 m5 c5, .int .i64 k]) (by simp [results, Tryz.results20, go_sem]) rfl FN.out
  · go_wp2_with fail
    refine (l3bent_any B _ C4.out).mono ?_
    rintro e w5 ⟨v5, vs, n5, rfl, hst5, hs5, hl5, _, _, hc, hg⟩
    obtain ⟨x5, c5, rfl⟩ := actsT_len hst5.now
    have B5 := Lib.hid (B4.out.grown hg B4.out.size (fun g e => by cases e; omega))
    have U5 := Lib.hid (U4.out.cur hg hBl)
    have V5 := Lib.hid hst5.now
    have FN : Hid (DrawnU w (.returned (.tuple #[.slice x3 m3 c3, .slice x5 vs.length c5, .int .i64 k])) w5) :=
      ⟨_, _, us.map ActT.a, vs.map ActT.a, k, rfl, ⟨us, rfl, U5.out.now⟩, ⟨vs, rfl, V5.out⟩, by rw [List.length_map]; exact hl3, by rw [List.length_map]; exact hl5, by omega, by omega, B5.out⟩
    generalize vs.length = m5 at FN ⊢
    clear hst5 hs5 hc hg B4 C4 S4 U4 Z4 hl5 U5 V5 B5
    go_wp2_with fail
    refine bodyPost_ret (v := .tuple #[.slice x3 m3 c3, .slice x5 m5 c5, .int .i64 k]) (by simp [results, Tryz.results20, go_sem]) rfl FN.out
end Go.Proofs.YtkcfcmigcphjlaaGreat
