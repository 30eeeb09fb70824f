/- A clock that cuts (l3cut), DrawPart. -/
import Derived.Test.YtkcfcmigcphjlaaGreatRN
import Derived.Test.YtkcfcmigcphjlaaGreatT2
import Derived.Test.YtkcfcmigcphjlaaGreatDB



namespace Go.Proofs.YtkcfcmigcphjlaaGreat
open Go.RowKit
set_option linter.unusedVariables false

/-- ints, by a call that writes into the cursor alone -/
def DrawnC (w : World) (B : Nat) (e : Ending) (w' : World) : Prop := ∃ (v : Value) (xs : List Int), e = .returned v ∧ Ints w' v xs ∧ Cur w' B ∧ w.grownBy w' (some B)
set_option maxRecDepth 100000 in
set_option maxHeartbeats 6400000 in
theorem l3cut_any (B s n : Nat) (v : Value) (ts : List ActT) (w : World) (h : Cur w B) (h1 : StillT w s v ts) (hBs : B < s) (hs : s ≤ w.heap.size) (hl : ts.length ≤ 61) (hn : n ≤ 5) : Calls Tryz.prog 65 #[.pointer (some ⟨B, 0, none⟩), v, .int .i64 n] w (DrawnC w B) := by
  obtain ⟨j0, hi, hz0, hz1, hz2⟩ := info_parts Tryz.info3
  obtain ⟨x, c, rfl⟩ := actsT_len h1.now
  have CS := Lib.hid (fun W (h : ActsT W (.slice x ts.length c) ts) => setOk_any (.slice x ts.length c) (ts.map ActT.a) n W ⟨ts, rfl, h⟩ (by constructor <;> omega))
  obtain ⟨m, hmm⟩ : ∃ m, m = ts.length := ⟨_, rfl⟩
  rw [← hmm] at h1 CS ⊢
  have HM := Lib.hid hmm
  have hm61 : m ≤ 61 := by omega
  have hst := Lib.hid h1
  have X0 := Lib.hid (show LX w B w from ⟨by omega, h, grown_refl _ _⟩)
  clear h h1 hmm hl
  go_enter Tryz.func65, Tryz.ntmps65
  go_wp2_with fail
  refine (once_any B 3 _ X0.out.cu (by omega)).mono ?_
  rintro e w1 ⟨b, rfl, hc, hg⟩
  have X1 := Lib.hid (X0.out.call hc hg)
  clear hc hg X0
  cases b
  · go_wp2_with fail
    refine (CS.out _ (hst.out.cur X1.out.g hBs).now).mono ?_
    rintro e w1b ⟨rfl, b1⟩
    have X1b := Lib.hid (X1.out.below b1)
    clear b1 X1
    cases hok : setOkM (ts.map ActT.a) n
    · clear hok CS
      go_wp2_with fail
      refine (pick_lit B w1b.heap.size _ [(n : Int), n, n, 1, 2] 5 _ rfl rfl rfl X1b.out.cu (by omega) (by omega)).mono ?_
      rintro e w2 ⟨y, rfl, hy, hc, hg⟩
      have X2 := Lib.hid (X1b.out.call hc hg)
      have hyn : 0 ≤ y ∧ y ≤ 5 := by
        simp only [List.mem_cons, List.not_mem_nil, or_false] at hy
        omega
      clear hc hg X1b hy
      obtain ⟨k, rfl⟩ := Int.eq_ofNat_of_zero_le hyn.1
      go_wp2_with fail
      refine (clock_any B k _ X2.out.cu (by omega)).mono ?_
      rintro e w3 ⟨g3, v3, xs, rfl, ho, _, _, _, hc, hg⟩
      obtain ⟨x3, c3, hx3⟩ := ints_len (own_ints ho)
      subst hx3
      have X3 := Lib.hid (X2.out.call hc hg)
      have FN : Hid (DrawnC w B (.returned (.slice x3 xs.length c3)) w3) := ⟨_, xs, rfl, own_ints ho, X3.out.cu, X3.out.g⟩
      generalize xs.length = m3 at FN ⊢
      clear ho hc hg X2 X3
      go_wp2_with fail
      go_ret
      exact FN.out
    · by_cases h0 : 0 < m
      · have hm0 : ((m : Int) == 0) = false := by simp; omega
        have OK := Lib.hid (setOk_all hok).2.2.2
        have hn4 := (setOk_all hok).2.1
        have hn1 := (setOk_all hok).1
        clear hok
        obtain ⟨g, off, rfl⟩ : ∃ g off, x = some ⟨g, off, none⟩ := by
          obtain ⟨_, b, o, e, _⟩ := actsT_at hst.out.now h0
          exact ⟨b, o, e⟩
        go_wp2_with fail
        refine (below_any B m _ X1b.out.cu (by omega)).mono ?_
        rintro e w2 ⟨y, rfl, y0, _, y2, hc, hg⟩
        have hy := y2 (by omega)
        obtain ⟨i, rfl⟩ := Int.eq_ofNat_of_zero_le y0
        have X2 := Lib.hid (X1b.out.call hc hg)
        have hit : i < m := by omega
        have S2 := Lib.hid (hst.out.cur X2.out.g hBs)
        have at_ := S2.out.at i hit
        have rd := S2.out.now.1 _ (getD_mem (ts := ts) (i := i) (by have := HM.out; omega))
        have ok := OK.out _ (List.mem_map.2 ⟨_, getD_mem (ts := ts) (i := i) (by have := HM.out; omega), rfl⟩)
        clear hc hg y2 y0 X1b CS
        generalize ts.getD i t0 = T at at_ rd ok
        obtain ⟨xt, mt, yt, ut, kt, zt, hdt, hstt⟩ := slice_of rd
        obtain ⟨⟨q0, q1, q2, q3, q4, q5, q6, q7, q8, q9, q10⟩, vdt, vst⟩ := T
        simp only at hdt hstt ok
        subst hdt hstt
        obtain ⟨r0, r1, hdl⟩ := ok_parts ok
        have r0' : 0 ≤ q0 := r0
        have r1' : q0 < (n : Int) := r1
        have hdl' : q2.length = n := hdl
        clear r0 r1 hdl ok
        obtain ⟨q, rfl⟩ := Int.eq_ofNat_of_zero_le r0'
        have hqn : q < n := by omega
        have LN := Lib.hid hdl'
        clear r0' r1' hdl'
        have i0 : (0 : Int) ≤ (i : Int) := by omega
        have i1 : (i : Int) < (m : Int) := by omega
        obtain ⟨c0, c1, c2, c3, c4, c5, c6, c7, c8, c9, c10⟩ := at_
        simp only at c0 c1 c2 c3 c4 c5 c6 c7 c8 c9 c10
        obtain ⟨P, hP⟩ : ∃ P, P = w2.heap.size := ⟨_, rfl⟩
        obtain ⟨W3, hW3⟩ : ∃ V, V = w2.alloc (.cells #[.int .i64 (q : Int), .int .i64 q1, .slice xt mt yt, .int .i64 q3, .int .i64 q4, .int .i64 q5, .int .i64 q6, .int .i64 q7, .int .i64 q8, .int .i64 q9, .slice ut kt zt] 33) := ⟨_, rfl⟩
        have X3 := Lib.hid (show LX w B W3 from by rw [hW3]; exact X2.out.alloc _)
        have K3 := Lib.hid (show Blk W3 P _ from by rw [hW3, hP]; exact Blk.new w2 _ _)
        have RD := Lib.hid (show Ints W3 (.slice xt mt yt) q2 from by rw [hW3]; exact rd.1.below (B := 0) ((Below.refl _ _).alloc (Nat.le_refl _) _))
        have hPw : w.heap.size ≤ P := by rw [hP]; exact X2.out.g.size
        have hP3 : P < W3.heap.size := by rw [hW3, hP]; simp
        clear rd
        go_upto_region 4 with (fail)
        rw [← hP, ← hW3]
        clear hW3 hP c0 c1 c2 c3 c4 c5 c6 c7 c8 c9 c10 X2 S2
        have c := K3.out.cell
        have O0 := Lib.hid (World.ownsRow_lit (size := 1) (e := 3) (base := W3.heap.size) W3 #[] 0 (Nat.le_refl _) (by unfold maxLen; omega) rfl)
        have K3a := Lib.hid (K3.out.alloc (.cells #[] 3))
        have X3a := Lib.hid (X3.out.alloc (.cells #[] 3))
        have SR := Lib.hid (show Src (W3.alloc (.cells #[] 3)) 1 (.slice xt mt yt) n (vi q2) from by rw [← LN.out]; exact src_ints (RD.out.below (B := 0) ((Below.refl _ _).alloc (Nat.le_refl _) _)))
        have HK := Lib.hid (show n = q2.length from LN.out.symm)
        go_wp2_with (at_builtin; refine wpList_app rfl (.tmp 37) (.tmp 39) 27 rfl W3.heap.size 3 j0 (.int .i64 0) 1 8 Tryz.underlying27 hi hz0 hz1 hz2 rfl (by decide) _ (.slice xt mt yt) 0 n [] (vi q2) rfl rfl O0.out SR.out (vi_one q2) (by unfold maxLen; omega) (by omega) (by simp) ?_)
        intro v4 w4 hown4 hgrow4 _
        try simp only [Nat.zero_add, List.nil_append] at hown4
        obtain ⟨H, hH, hO⟩ := own_of_row HK.out.symm hown4
        have G4 : (W3.alloc (.cells #[] 3)).grownBy w4 (some W3.heap.size) := hgrow4
        have X4 := Lib.hid (X3a.out.far G4 (by have := X3.out.g.size; omega))
        have K4 := Lib.hid (K3a.out.grown G4 (by omega))
        obtain ⟨cap4, rfl, ho4⟩ : ∃ cap, v4 = .slice (some ⟨H, 0, none⟩) n cap ∧ w4.ownsRow H 3 1 (.slice (some ⟨H, 0, none⟩) n cap) n (vi q2) := by
          rcases hO with ⟨_, _, _, hz⟩ | ⟨_, cap, hv, ho⟩
          · have := LN.out; rw [hz] at this; simp at this; omega
          · rw [← HK.out] at hv ho; exact ⟨cap, hv, ho⟩
        have hHw : w.heap.size ≤ H := by have := X3.out.g.size; omega
        have hPH : P ≠ H := by omega
        have hcell := (ho4.cellAt q (by have := LN.out; omega)).trans (vi_getD q2 q (by have := LN.out; omega))
        have hfz := ho4.frozenAt q
        obtain ⟨z, hz⟩ : ∃ z, z = q2.getD q 0 := ⟨_, rfl⟩
        rw [← hz] at hcell
        have hqk : (q : Int) < (n : Int) := by omega
        have hq0 : (0 : Int) ≤ (q : Int) := by omega
        have HO := Lib.hid (ho4.stored q (.int .i64 (wrap64 (z + 1)))).1
        rw [vi_set] at HO
        have X5 := Lib.hid (X4.out.far (grown_set (w := w4) H q (.int .i64 (wrap64 (z + 1)))) hHw)
        clear hgrow4 G4 hown4 hO hH ho4 c hz O0 SR K3a X3a X3 K3 RD
        have c := K4.out.cell
        go_upto_region 6 with (fail)
        obtain ⟨W5, hW5⟩ : ∃ V, V = w4.setCell ⟨H, q, none⟩ (.int .i64 (wrap64 (z + 1))) := ⟨_, rfl⟩
        rw [← hW5] at HO X5 ⊢
        have I5 := Lib.hid (show Ints W5 (.slice (some ⟨H, 0, none⟩) n cap4) (q2.set q (wrap64 (z + 1))) from ints_own' HO.out (by rw [List.length_set]; exact HK.out.symm))
        have L5 := Lib.hid (show (q2.set q (wrap64 (z + 1))).length = n from by rw [List.length_set]; exact LN.out)
        clear hW5 c hcell hfz K4 X4 HO
        go_wp2_with fail
        go_ret
        exact ⟨_, _, rfl, I5.out, X5.out.cu, X5.out.g⟩
      · have hm0 : ((m : Int) == 0) = true := by simp; omega
        clear hok CS
        go_wp2_with fail
        refine (pick_lit B w1b.heap.size _ [(n : Int), n, n, 1, 2] 5 _ rfl rfl rfl X1b.out.cu (by omega) (by omega)).mono ?_
        rintro e w2 ⟨y, rfl, hy, hc, hg⟩
        have X2 := Lib.hid (X1b.out.call hc hg)
        have hyn : 0 ≤ y ∧ y ≤ 5 := by
          simp only [List.mem_cons, List.not_mem_nil, or_false] at hy
          omega
        clear hc hg X1b hy
        obtain ⟨k, rfl⟩ := Int.eq_ofNat_of_zero_le hyn.1
        go_wp2_with fail
        refine (clock_any B k _ X2.out.cu (by omega)).mono ?_
        rintro e w3 ⟨g3, v3, xs, rfl, ho, _, _, _, hc, hg⟩
        obtain ⟨x3, c3, hx3⟩ := ints_len (own_ints ho)
        subst hx3
        have X3 := Lib.hid (X2.out.call hc hg)
        have FN : Hid (DrawnC w B (.returned (.slice x3 xs.length c3)) w3) := ⟨_, xs, rfl, own_ints ho, X3.out.cu, X3.out.g⟩
        generalize xs.length = m3 at FN ⊢
        clear ho hc hg X2 X3
        go_wp2_with fail
        go_ret
        exact FN.out
  · have X1b := X1
    clear CS
    go_wp2_with fail
    refine (pick_lit B w1.heap.size _ [(n : Int), n, n, 1, 2] 5 _ rfl rfl rfl X1b.out.cu (by omega) (by omega)).mono ?_
    rintro e w2 ⟨y, rfl, hy, hc, hg⟩
    have X2 := Lib.hid (X1b.out.call hc hg)
    have hyn : 0 ≤ y ∧ y ≤ 5 := by
      simp only [List.mem_cons, List.not_mem_nil, or_false] at hy
      omega
    clear hc hg X1b hy
    obtain ⟨k, rfl⟩ := Int.eq_ofNat_of_zero_le hyn.1
    go_wp2_with fail
    refine (clock_any B k _ X2.out.cu (by omega)).mono ?_
    rintro e w3 ⟨g3, v3, xs, rfl, ho, _, _, _, hc, hg⟩
    obtain ⟨x3, c3, hx3⟩ := ints_len (own_ints ho)
    subst hx3
    have X3 := Lib.hid (X2.out.call hc hg)
    have FN : Hid (DrawnC w B (.returned (.slice x3 xs.length c3)) w3) := ⟨_, xs, rfl, own_ints ho, X3.out.cu, X3.out.g⟩
    generalize xs.length = m3 at FN ⊢
    clear ho hc hg X2 X3
    go_wp2_with fail
    go_ret
    exact FN.out
/-- acts, how many places, and ints, in new memory -/
def DrawnQ (w : World) (e : Ending) (w' : World) : Prop := ∃ (v vv : Value) (l : List ActM) (n : Int) (xs : List Int), e = .returned (.tuple #[v, .int .i64 n, vv]) ∧ Acts w' v l ∧ l.length ≤ 61 ∧ 0 ≤ n ∧ n ≤ 5 ∧ Ints w' vv xs ∧ Below w.heap.size w w'
set_option maxRecDepth 100000 in
set_option maxHeartbeats 3200000 in
theorem drawPart_any (a : Option Addr) (len cap : Nat) (w : World) (hm : len ≤ 9223372036854775807) (hc : Code w w.heap.size a len) : Calls Tryz.prog 26 #[.slice a len cap] w (DrawnQ w) := by
  have HC := Lib.hid hc
  clear hc
  go_enter Tryz.func26, Tryz.ntmps26
  go_wp2_with fail
  refine (new_any a len cap _ hm HC.out).mono ?_
  rintro e w1 ⟨B, rfl, hB, hcu, hb1⟩
  have C1 := Lib.hid hcu
  have B1 := Lib.hid hb1
  have hBl := hcu.lt
  clear hcu hb1 HC
  go_wp2_with fail
  refine (l3bent_any B _ C1.out).mono ?_
  rintro e w2 ⟨v, ts, n, rfl, hst, hs, hl, h0, h5, hc, hg⟩
  obtain ⟨k, rfl⟩ := Int.eq_ofNat_of_zero_le h0
  have hk5 : k ≤ 5 := by omega
  obtain ⟨x, c, rfl⟩ := actsT_len hst.now
  have B2 := Lib.hid (B1.out.grown hg B1.out.size (fun g e => by cases e; omega))
  have S2 := Lib.hid hst
  have Z2 := Lib.hid hg.size
  have C2 := Lib.hid hc
  obtain ⟨m, hmm⟩ : ∃ m, m = ts.length := ⟨_, rfl⟩
  rw [← hmm] at S2 ⊢
  have HM := Lib.hid hmm
  clear hst hs hc hg C1 B1 hmm h0 h5
  go_wp2_with fail
  refine (l3cut_any B w1.heap.size k _ ts w2 C2.out S2.out hBl Z2.out hl hk5).mono ?_
  rintro e w3 ⟨v3, xs, rfl, hi, hc, hg⟩
  obtain ⟨x3, c3, rfl⟩ := ints_len hi
  have B3 := Lib.hid (B2.out.grown hg B2.out.size (fun g e => by cases e; omega))
  have S3 := Lib.hid (S2.out.cur hg hBl)
  have FN : Hid (DrawnQ w (.returned (.tuple #[.slice x m c, .int .i64 k, .slice x3 xs.length c3])) w3) :=
    ⟨_, _, ts.map ActT.a, k, xs, rfl, ⟨ts, rfl, S3.out.now⟩, by rw [List.length_map]; exact hl, by omega, by omega, hi, B3.out⟩
  generalize xs.length = m3 at FN ⊢
  clear hi hc hg B2 C2 S2 Z2 B3 S3
  go_wp2_with fail
  refine bodyPost_ret (v := .tuple #[.slice x m c, .int .i64 k, .slice x3 m3 c3]) (by simp [results, Tryz.results26, go_sem]) rfl FN.out
end Go.Proofs.YtkcfcmigcphjlaaGreat
