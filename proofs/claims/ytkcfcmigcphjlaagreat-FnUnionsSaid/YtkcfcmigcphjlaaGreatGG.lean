/- KD, KF, KG, KJ, KK, KL. -/
import Derived.Test.YtkcfcmigcphjlaaGreatHE
import Derived.Test.YtkcfcmigcphjlaaGreatGF
import Derived.Test.YtkcfcmigcphjlaaGreatGC
import Derived.Test.YtkcfcmigcphjlaaGreatGE
import Derived.BigQuiet
import Derived.Deep.QuietTactic
import Derived.Deep.DeepCutAuto


namespace Go.Proofs.YtkcfcmigcphjlaaGreat
set_option linter.unusedVariables false

theorem ok_ups5 {a : ActM} {n : Int} (h : actOkM a n = true) : a.ups.length ≤ 5 := by
  simp only [actOkM, Bool.and_eq_true, fieldsM, okUps, decide_eq_true_eq] at h
  have h := h.2
  split at h
  · simp only [Bool.and_eq_true, decide_eq_true_eq] at h; omega
  · split at h
    · simp only [Bool.and_eq_true, decide_eq_true_eq] at h; omega
    · split at h
      · simp only [Bool.and_eq_true, decide_eq_true_eq] at h; omega
      · split at h
        · simp only [Bool.and_eq_true, decide_eq_true_eq] at h; omega
        · cases h
theorem szL_ok : ∀ (l : List ActM) (n : Int), n ≤ 4 → (∀ a ∈ l, actOkM a n = true) → szL l ≤ 33 * l.length
  | [], _, _, _ => by simp [szL]
  | a :: l, n, hn, h => by
    have h1 := szL_ok l n hn fun b hb => h b (List.mem_cons_of_mem _ hb)
    have h2 := ok_ups5 (h a (by simp))
    have h3 : (a.dep.length : Int) = n := by
      have := h a (by simp)
      simp only [actOkM, Bool.and_eq_true, decide_eq_true_eq] at this
      omega
    simp only [szL, szA, List.length_cons]
    omega
def partM (l : List ActM) (xs : List Int) (b : Bool) : List ActM := l.filter fun a => decide (a.n ≤ xs.getD a.r.toNat 0) == b
theorem partM_len (l : List ActM) (xs : List Int) (b : Bool) : (partM l xs b).length ≤ l.length := List.length_filter_le _ _
theorem partM_snoc (l : List ActM) (a : ActM) (xs : List Int) (b : Bool) : partM (l ++ [a]) xs b = partM l xs b ++ (if (decide (a.n ≤ xs.getD a.r.toNat 0) == b) = true then [a] else []) := by
  unfold partM
  rw [List.filter_append]
  simp only [List.filter_cons, List.filter_nil]
theorem partM_mem {l : List ActM} {xs : List Int} {b : Bool} {a : ActM} (h : a ∈ partM l xs b) : a ∈ l := (List.mem_filter.1 h).1
def cutB (l : List ActM) (n : Int) (xs : List Int) : Bool := setOkM l n && okB xs && decide ((xs.length : Int) = n)
theorem cutB_iff (l : List ActM) (n : Int) (xs : List Int) : cutB l n xs = true ↔ setOkM l n = true ∧ okB xs = true ∧ (xs.length : Int) = n := by simp [cutB, and_assoc]
def partOfM (l : List ActM) (n : Int) (xs : List Int) : List ActM := if cutB l n xs = true then (if setOkM (partM l xs true) n = true then partM l xs true else []) else []
def lacksM (l : List ActM) (n : Int) (xs : List Int) : List ActM := if cutB l n xs = true then partM l xs false else []
theorem szL_setOk {l : List ActM} {n : Int} (h : setOkM l n = true) : szL l ≤ 1980 := by
  obtain ⟨h1, h2, h3, h4⟩ := setOk_all h
  have := szL_ok l n h2 h4
  omega
theorem szL_part {l : List ActM} {n : Int} (h : setOkM l n = true) (xs : List Int) (b : Bool) : szL (partM l xs b) ≤ 1980 := by
  obtain ⟨h1, h2, h3, h4⟩ := setOk_all h
  have := szL_ok (partM l xs b) n h2 fun a ha => h4 a (partM_mem ha)
  have := partM_len l xs b
  omega
theorem szL_partOf (l : List ActM) (n : Int) (xs : List Int) : szL (partOfM l n xs) ≤ 1980 := by
  unfold partOfM
  split
  · split
    · rename_i h _
      exact szL_part ((cutB_iff l n xs).1 h).1 xs true
    · simp [szL]
  · simp [szL]
theorem szL_lacks (l : List ActM) (n : Int) (xs : List Int) : szL (lacksM l n xs) ≤ 1980 := by
  unfold lacksM
  split
  · rename_i h
    exact szL_part ((cutB_iff l n xs).1 h).1 xs false
  · simp [szL]
theorem smallL_ok {l : List ActM} {n : Int} (h : setOkM l n = true) : SmallL l := by
  obtain ⟨h1, h2, h3, h4⟩ := setOk_all h
  refine ⟨by omega, fun a ha => ⟨?_, ?_⟩⟩
  · have := h4 a ha
    simp only [actOkM, Bool.and_eq_true, decide_eq_true_eq] at this
    omega
  · have := ok_ups5 (h4 a ha); omega
theorem smallL_part {l : List ActM} (h : SmallL l) (xs : List Int) (b : Bool) : SmallL (partM l xs b) :=
  ⟨Nat.le_trans (partM_len l xs b) h.1, fun a ha => h.2 a (partM_mem ha)⟩
end Go.Proofs.YtkcfcmigcphjlaaGreat





namespace Go.Proofs.YtkcfcmigcphjlaaGreat
open Go.RowKit
set_option linter.unusedVariables false

set_option maxRecDepth 100000 in
set_option maxHeartbeats 3200000 in
theorem l3part_some (b off cap len vb vo vc m : Nat) (ts : List ActT) (xs : List Int) (bb : Bool) (w : World) (h1 : ts.length = len) (hl : len ≤ 1048576) (hb : b < w.heap.size) (hs : ∀ t ∈ ts, t.a.Small)
    (hr : ∀ t ∈ ts, t.Reads w ∧ 0 ≤ t.a.r ∧ t.a.r < m) (hc : ∀ i, i < len → ActAt w b (off + i * 11) (ts.getD i t0)) (hm4 : m ≤ 4) (hvb : vb < w.heap.size) (hvc : ∀ i, i < m → w.cell? ⟨vb, vo + i, none⟩ = some (.int .i64 (xs.getD i 0))) :
    Calls Tryz.prog 70 #[.slice (some ⟨b, off, none⟩) len cap, .slice (some ⟨vb, vo, none⟩) m vc, .bool bb] w (OwnedL w (partM (ts.map ActT.a) xs bb)) := by
  obtain ⟨i2, hi, hz0, hz1, hz2⟩ := info_parts Tryz.infoAct
  have N1 := Lib.hid h1
  have HC := Lib.hid hc
  have HS := Lib.hid hs
  have HRd := Lib.hid hr
  have HV := Lib.hid hvc
  clear h1 hc hs hr hvc
  go_enter Tryz.func70, Tryz.ntmps70
  go_wp2
  go_loopw [7, 8] (fun sv i wr => ∃ (k : Nat) (us : List ActT) (v : Value), v = sv ∧ k ≤ len ∧ i = .int .i64 k ∧ Hid (us.length ≤ k) ∧ Hid (us.map ActT.a = partM ((ts.take k).map ActT.a) xs bb) ∧ Hid (OwnT wr w.heap.size v us) ∧ Hid (Below w.heap.size w wr)) (fun _ i _ => len - (intOf i).toNat)
  case atStart => exact ⟨0, [], _, rfl, Nat.zero_le _, rfl, Nat.le_refl _, rfl, ⟨⟨rfl, .inl ⟨rfl, rfl⟩⟩, (by intro t ht; cases ht)⟩, Below.refl _ _⟩
  case round =>
    obtain ⟨k, us, v, hv, hk, rfl, hul, hua, ho, hbel⟩ := hrel
    subst hv
    by_cases hlt : k < len
    · have hm := getD_mem (ts := ts) (i := k) (by rw [N1.out]; exact hlt)
      have at_ := (HC.out k hlt).below hbel.out hb
      obtain ⟨hr0, hr1, hr2⟩ := HRd.out _ hm
      have HT := Lib.hid (hr0.below hbel.out)
      have HSm := Lib.hid (HS.out _ hm)
      have htk := Lib.hid (show (ts.take (k + 1)).map ActT.a = (ts.take k).map ActT.a ++ [(ts.getD k t0).a] by rw [show ts.take (k + 1) = ts.take k ++ [ts.getD k t0] by rw [List.take_succ_eq_append_getElem (by rw [N1.out]; exact hlt)]; simp [List.getD, N1.out, hlt], List.map_append]; rfl)
      obtain ⟨t, ht⟩ : ∃ t, t = ts.getD k t0 := ⟨_, rfl⟩
      rw [← ht] at at_ HT HSm htk hr1 hr2
      clear ht hm hr0
      have CL := Lib.hid (fun W (h : t.Reads W) => l2own_any t W h HSm.out)
      obtain ⟨⟨r, nn, dep, actor, kind, dst, bucket, mask, gr, gn, ups⟩, vd, vs⟩ := t
      simp only [ActT.val] at CL
      simp only at hr1 hr2
      obtain ⟨q, rfl⟩ : ∃ q : Nat, r = (q : Int) := ⟨r.toNat, by omega⟩
      have hq : q < m := by omega
      have hv0 := (hbel.out.cell (p := ⟨vb, vo + q, none⟩) hvb).trans (HV.out q hq)
      obtain ⟨y, hy⟩ : ∃ y, y = xs.getD q 0 := ⟨_, rfl⟩
      rw [← hy] at hv0
      have HST := Lib.hid (show partM ((ts.take (k + 1)).map ActT.a) xs bb = partM ((ts.take k).map ActT.a) xs bb ++ (if (decide (nn ≤ y) == bb) = true then [(⟨(q : Int), nn, dep, actor, kind, dst, bucket, mask, gr, gn, ups⟩ : ActM)] else []) by rw [htk.out, partM_snoc, hy]; rfl)
      clear hy
      have c0 := at_.c0
      have c1 := at_.c1
      have c2 := at_.c2
      have c3 := at_.c3
      have c4 := at_.c4
      have c5 := at_.c5
      have c6 := at_.c6
      have c7 := at_.c7
      have c8 := at_.c8
      have c9 := at_.c9
      have c10 := at_.c10
      simp only at c0 c1 c2 c3 c4 c5 c6 c7 c8 c9 c10
      clear at_
      have j0 : (0 : Int) ≤ k := by omega
      have j1 : (k : Int) < len := by omega
      have j2 : (0 : Int) ≤ q := by omega
      have j3 : (q : Int) < m := by omega
      obtain ⟨X, hX⟩ : ∃ X, decide (nn ≤ y) = X := ⟨_, rfl⟩
      rw [hX] at HST
      by_cases hXb : X = bb
      · subst hXb
        cases X
        all_goals
          go_wp2
          go_quiet (fail)
          have bq := below_drewN (Below.refl wr.heap.size wr) nq
          have HT1 := Lib.hid (HT.out.below bq)
          have B1 := Lib.hid (hbel.out.trans (bq.mono hbel.out.size))
          have O1 := Lib.hid (ho.out.below bq)
          clear bq
          go_wp2_with fail
          refine (CL.out _ HT1.out).mono ?_
          rintro e w1 ⟨t', hta, rfl, hown, b1⟩
          simp only [ActT.val]
          have O2 := Lib.hid (O1.out.below b1)
          have B2 := Lib.hid (B1.out.trans (b1.mono B1.out.size))
          have T2 := Lib.hid (hown.less B1.out.size)
          have TA := Lib.hid hta
          clear b1 hown hta c0 c1 c2 c3 c4 c5 c6 c7 c8 c9 c10 hv0
          have O3 := Lib.hid (O2.out.alloc (.cells #[.int .i64 t'.a.r, .int .i64 t'.a.n, t'.vd, .int .i64 t'.a.actor, .int .i64 t'.a.kind, .int .i64 t'.a.to, .int .i64 t'.a.bucket, .int .i64 t'.a.mask, .int .i64 t'.a.gr, .int .i64 t'.a.gn, t'.vs] 33))
          have T3 := Lib.hid (T2.out.alloc (.cells #[.int .i64 t'.a.r, .int .i64 t'.a.n, t'.vd, .int .i64 t'.a.actor, .int .i64 t'.a.kind, .int .i64 t'.a.to, .int .i64 t'.a.bucket, .int .i64 t'.a.mask, .int .i64 t'.a.gr, .int .i64 t'.a.gn, t'.vs] 33))
          have B3 := Lib.hid (B2.out.alloc B2.out.size (.cells #[.int .i64 t'.a.r, .int .i64 t'.a.n, t'.vd, .int .i64 t'.a.actor, .int .i64 t'.a.kind, .int .i64 t'.a.to, .int .i64 t'.a.bucket, .int .i64 t'.a.mask, .int .i64 t'.a.gr, .int .i64 t'.a.gn, t'.vs] 33))
          have SR := Lib.hid (src_new (w := w1) t' 33)
          have CO := Lib.hid (cells_one T2.out.reads)
          have HM1 : Hid (us.length + 1 ≤ maxLen) := by have := hul.out; show _ ≤ _; unfold maxLen; omega
          have HM2 : Hid ((us.length + 1) * 120 ≤ 140737488355328) := by have := hul.out; show _ ≤ _; omega
          go_wp2_with (at_builtin; refine wpList_app rfl (.tmp 31) (.tmp 37) 23 rfl w.heap.size 33 i2 _ 11 120 Tryz.underlying23 hi hz0 hz1 hz2 rfl (by decide) v (.slice (some ⟨w1.heap.size, 0, none⟩) 1 1) us.length 1 (va us) t'.cells rfl rfl O3.out.1 SR.out CO.out HM1.out HM2.out B3.out.size ?_)
          intro v2 w2 hown2 hgrow2 _
          have O4 := Lib.hid (O3.out.snoc T3.out hown2 hgrow2)
          have B4 := Lib.hid (owned_block B3.out O3.out.1 hgrow2 B3.out.size (Nat.le_refl _))
          clear hown2 hgrow2
          go_wp2
          go_roundw
          case rel => exact ⟨k + 1, us ++ [t'], _, rfl, by omega, by go_num, (by have := hul.out; show _ ≤ _; simp; omega), (by show _ = _; rw [HST.out]; simp [hua.out, TA.out]), O4.out, B4.out⟩
          case measure => simp [intOf]; omega
      · cases X <;> cases bb <;> first | exact absurd rfl hXb | skip
        all_goals
          go_wp2
          go_quiet (fail)
          have bq := below_drewN (Below.refl wr.heap.size wr) nq
          have B1 := Lib.hid (hbel.out.trans (bq.mono hbel.out.size))
          have O1 := Lib.hid (ho.out.below bq)
          clear bq c0 c1 c2 c3 c4 c5 c6 c7 c8 c9 c10 hv0
          go_wp2
          go_roundw
          case rel => exact ⟨k + 1, us, _, rfl, by omega, by go_num, (by have := hul.out; show _ ≤ _; omega), (by show _ = _; rw [HST.out]; simp [hua.out]), O1.out, B1.out⟩
          case measure => simp [intOf]; omega
    · have HL : Hid (us.map ActT.a = partM (ts.map ActT.a) xs bb) := by
        show _ = _
        rw [hua.out, List.take_of_length_le (by rw [N1.out]; omega)]
      go_wp2
      go_ret
      exact ⟨v, rfl, ⟨us, HL.out.symm, ho.out⟩, hbel.out⟩
end Go.Proofs.YtkcfcmigcphjlaaGreat



namespace Go.Proofs.YtkcfcmigcphjlaaGreat
open Go.RowKit
set_option linter.unusedVariables false

def CutRead (w : World) (v : Value) (l : List ActM) (n : Int) (xs : List Int) (e : Ending) (w' : World) : Prop := Below w.heap.size w w' ∧
  ((cutB l n xs = true ∧ ∃ mb, e = .returned (.tuple #[setVal v mb n l, .agg #[.int .i64 (cn xs), .int .i64 (cx xs 0), .int .i64 (cx xs 1), .int .i64 (cx xs 2), .int .i64 (cx xs 3)], .bool true])) ∨
   (cutB l n xs = false ∧ e = .returned (.tuple #[noSet, .agg #[.int .i64 0, .int .i64 0, .int .i64 0, .int .i64 0, .int .i64 0], .bool false])))

set_option maxRecDepth 100000 in
set_option maxHeartbeats 6400000 in
theorem readCut_any (v vv : Value) (ts : List ActT) (xs : List Int) (n : Int) (w : World) (h : ActsT w v ts) (hv : Ints w vv xs) (hn : I64 n) :
    Calls Tryz.prog 66 #[v, .int .i64 n, vv] w (CutRead w v (ts.map ActT.a) n xs) := by
  obtain ⟨a, cap, rfl⟩ := actsT_len h
  obtain ⟨va, vc, rfl⟩ := ints_len hv
  have RS := Lib.hid (fun W (h : ActsT W (.slice a ts.length cap) ts) => readSet_any _ ts n W h hn)
  have RC := Lib.hid (fun W (h : Ints W (.slice va xs.length vc) xs) => readClock_any _ xs W h)
  have hc : cutB (ts.map ActT.a) n xs = (setOkM (ts.map ActT.a) n && okB xs && decide ((xs.length : Int) = n)) := rfl
  have hy : okB xs = true → cn xs = xs.length := fun h => by rw [cn, if_pos h]
  unfold CutRead
  unfold SetRead at RS
  simp only [setVal, noSet] at RS ⊢
  have HA := Lib.hid h
  have HV := Lib.hid hv
  clear h hv
  generalize ts.length = K at *
  generalize (cntM (ts.map ActT.a) 0 : Int) = c0 at *
  generalize (cntM (ts.map ActT.a) 1 : Int) = c1 at *
  generalize (cntM (ts.map ActT.a) 2 : Int) = c2 at *
  generalize (cntM (ts.map ActT.a) 3 : Int) = c3 at *
  generalize cn xs = y at *
  generalize cx xs 0 = y0 at *
  generalize cx xs 1 = y1 at *
  generalize cx xs 2 = y2 at *
  generalize cx xs 3 = y3 at *
  generalize okB xs = O at *
  generalize cutB (ts.map ActT.a) n xs = CUT at *
  obtain ⟨L, hL⟩ : ∃ L, L = xs.length := ⟨_, rfl⟩
  rw [← hL] at RC HV hc hy ⊢
  clear hL
  have HC := Lib.hid hc
  have HY := Lib.hid hy
  clear hc hy
  have B0 := Lib.hid (((Below.refl w.heap.size w).alloc (Nat.le_refl _) (.cells #[.slice none 0 0, .map none, .int .i64 0, .int .i64 0, .int .i64 0, .int .i64 0, .int .i64 0] 57)).alloc (by simp) (.cells #[.int .i64 0, .int .i64 0, .int .i64 0, .int .i64 0, .int .i64 0] 55))
  have K6 := Lib.hid ((Blk.new w #[.slice none 0 0, .map none, .int .i64 0, .int .i64 0, .int .i64 0, .int .i64 0, .int .i64 0] 57).alloc (.cells #[.int .i64 0, .int .i64 0, .int .i64 0, .int .i64 0, .int .i64 0] 55))
  have k7 := Blk.new (w.alloc (.cells #[.slice none 0 0, .map none, .int .i64 0, .int .i64 0, .int .i64 0, .int .i64 0, .int .i64 0] 57)) #[.int .i64 0, .int .i64 0, .int .i64 0, .int .i64 0, .int .i64 0] 55
  rw [World.size_alloc] at k7
  have K7 := Lib.hid k7
  clear k7
  go_enter Tryz.func66, Tryz.ntmps66
  go_upto_region 1 with (fail)
  obtain ⟨W0, hW0⟩ : ∃ W, W = (w.alloc (.cells #[.slice none 0 0, .map none, .int .i64 0, .int .i64 0, .int .i64 0, .int .i64 0, .int .i64 0] 57)).alloc (.cells #[.int .i64 0, .int .i64 0, .int .i64 0, .int .i64 0, .int .i64 0] 55) := ⟨_, rfl⟩
  rw [← hW0] at B0 K6 K7 ⊢
  clear hW0
  go_wp2_with fail
  refine (RS.out _ (HA.out.below B0.out)).mono ?_
  rintro e w1 ⟨b1, (⟨hs2, mb, hmb, rfl, hm⟩ | ⟨hs2, rfl⟩)⟩
  · clear hm
    have b9 := (Below.refl w1.heap.size w1).alloc (Nat.le_refl _) (.cells #[.slice a K cap, .map (some mb), .int .i64 n, .int .i64 c0, .int .i64 c1, .int .i64 c2, .int .i64 c3] 57)
    have k9 := Blk.new w1 #[.slice a K cap, .map (some mb), .int .i64 n, .int .i64 c0, .int .i64 c1, .int .i64 c2, .int .i64 c3] 57
    have E1 := Lib.hid (B0.out.trans ((b1.trans (b9.mono b1.size)).mono B0.out.size))
    have H1 := Lib.hid (HV.out.below (B := 0) E1.out)
    have M6 := Lib.hid ((K6.out.below b1 K6.out.lt).alloc (.cells #[.slice a K cap, .map (some mb), .int .i64 n, .int .i64 c0, .int .i64 c1, .int .i64 c2, .int .i64 c3] 57))
    have M7 := Lib.hid ((K7.out.below b1 K7.out.lt).alloc (.cells #[.slice a K cap, .map (some mb), .int .i64 n, .int .i64 c0, .int .i64 c1, .int .i64 c2, .int .i64 c3] 57))
    have K9 := Lib.hid k9
    have LS := Lib.hid (K7.out.below b1 K7.out.lt).lt
    clear b1 b9 k9
    go_wp2_with fail
    refine (RC.out _ H1.out).mono ?_
    rintro e w2 ⟨rfl, b2⟩
    have kb := (M6.out.below b2 M6.out.lt).alloc (.cells #[.int .i64 y, .int .i64 y0, .int .i64 y1, .int .i64 y2, .int .i64 y3] 55)
    have kc := (M7.out.below b2 M7.out.lt).alloc (.cells #[.int .i64 y, .int .i64 y0, .int .i64 y1, .int .i64 y2, .int .i64 y3] 55)
    have kd := (K9.out.below b2 K9.out.lt).alloc (.cells #[.int .i64 y, .int .i64 y0, .int .i64 y1, .int .i64 y2, .int .i64 y3] 55)
    have ke := Blk.new w2 #[.int .i64 y, .int .i64 y0, .int .i64 y1, .int .i64 y2, .int .i64 y3] 55
    have hSP : w1.heap.size < w2.heap.size := (K9.out.below b2 K9.out.lt).lt
    have hS1 : w.heap.size + 1 < w1.heap.size := LS.out
    have bz := (E1.out.trans (b2.mono E1.out.size))
    have E2 := Lib.hid (bz.alloc bz.size (.cells #[.int .i64 y, .int .i64 y0, .int .i64 y1, .int .i64 y2, .int .i64 y3] 55))
    clear bz b2
    go_upto_region 3 with (fail)
    obtain ⟨W3, hW3⟩ : ∃ W, W = w2.alloc (.cells #[.int .i64 y, .int .i64 y0, .int .i64 y1, .int .i64 y2, .int .i64 y3] 55) := ⟨_, rfl⟩
    rw [← hW3] at kb kc kd ke E2 ⊢
    obtain ⟨P, hP⟩ : ∃ P, P = w2.heap.size := ⟨_, rfl⟩
    obtain ⟨S, hS⟩ : ∃ S, S = w1.heap.size := ⟨_, rfl⟩
    rw [← hP] at ke hSP ⊢
    rw [← hS] at kd hSP hS1 ⊢
    have L6 := Lib.hid kb
    have L7 := Lib.hid kc
    have L9 := Lib.hid kd
    have L11 := Lib.hid ke
    clear kb kc kd ke hW3 M6 M7 K9 H1 E1 hP hS
    have r0 := L6.out.cell 0
    have r1 := L6.out.cell 1
    have r2 := L6.out.cell 2
    have r3 := L6.out.cell 3
    have r4 := L6.out.cell 4
    have r5 := L6.out.cell 5
    have r6 := L6.out.cell 6
    have u0 := L7.out.cell 0
    have u1 := L7.out.cell 1
    have u2 := L7.out.cell 2
    have u3 := L7.out.cell 3
    have u4 := L7.out.cell 4
    have s0 := L9.out.cell 0
    have s1 := L9.out.cell 1
    have s2 := L9.out.cell 2
    have s3 := L9.out.cell 3
    have s4 := L9.out.cell 4
    have s5 := L9.out.cell 5
    have s6 := L9.out.cell 6
    have q0 := L11.out.cell 0
    have q1 := L11.out.cell 1
    have q2 := L11.out.cell 2
    have q3 := L11.out.cell 3
    have q4 := L11.out.cell 4
    have fr := L6.out.free
    have fu := L7.out.free
    simp only [List.getElem?_cons_zero, List.getElem?_cons_succ] at r0 r1 r2 r3 r4 r5 r6 u0 u1 u2 u3 u4 s0 s1 s2 s3 s4 s5 s6 q0 q1 q2 q3 q4
    cases O
    · have HNO := Lib.hid (show CUT = false by rw [HC.out]; simp)
      go_wp2
      refine bodyPost_ret (v := .tuple #[.agg #[.slice none 0 0, .map none, .int .i64 0, .int .i64 0, .int .i64 0, .int .i64 0, .int .i64 0], .agg #[.int .i64 0, .int .i64 0, .int .i64 0, .int .i64 0, .int .i64 0], .bool false]) (by simp [results, Tryz.results66, go_sem, r0, r1, r2, r3, r4, r5, r6, u0, u1, u2, u3, u4]) rfl ⟨?_, .inr ⟨HNO.out, rfl⟩⟩
      repeat (first | with_reducible refine Below.setCell ?_ ?_ _ | with_reducible refine Below.drew ?_)
      all_goals (first | exact E2.out | (simp; done) | (simp; omega))
    · have hy1 := Lib.hid (HY.out rfl)
      by_cases hyn : y = n
      · have HYES := Lib.hid (show CUT = true by rw [HC.out, hs2, ← hy1.out, hyn]; simp)
        have e1 : (y == n) = true := by simpa using hyn
        have e2 : (y != n) = false := by simpa using hyn
        clear hyn
        go_wp2
        go_region
        all_goals go_wp2
        all_goals refine bodyPost_ret (v := .tuple #[.agg #[.slice a K cap, .map (some mb), .int .i64 n, .int .i64 c0, .int .i64 c1, .int .i64 c2, .int .i64 c3], .agg #[.int .i64 y, .int .i64 y0, .int .i64 y1, .int .i64 y2, .int .i64 y3], .bool true]) (by simp [results, Tryz.results66, go_sem, r0, r1, r2, r3, r4, r5, r6, u0, u1, u2, u3, u4]) rfl ⟨?_, .inl ⟨HYES.out, mb, rfl⟩⟩
        all_goals (repeat (first | with_reducible refine Below.setCell ?_ ?_ _ | with_reducible refine Below.drew ?_))
        all_goals (first | exact E2.out | (simp; done) | (simp; omega))
      · have HNO := Lib.hid (show CUT = false by rw [HC.out, ← hy1.out]; simp [hyn])
        have e1 : (y == n) = false := by simpa using hyn
        have e2 : (y != n) = true := by simpa using hyn
        go_wp2
        refine bodyPost_ret (v := .tuple #[.agg #[.slice none 0 0, .map none, .int .i64 0, .int .i64 0, .int .i64 0, .int .i64 0, .int .i64 0], .agg #[.int .i64 0, .int .i64 0, .int .i64 0, .int .i64 0, .int .i64 0], .bool false]) (by simp [results, Tryz.results66, go_sem, r0, r1, r2, r3, r4, r5, r6, u0, u1, u2, u3, u4]) rfl ⟨?_, .inr ⟨HNO.out, rfl⟩⟩
        repeat (first | with_reducible refine Below.setCell ?_ ?_ _ | with_reducible refine Below.drew ?_)
        all_goals (first | exact E2.out | (simp; done) | (simp; omega))
  · skip
    have b9 := (Below.refl w1.heap.size w1).alloc (Nat.le_refl _) (.cells #[.slice none 0 0, .map none, .int .i64 0, .int .i64 0, .int .i64 0, .int .i64 0, .int .i64 0] 57)
    have k9 := Blk.new w1 #[.slice none 0 0, .map none, .int .i64 0, .int .i64 0, .int .i64 0, .int .i64 0, .int .i64 0] 57
    have E1 := Lib.hid (B0.out.trans ((b1.trans (b9.mono b1.size)).mono B0.out.size))
    have H1 := Lib.hid (HV.out.below (B := 0) E1.out)
    have M6 := Lib.hid ((K6.out.below b1 K6.out.lt).alloc (.cells #[.slice none 0 0, .map none, .int .i64 0, .int .i64 0, .int .i64 0, .int .i64 0, .int .i64 0] 57))
    have M7 := Lib.hid ((K7.out.below b1 K7.out.lt).alloc (.cells #[.slice none 0 0, .map none, .int .i64 0, .int .i64 0, .int .i64 0, .int .i64 0, .int .i64 0] 57))
    have K9 := Lib.hid k9
    have LS := Lib.hid (K7.out.below b1 K7.out.lt).lt
    clear b1 b9 k9
    go_wp2_with fail
    refine (RC.out _ H1.out).mono ?_
    rintro e w2 ⟨rfl, b2⟩
    have kb := (M6.out.below b2 M6.out.lt).alloc (.cells #[.int .i64 y, .int .i64 y0, .int .i64 y1, .int .i64 y2, .int .i64 y3] 55)
    have kc := (M7.out.below b2 M7.out.lt).alloc (.cells #[.int .i64 y, .int .i64 y0, .int .i64 y1, .int .i64 y2, .int .i64 y3] 55)
    have kd := (K9.out.below b2 K9.out.lt).alloc (.cells #[.int .i64 y, .int .i64 y0, .int .i64 y1, .int .i64 y2, .int .i64 y3] 55)
    have ke := Blk.new w2 #[.int .i64 y, .int .i64 y0, .int .i64 y1, .int .i64 y2, .int .i64 y3] 55
    have hSP : w1.heap.size < w2.heap.size := (K9.out.below b2 K9.out.lt).lt
    have hS1 : w.heap.size + 1 < w1.heap.size := LS.out
    have bz := (E1.out.trans (b2.mono E1.out.size))
    have E2 := Lib.hid (bz.alloc bz.size (.cells #[.int .i64 y, .int .i64 y0, .int .i64 y1, .int .i64 y2, .int .i64 y3] 55))
    clear bz b2
    go_upto_region 3 with (fail)
    obtain ⟨W3, hW3⟩ : ∃ W, W = w2.alloc (.cells #[.int .i64 y, .int .i64 y0, .int .i64 y1, .int .i64 y2, .int .i64 y3] 55) := ⟨_, rfl⟩
    rw [← hW3] at kb kc kd ke E2 ⊢
    obtain ⟨P, hP⟩ : ∃ P, P = w2.heap.size := ⟨_, rfl⟩
    obtain ⟨S, hS⟩ : ∃ S, S = w1.heap.size := ⟨_, rfl⟩
    rw [← hP] at ke hSP ⊢
    rw [← hS] at kd hSP hS1 ⊢
    have L6 := Lib.hid kb
    have L7 := Lib.hid kc
    have L9 := Lib.hid kd
    have L11 := Lib.hid ke
    clear kb kc kd ke hW3 M6 M7 K9 H1 E1 hP hS
    have r0 := L6.out.cell 0
    have r1 := L6.out.cell 1
    have r2 := L6.out.cell 2
    have r3 := L6.out.cell 3
    have r4 := L6.out.cell 4
    have r5 := L6.out.cell 5
    have r6 := L6.out.cell 6
    have u0 := L7.out.cell 0
    have u1 := L7.out.cell 1
    have u2 := L7.out.cell 2
    have u3 := L7.out.cell 3
    have u4 := L7.out.cell 4
    have s0 := L9.out.cell 0
    have s1 := L9.out.cell 1
    have s2 := L9.out.cell 2
    have s3 := L9.out.cell 3
    have s4 := L9.out.cell 4
    have s5 := L9.out.cell 5
    have s6 := L9.out.cell 6
    have q0 := L11.out.cell 0
    have q1 := L11.out.cell 1
    have q2 := L11.out.cell 2
    have q3 := L11.out.cell 3
    have q4 := L11.out.cell 4
    have fr := L6.out.free
    have fu := L7.out.free
    simp only [List.getElem?_cons_zero, List.getElem?_cons_succ] at r0 r1 r2 r3 r4 r5 r6 u0 u1 u2 u3 u4 s0 s1 s2 s3 s4 s5 s6 q0 q1 q2 q3 q4
    have HNO := Lib.hid (show CUT = false by rw [HC.out, hs2]; rfl)
    go_wp2
    refine bodyPost_ret (v := .tuple #[.agg #[.slice none 0 0, .map none, .int .i64 0, .int .i64 0, .int .i64 0, .int .i64 0, .int .i64 0], .agg #[.int .i64 0, .int .i64 0, .int .i64 0, .int .i64 0, .int .i64 0], .bool false]) (by simp [results, Tryz.results66, go_sem, r0, r1, r2, r3, r4, r5, r6, u0, u1, u2, u3, u4]) rfl ⟨?_, .inr ⟨HNO.out, rfl⟩⟩
    repeat (first | with_reducible refine Below.setCell ?_ ?_ _ | with_reducible refine Below.drew ?_)
    all_goals (first | exact E2.out | (simp; done) | (simp; omega))
end Go.Proofs.YtkcfcmigcphjlaaGreat


namespace Go.Proofs.YtkcfcmigcphjlaaGreat
open Go.RowKit
set_option linter.unusedVariables false

set_option maxHeartbeats 800000 in
theorem l3part_nil (a va : Option Addr) (cap m vc : Nat) (bb : Bool) (w : World) : Calls Tryz.prog 70 #[.slice a 0 cap, .slice va m vc, .bool bb] w (OwnedL w []) := by
  go_enter Tryz.func70, Tryz.ntmps70
  go_wp2
  go_loop [7, 8] (fun v i => v = .slice none 0 0 ∧ i = .int .i64 0) (fun _ _ => 0)
  case atStart => exact ⟨rfl, rfl⟩
  case round =>
    obtain ⟨rfl, rfl⟩ := hrel
    go_wp2
    go_ret
    exact ⟨_, rfl, ownActs_nil w _, Below.refl _ _⟩
theorem l3part_any (v vv : Value) (l : List ActM) (xs : List Int) (bb : Bool) (w : World) (h : Acts w v l) (hv : Ints w vv xs) (hs : SmallL l) (h1 : 1 ≤ xs.length) (h4 : xs.length ≤ 4) (hr : ∀ a ∈ l, 0 ≤ a.r ∧ a.r < xs.length) :
    Calls Tryz.prog 70 #[v, vv, .bool bb] w (OwnedL w (partM l xs bb)) := by
  obtain ⟨ts, rfl, ht⟩ := h
  obtain ⟨s1, s2⟩ := hs
  rcases hv with ⟨a, cap, rfl, rfl⟩ | ⟨vb, vo, vc, rfl, k1, k2, k3, k4⟩
  · simp at h1
  rcases ht.2 with ⟨a, cap, rfl, rfl⟩ | ⟨b, off, cap, rfl, j1, j2, j3, j4⟩
  · exact l3part_nil _ _ _ _ _ _ w
  · exact l3part_some b off cap _ vb vo vc _ ts xs bb w rfl (by simpa using s1) j1 (fun t hh => s2 _ (List.mem_map_of_mem hh)) (fun t hh => ⟨ht.1 t hh, hr _ (List.mem_map_of_mem hh)⟩) j4 h4 k1 k4
theorem part_no (l : List ActM) (n : Int) (xs : List Int) (h : ¬ cutB l n xs = true) : partOfM l n xs = [] := if_neg h
theorem lacks_no (l : List ActM) (n : Int) (xs : List Int) (h : ¬ cutB l n xs = true) : lacksM l n xs = [] := if_neg h
theorem lacks_yes (l : List ActM) (n : Int) (xs : List Int) (h : cutB l n xs = true) : lacksM l n xs = partM l xs false := if_pos h
theorem part_yes (l : List ActM) (n : Int) (xs : List Int) (h : cutB l n xs = true) : partOfM l n xs = if setOkM (partM l xs true) n = true then partM l xs true else [] := if_pos h
set_option maxRecDepth 100000 in
set_option maxHeartbeats 1600000 in
theorem specPart_any (v vv : Value) (l : List ActM) (xs : List Int) (n : Int) (w : World) (h : Acts w v l) (hv : Ints w vv xs) (hn : I64 n) :
    Calls Tryz.prog 29 #[v, .int .i64 n, vv] w (SeesL w (partOfM l n xs)) := by
  obtain ⟨a, cap, rfl⟩ := acts_len h
  obtain ⟨va, vc, rfl⟩ := ints_len hv
  have CS := Lib.hid (fun W u (k : List ActM) (h : Acts W u k) => setOk_any u k n W h hn)
  have CL := Lib.hid (fun W u (h : Ints W u xs) => specOk_any u xs W h)
  have HA := Lib.hid h
  have HV := Lib.hid hv
  clear h hv
  obtain ⟨K, hK⟩ : ∃ K, K = l.length := ⟨_, rfl⟩
  rw [← hK] at HA ⊢
  clear hK
  by_cases hc : cutB l n xs = true
  · obtain ⟨hs, ho, hl⟩ := (cutB_iff l n xs).1 hc
    obtain ⟨h1, h4⟩ := okB_len4 ho
    obtain ⟨m, hm, m1, m4, _, hr⟩ := setOk_bounds hs
    have HSm := Lib.hid (smallL_ok hs)
    have HCL := Lib.hid (CS.out w _ l HA.out)
    rw [hs] at HCL
    have L3 := Lib.hid (fun W u k (h : Acts W u l) (hv : Ints W k xs) => l3part_any u k l xs true W h hv (smallL_ok hs) h1 h4 (fun a ha => ⟨(hr a ha).1, by have := (hr a ha).2; omega⟩))
    unfold OwnedL at L3
    have HC := Lib.hid hc
    obtain ⟨L, hL⟩ : ∃ L, L = xs.length := ⟨_, rfl⟩
    rw [← hL] at HV h1 h4 hl ⊢
    rw [ho] at CL
    clear hs ho hL hm hr hc
    subst hl
    go_enter Tryz.func29, Tryz.ntmps29
    go_wp2_with fail
    refine HCL.out.mono ?_
    rintro e w1 ⟨rfl, b1⟩
    have A1 := Lib.hid (HA.out.below b1)
    have V1 := Lib.hid (HV.out.below (B := 0) b1)
    have B1 := Lib.hid b1
    clear b1
    go_wp2_with fail
    refine (CL.out _ _ V1.out).mono ?_
    rintro e w2 ⟨rfl, rfl⟩
    go_wp2_with fail
    refine (L3.out _ _ _ A1.out V1.out).mono ?_
    rintro e w3 ⟨u, rfl, o3, b3⟩
    have o3 := ownActs_acts o3
    have B3 := Lib.hid (B1.out.trans (b3.mono B1.out.size))
    clear b3
    obtain ⟨ua, uc, rfl⟩ := acts_len o3
    obtain ⟨q, hq⟩ : ∃ q, q = (partM l xs true).length := ⟨_, rfl⟩
    rw [← hq] at o3 ⊢
    clear hq
    have O3 := Lib.hid o3
    have S3 := Lib.hid (CS.out _ _ _ o3)
    clear o3
    obtain ⟨T, hT⟩ : ∃ T, setOkM (partM l xs true) L = T := ⟨_, rfl⟩
    rw [hT] at S3
    have HT := Lib.hid hT
    clear hT
    cases T
    · go_wp2_with fail
      refine S3.out.mono ?_
      rintro e w4 ⟨rfl, b4⟩
      have B4 := Lib.hid (B3.out.trans (b4.mono B3.out.size))
      clear b4
      go_wp2
      go_ret
      exact ⟨_, rfl, by rw [part_yes l _ xs HC.out, HT.out]; exact acts_empty _ _ _, B4.out⟩
    · go_wp2_with fail
      refine S3.out.mono ?_
      rintro e w4 ⟨rfl, b4⟩
      have O4 := Lib.hid (O3.out.below b4)
      have B4 := Lib.hid (B3.out.trans (b4.mono B3.out.size))
      clear b4
      go_wp2
      go_ret
      exact ⟨_, rfl, by rw [part_yes l _ xs HC.out, HT.out]; exact O4.out, B4.out⟩
  · have hc' : setOkM l n = false ∨ (setOkM l n = true ∧ okB xs = false) ∨ (setOkM l n = true ∧ okB xs = true ∧ (xs.length : Int) ≠ n) := by
      rw [cutB_iff] at hc
      by_cases h1 : setOkM l n = true
      · by_cases h2 : okB xs = true
        · exact .inr (.inr ⟨h1, h2, fun h3 => hc ⟨h1, h2, h3⟩⟩)
        · exact .inr (.inl ⟨h1, by simpa using h2⟩)
      · exact .inl (by simpa using h1)
    have HCL := Lib.hid (CS.out w _ l HA.out)
    have HC := Lib.hid hc
    clear hc
    rcases hc' with hs | ⟨hs, ho⟩ | ⟨hs, ho, hl⟩
    · rw [hs] at HCL
      clear hs
      go_enter Tryz.func29, Tryz.ntmps29
      go_wp2_with fail
      refine HCL.out.mono ?_
      rintro e w1 ⟨rfl, b1⟩
      have B1 := Lib.hid b1
      clear b1
      go_wp2
      go_ret
      exact ⟨_, rfl, by rw [part_no l n xs HC.out]; exact acts_empty _ _ _, B1.out⟩
    · rw [hs] at HCL
      rw [ho] at CL
      clear hs ho
      go_enter Tryz.func29, Tryz.ntmps29
      go_wp2_with fail
      refine HCL.out.mono ?_
      rintro e w1 ⟨rfl, b1⟩
      have V1 := Lib.hid (HV.out.below (B := 0) b1)
      have B1 := Lib.hid b1
      clear b1
      go_wp2_with fail
      refine (CL.out _ _ V1.out).mono ?_
      rintro e w2 ⟨rfl, rfl⟩
      go_wp2
      go_ret
      exact ⟨_, rfl, by rw [part_no l n xs HC.out]; exact acts_empty _ _ _, B1.out⟩
    · rw [hs] at HCL
      rw [ho] at CL
      obtain ⟨L, hL⟩ : ∃ L, L = xs.length := ⟨_, rfl⟩
      rw [← hL] at HV hl ⊢
      have e1 : ((L : Int) == n) = false := by simpa using hl
      have e2 : ((L : Int) != n) = true := by simpa using hl
      clear hs ho hL hl
      go_enter Tryz.func29, Tryz.ntmps29
      go_wp2_with fail
      refine HCL.out.mono ?_
      rintro e w1 ⟨rfl, b1⟩
      have V1 := Lib.hid (HV.out.below (B := 0) b1)
      have B1 := Lib.hid b1
      clear b1
      go_wp2_with fail
      refine (CL.out _ _ V1.out).mono ?_
      rintro e w2 ⟨rfl, rfl⟩
      go_wp2
      go_ret
      exact ⟨_, rfl, by rw [part_no l n xs HC.out]; exact acts_empty _ _ _, B1.out⟩
set_option maxRecDepth 100000 in
set_option maxHeartbeats 1600000 in
theorem specLacks_any (v vv : Value) (l : List ActM) (xs : List Int) (n : Int) (w : World) (h : Acts w v l) (hv : Ints w vv xs) (hn : I64 n) :
    Calls Tryz.prog 30 #[v, .int .i64 n, vv] w (SeesL w (lacksM l n xs)) := by
  obtain ⟨a, cap, rfl⟩ := acts_len h
  obtain ⟨va, vc, rfl⟩ := ints_len hv
  have CS := Lib.hid (fun W u (k : List ActM) (h : Acts W u k) => setOk_any u k n W h hn)
  have CL := Lib.hid (fun W u (h : Ints W u xs) => specOk_any u xs W h)
  have HA := Lib.hid h
  have HV := Lib.hid hv
  clear h hv
  obtain ⟨K, hK⟩ : ∃ K, K = l.length := ⟨_, rfl⟩
  rw [← hK] at HA ⊢
  clear hK
  by_cases hc : cutB l n xs = true
  · obtain ⟨hs, ho, hl⟩ := (cutB_iff l n xs).1 hc
    obtain ⟨h1, h4⟩ := okB_len4 ho
    obtain ⟨m, hm, m1, m4, _, hr⟩ := setOk_bounds hs
    have HSm := Lib.hid (smallL_ok hs)
    have HCL := Lib.hid (CS.out w _ l HA.out)
    rw [hs] at HCL
    have L3 := Lib.hid (fun W u k (h : Acts W u l) (hv : Ints W k xs) => l3part_any u k l xs false W h hv (smallL_ok hs) h1 h4 (fun a ha => ⟨(hr a ha).1, by have := (hr a ha).2; omega⟩))
    unfold OwnedL at L3
    have HC := Lib.hid hc
    obtain ⟨L, hL⟩ : ∃ L, L = xs.length := ⟨_, rfl⟩
    rw [← hL] at HV h1 h4 hl ⊢
    rw [ho] at CL
    clear hs ho hL hm hr hc
    subst hl
    go_enter Tryz.func30, Tryz.ntmps30
    go_wp2_with fail
    refine HCL.out.mono ?_
    rintro e w1 ⟨rfl, b1⟩
    have A1 := Lib.hid (HA.out.below b1)
    have V1 := Lib.hid (HV.out.below (B := 0) b1)
    have B1 := Lib.hid b1
    clear b1
    go_wp2_with fail
    refine (CL.out _ _ V1.out).mono ?_
    rintro e w2 ⟨rfl, rfl⟩
    go_wp2_with fail
    refine (L3.out _ _ _ A1.out V1.out).mono ?_
    rintro e w3 ⟨u, rfl, o3, b3⟩
    have o3 := ownActs_acts o3
    have B3 := Lib.hid (B1.out.trans (b3.mono B1.out.size))
    clear b3
    have O3 := Lib.hid o3
    clear o3
    go_wp2
    go_ret
    exact ⟨_, rfl, by rw [lacks_yes l _ xs HC.out]; exact O3.out, B3.out⟩
  · have hc' : setOkM l n = false ∨ (setOkM l n = true ∧ okB xs = false) ∨ (setOkM l n = true ∧ okB xs = true ∧ (xs.length : Int) ≠ n) := by
      rw [cutB_iff] at hc
      by_cases h1 : setOkM l n = true
      · by_cases h2 : okB xs = true
        · exact .inr (.inr ⟨h1, h2, fun h3 => hc ⟨h1, h2, h3⟩⟩)
        · exact .inr (.inl ⟨h1, by simpa using h2⟩)
      · exact .inl (by simpa using h1)
    have HCL := Lib.hid (CS.out w _ l HA.out)
    have HC := Lib.hid hc
    clear hc
    rcases hc' with hs | ⟨hs, ho⟩ | ⟨hs, ho, hl⟩
    · rw [hs] at HCL
      clear hs
      go_enter Tryz.func30, Tryz.ntmps30
      go_wp2_with fail
      refine HCL.out.mono ?_
      rintro e w1 ⟨rfl, b1⟩
      have B1 := Lib.hid b1
      clear b1
      go_wp2
      go_ret
      exact ⟨_, rfl, by rw [lacks_no l n xs HC.out]; exact acts_empty _ _ _, B1.out⟩
    · rw [hs] at HCL
      rw [ho] at CL
      clear hs ho
      go_enter Tryz.func30, Tryz.ntmps30
      go_wp2_with fail
      refine HCL.out.mono ?_
      rintro e w1 ⟨rfl, b1⟩
      have V1 := Lib.hid (HV.out.below (B := 0) b1)
      have B1 := Lib.hid b1
      clear b1
      go_wp2_with fail
      refine (CL.out _ _ V1.out).mono ?_
      rintro e w2 ⟨rfl, rfl⟩
      go_wp2
      go_ret
      exact ⟨_, rfl, by rw [lacks_no l n xs HC.out]; exact acts_empty _ _ _, B1.out⟩
    · rw [hs] at HCL
      rw [ho] at CL
      obtain ⟨L, hL⟩ : ∃ L, L = xs.length := ⟨_, rfl⟩
      rw [← hL] at HV hl ⊢
      have e1 : ((L : Int) == n) = false := by simpa using hl
      have e2 : ((L : Int) != n) = true := by simpa using hl
      clear hs ho hL hl
      go_enter Tryz.func30, Tryz.ntmps30
      go_wp2_with fail
      refine HCL.out.mono ?_
      rintro e w1 ⟨rfl, b1⟩
      have V1 := Lib.hid (HV.out.below (B := 0) b1)
      have B1 := Lib.hid b1
      clear b1
      go_wp2_with fail
      refine (CL.out _ _ V1.out).mono ?_
      rintro e w2 ⟨rfl, rfl⟩
      go_wp2
      go_ret
      exact ⟨_, rfl, by rw [lacks_no l n xs HC.out]; exact acts_empty _ _ _, B1.out⟩
end Go.Proofs.YtkcfcmigcphjlaaGreat




namespace Go.Proofs.YtkcfcmigcphjlaaGreat
open Go.RowKit
set_option linter.unusedVariables false

theorem cx_four {xs : List Int} (ho : okB xs = true) (q : Nat) (hq : q < 4) : [cx xs 0, cx xs 1, cx xs 2, cx xs 3].getD q 0 = xs.getD q 0 := by
  have h : ∀ i, cx xs i = xs.getD i 0 := fun i => if_pos ho
  simp only [h]
  rcases q with _ | _ | _ | _ | q
  all_goals first | rfl | omega
theorem filt_knows {xs : List Int} (ho : okB xs = true) (ts : List ActT) (hr : ∀ t ∈ ts, 0 ≤ t.a.r ∧ t.a.r < 4) :
    (ts.filter (knowsT [cx xs 0, cx xs 1, cx xs 2, cx xs 3])).map ActT.a = partM (ts.map ActT.a) xs true := by
  unfold partM
  rw [List.filter_map]
  congr 1
  refine List.filter_congr fun t ht => ?_
  obtain ⟨h1, h2⟩ := hr t ht
  simp only [knowsT, Function.comp]
  rw [cx_four ho _ (by omega)]
  simp
theorem filt_lacks {xs : List Int} (ho : okB xs = true) (ts : List ActT) (hr : ∀ t ∈ ts, 0 ≤ t.a.r ∧ t.a.r < 4) :
    (ts.filter (lacksT [cx xs 0, cx xs 1, cx xs 2, cx xs 3])).map ActT.a = partM (ts.map ActT.a) xs false := by
  unfold partM
  rw [List.filter_map]
  congr 1
  refine List.filter_congr fun t ht => ?_
  obtain ⟨h1, h2⟩ := hr t ht
  simp only [lacksT, Function.comp]
  rw [cx_four ho _ (by omega)]
  simp

theorem copyKnown_any (ts : List ActT) (a : Option Addr) (K cap S F : Nat) (mp : Value) (p x0 x1 x2 x3 pl y0 y1 y2 y3 : Int) (w : World)
    (h : ActsT w (.slice a K cap) ts) (hs : SmallL (ts.map ActT.a)) (hr : ∀ t ∈ ts, 0 ≤ t.a.r ∧ t.a.r < 4)
    (kS : Blk w S [.slice a K cap, mp, .int .i64 p, .int .i64 x0, .int .i64 x1, .int .i64 x2, .int .i64 x3])
    (kF : Blk w F [.func (.func 95) #[.agg #[.int .i64 pl, .int .i64 y0, .int .i64 y1, .int .i64 y2, .int .i64 y3]] #[]]) :
    Calls Tryz.prog 58 #[.func (.func 111) #[] #[.pointer (some ⟨S, 0, none⟩), .pointer (some ⟨F, 0, none⟩)]] w (RetL w ((ts.filter (knowsT [y0, y1, y2, y3])).map ActT.a)) := by
  have hK : ∀ t ∈ ts, t.Reads w ∧ t.a.Small := fun t ht => ⟨h.1 t ht, hs.2 _ (List.mem_map_of_mem ht)⟩
  have hl : ts.length ≤ 1048576 := by simpa using hs.1
  rcases h.2 with ⟨a, cap, e, rfl⟩ | ⟨b, off, cap, e, h1, h2, h3, h4⟩
  · cases e
    exact copyActs_any _ _ (fun t => t.Reads w ∧ t.a.Small) [] 0 w (enters_of Tryz.func111 (by kernel_rfl) rfl) (those0_stops 5 0 (by omega) S F _ _ mp p x0 x1 x2 x3 _ w kS.lt kS) (fun t h => h) (by omega)
  · cases e
    exact copyActs_any _ _ (fun t => t.Reads w ∧ t.a.Small) _ ts.length w (enters_of Tryz.func111 (by kernel_rfl) rfl) (those1_stops 5 (by omega)  S F b off _ _ mp p x0 x1 x2 x3 pl y0 y1 y2 y3 ts _ hK w rfl (by omega) h1 kS.lt kF.lt (fun t ht => ⟨h.1 t ht, hr t ht⟩) h4 kS  kF) (fun t h => h) hl

theorem copyBeyond_any (ts : List ActT) (a : Option Addr) (K cap S F C : Nat) (mp : Value) (p x0 x1 x2 x3 pl y0 y1 y2 y3 : Int) (w : World)
    (h : ActsT w (.slice a K cap) ts) (hs : SmallL (ts.map ActT.a)) (hr : ∀ t ∈ ts, 0 ≤ t.a.r ∧ t.a.r < 4)
    (kS : Blk w S [.slice a K cap, mp, .int .i64 p, .int .i64 x0, .int .i64 x1, .int .i64 x2, .int .i64 x3])
    (kC : Blk w C [.int .i64 pl, .int .i64 y0, .int .i64 y1, .int .i64 y2, .int .i64 y3])
    (kF : Blk w F [.func (.func 96) #[] #[.pointer (some ⟨C, 0, none⟩)]]) :
    Calls Tryz.prog 58 #[.func (.func 111) #[] #[.pointer (some ⟨S, 0, none⟩), .pointer (some ⟨F, 0, none⟩)]] w (RetL w ((ts.filter (lacksT [y0, y1, y2, y3])).map ActT.a)) := by
  have hK : ∀ t ∈ ts, t.Reads w ∧ t.a.Small := fun t ht => ⟨h.1 t ht, hs.2 _ (List.mem_map_of_mem ht)⟩
  have hl : ts.length ≤ 1048576 := by simpa using hs.1
  rcases h.2 with ⟨a, cap, e, rfl⟩ | ⟨b, off, cap, e, h1, h2, h3, h4⟩
  · cases e
    exact copyActs_any _ _ (fun t => t.Reads w ∧ t.a.Small) [] 0 w (enters_of Tryz.func111 (by kernel_rfl) rfl) (those0_stops 5 0 (by omega) S F _ _ mp p x0 x1 x2 x3 _ w kS.lt kS) (fun t h => h) (by omega)
  · cases e
    exact copyActs_any _ _ (fun t => t.Reads w ∧ t.a.Small) _ ts.length w (enters_of Tryz.func111 (by kernel_rfl) rfl) (those2_stops 5 (by omega) C S F b off _ _ mp p x0 x1 x2 x3 pl y0 y1 y2 y3 ts _ hK w rfl (by omega) h1 kS.lt kF.lt (fun t ht => ⟨h.1 t ht, hr t ht⟩) h4 kS kC.lt kC kF) (fun t h => h) hl

set_option maxHeartbeats 800000 in
theorem setOnly_any (v : Value) (l : List ActM) (n : Int) (w : World) (h : Acts w v l) (hn : I64 n) :
    Calls Tryz.prog 62 #[v, .int .i64 n] w fun e w' => ((setOkM l n = true ∧ e = .returned (.tuple #[v, .bool true])) ∨ (setOkM l n = false ∧ e = .returned (.tuple #[.slice none 0 0, .bool false]))) ∧ Below w.heap.size w w' := by
  obtain ⟨a, cap, rfl⟩ := acts_len h
  have CS := Lib.hid (implSetOk_any _ l n w h hn)
  clear h
  generalize l.length = K at *
  obtain ⟨T, hT⟩ : ∃ T, T = setOkM l n := ⟨_, rfl⟩
  rw [← hT] at CS ⊢
  clear hT
  cases T
  · go_enter Tryz.func62, Tryz.ntmps62
    go_wp2_with fail
    refine CS.out.mono ?_
    rintro e w1 ⟨rfl, b1⟩
    have B1 := Lib.hid b1
    clear b1
    go_wp2
    go_ret2
    exact ⟨.inr ⟨(by first | rfl | trivial), rfl⟩, B1.out⟩
  · go_enter Tryz.func62, Tryz.ntmps62
    go_wp2_with fail
    refine CS.out.mono ?_
    rintro e w1 ⟨rfl, b1⟩
    have B1 := Lib.hid b1
    clear b1
    go_wp2
    go_ret2
    exact ⟨.inl ⟨(by first | rfl | trivial), rfl⟩, B1.out⟩
end Go.Proofs.YtkcfcmigcphjlaaGreat

namespace Go.Proofs.YtkcfcmigcphjlaaGreat
open Go.RowKit
set_option linter.unusedVariables false

set_option maxRecDepth 100000 in
set_option maxHeartbeats 3200000 in
theorem implPart_any (v vv : Value) (l : List ActM) (xs : List Int) (n : Int) (w : World) (h : Acts w v l) (hv : Ints w vv xs) (hn : I64 n) :
    Calls Tryz.prog 27 #[v, .int .i64 n, vv] w (RetL w (partOfM l n xs)) := by
  obtain ⟨ts, rfl, ht⟩ := h
  obtain ⟨a, cap, rfl⟩ := actsT_len ht
  obtain ⟨va, vc, rfl⟩ := ints_len hv
  have RC := Lib.hid (readCut_any _ _ ts xs n w ht hv hn)
  unfold CutRead at RC
  simp only [setVal, noSet] at RC
  have HT := Lib.hid ht
  clear ht hv
  obtain ⟨K, hK⟩ : ∃ K, K = ts.length := ⟨_, rfl⟩
  obtain ⟨L, hL⟩ : ∃ L, L = xs.length := ⟨_, rfl⟩
  rw [← hK] at RC HT ⊢
  rw [← hL] at RC ⊢
  by_cases hc : cutB (ts.map ActT.a) n xs = true
  · rw [part_yes _ _ _ hc]
    obtain ⟨hs, ho, hl⟩ := (cutB_iff _ n xs).1 hc
    obtain ⟨m, hm, m1, m4, _, hr⟩ := setOk_bounds hs
    have hr4 : ∀ t ∈ ts, 0 ≤ t.a.r ∧ t.a.r < 4 := fun t ht => by
      have := hr _ (List.mem_map_of_mem ht)
      omega
    have FK := filt_knows ho ts hr4
    have HC := Lib.hid hc
    have CK := Lib.hid (show ∀ (S F mb : Nat) (W : World), ActsT W (.slice a K cap) ts → Blk W S [.slice a K cap, .map (some mb), .int .i64 n, .int .i64 (cntM (ts.map ActT.a) 0), .int .i64 (cntM (ts.map ActT.a) 1), .int .i64 (cntM (ts.map ActT.a) 2), .int .i64 (cntM (ts.map ActT.a) 3)] → Blk W F [.func (.func 95) #[.agg #[.int .i64 (cn xs), .int .i64 (cx xs 0), .int .i64 (cx xs 1), .int .i64 (cx xs 2), .int .i64 (cx xs 3)]] #[]] →
        Calls Tryz.prog 58 #[.func (.func 111) #[] #[.pointer (some ⟨S, 0, none⟩), .pointer (some ⟨F, 0, none⟩)]] W (RetL W (partM (ts.map ActT.a) xs true)) from fun S F mb W hA kS kF => by
      rw [← FK]
      exact copyKnown_any ts a K cap S F _ _ _ _ _ _ _ _ _ _ _ W hA (smallL_ok hs) hr4 kS kF)
    have SO := Lib.hid (fun W u (h : Acts W u (partM (ts.map ActT.a) xs true)) => setOnly_any u _ n W h hn)
    clear hs ho hl hm m1 m4 hr hr4 FK hc hK hL
    generalize (cntM (ts.map ActT.a) 0 : Int) = c0 at *
    generalize (cntM (ts.map ActT.a) 1 : Int) = c1 at *
    generalize (cntM (ts.map ActT.a) 2 : Int) = c2 at *
    generalize (cntM (ts.map ActT.a) 3 : Int) = c3 at *
    generalize cn xs = y at *
    generalize cx xs 0 = y0 at *
    generalize cx xs 1 = y1 at *
    generalize cx xs 2 = y2 at *
    generalize cx xs 3 = y3 at *
    generalize partM (ts.map ActT.a) xs true = P at *
    obtain ⟨RS, hRS⟩ : ∃ R, R = (if setOkM P n = true then P else []) := ⟨_, rfl⟩
    rw [← hRS]
    have HRS := Lib.hid hRS
    clear hRS
    go_enter Tryz.func27, Tryz.ntmps27
    go_wp2_with fail
    refine RC.out.mono ?_
    rintro e w1 ⟨b1, (⟨_, mb, rfl⟩ | ⟨hx, _⟩)⟩
    · have bz := (b1.alloc b1.size (.cells #[.slice a K cap, .map (some mb), .int .i64 n, .int .i64 c0, .int .i64 c1, .int .i64 c2, .int .i64 c3] 57)).alloc (by have := b1.size; simp; omega) (.cells #[.int .i64 y, .int .i64 y0, .int .i64 y1, .int .i64 y2, .int .i64 y3] 55)
      go_wp2_with fail
      obtain ⟨W1, hW1⟩ : ∃ W, W = (w1.alloc (.cells #[.slice a K cap, .map (some mb), .int .i64 n, .int .i64 c0, .int .i64 c1, .int .i64 c2, .int .i64 c3] 57)).alloc (.cells #[.int .i64 y, .int .i64 y0, .int .i64 y1, .int .i64 y2, .int .i64 y3] 55) := ⟨_, rfl⟩
      rw [← hW1] at bz ⊢
      have A1 := Lib.hid (HT.out.below bz)
      have B1 := Lib.hid bz
      clear hW1 bz b1
      refine (upTo_any _ _ _ _ _ _ _ _ _ _ _ _ _ _ _).mono ?_
      rintro e w2 ⟨S, F, rfl, hS, hF, kS, kF, b2⟩
      have A2 := Lib.hid (A1.out.below b2)
      have B2 := Lib.hid (B1.out.trans (b2.mono B1.out.size))
      have KS := Lib.hid kS
      have KF := Lib.hid kF
      clear b2 kS kF hS hF
      go_wp2_with fail
      refine (CK.out S F mb _ A2.out KS.out KF.out).mono ?_
      rintro e w3 ⟨u, bs, rfl, o3, g3, b3⟩
      have B3 := Lib.hid (B2.out.trans (b3.mono B2.out.size))
      have G3 := Lib.hid (fun b hb => Nat.le_trans B2.out.size (g3 b hb))
      have O3 := Lib.hid o3
      clear b3 g3 o3 A2 KS KF A1
      obtain ⟨ua, uc, rfl⟩ := acts_len O3.out.acts
      have SC := Lib.hid (SO.out _ _ O3.out.acts)
      obtain ⟨Z, hZ⟩ : ∃ Z, Z = P.length := ⟨_, rfl⟩
      rw [← hZ] at SC O3 ⊢
      clear hZ
      go_wp2_with fail
      refine SC.out.mono ?_
      rintro e w4 ⟨(⟨ht, rfl⟩ | ⟨ht, rfl⟩), b4⟩
      · have HRP := Lib.hid (show RS = P by rw [HRS.out, if_pos ht])
        have O4 := Lib.hid (O3.out.below b4)
        have B4 := Lib.hid (B3.out.trans (b4.mono B3.out.size))
        clear b4 ht
        go_wp2
        go_ret
        exact ⟨_, bs, rfl, by rw [HRP.out]; exact O4.out, G3.out, B4.out⟩
      · have HRP := Lib.hid (show RS = [] by rw [HRS.out, if_neg (by rw [ht]; decide)])
        have B4 := Lib.hid (B3.out.trans (b4.mono B3.out.size))
        clear b4 ht
        go_wp2
        go_ret
        exact ⟨_, [], rfl, .inl ⟨HRP.out, rfl, _, _, rfl⟩, (fun b hb => nomatch hb), B4.out⟩
    · rw [HC.out] at hx; cases hx
  · rw [part_no _ _ _ hc]
    have HC := Lib.hid hc
    clear hc hK hL
    go_enter Tryz.func27, Tryz.ntmps27
    go_wp2_with fail
    refine RC.out.mono ?_
    rintro e w1 ⟨b1, (⟨hx, _⟩ | ⟨_, rfl⟩)⟩
    · exact absurd hx HC.out
    · have B1 := Lib.hid ((b1.alloc b1.size (.cells #[.slice none 0 0, .map none, .int .i64 0, .int .i64 0, .int .i64 0, .int .i64 0, .int .i64 0] 57)).alloc (by have := b1.size; simp; omega) (.cells #[.int .i64 0, .int .i64 0, .int .i64 0, .int .i64 0, .int .i64 0] 55))
      clear b1
      go_wp2
      go_ret
      exact ⟨_, [], rfl, .inl ⟨rfl, rfl, _, _, rfl⟩, (fun b hb => nomatch hb), B1.out⟩

set_option maxRecDepth 100000 in
set_option maxHeartbeats 3200000 in
theorem implLacks_any (v vv : Value) (l : List ActM) (xs : List Int) (n : Int) (w : World) (h : Acts w v l) (hv : Ints w vv xs) (hn : I64 n) :
    Calls Tryz.prog 28 #[v, .int .i64 n, vv] w (RetL w (lacksM l n xs)) := by
  obtain ⟨ts, rfl, ht⟩ := h
  obtain ⟨a, cap, rfl⟩ := actsT_len ht
  obtain ⟨va, vc, rfl⟩ := ints_len hv
  have RC := Lib.hid (readCut_any _ _ ts xs n w ht hv hn)
  unfold CutRead at RC
  simp only [setVal, noSet] at RC
  have HT := Lib.hid ht
  clear ht hv
  obtain ⟨K, hK⟩ : ∃ K, K = ts.length := ⟨_, rfl⟩
  obtain ⟨L, hL⟩ : ∃ L, L = xs.length := ⟨_, rfl⟩
  rw [← hK] at RC HT ⊢
  rw [← hL] at RC ⊢
  by_cases hc : cutB (ts.map ActT.a) n xs = true
  · rw [lacks_yes _ _ _ hc]
    obtain ⟨hs, ho, hl⟩ := (cutB_iff _ n xs).1 hc
    obtain ⟨m, hm, m1, m4, _, hr⟩ := setOk_bounds hs
    have hr4 : ∀ t ∈ ts, 0 ≤ t.a.r ∧ t.a.r < 4 := fun t ht => by
      have := hr _ (List.mem_map_of_mem ht)
      omega
    have FK := filt_lacks ho ts hr4
    have HC := Lib.hid hc
    have CK := Lib.hid (show ∀ (S F C mb : Nat) (W : World), ActsT W (.slice a K cap) ts → Blk W S [.slice a K cap, .map (some mb), .int .i64 n, .int .i64 (cntM (ts.map ActT.a) 0), .int .i64 (cntM (ts.map ActT.a) 1), .int .i64 (cntM (ts.map ActT.a) 2), .int .i64 (cntM (ts.map ActT.a) 3)] → Blk W C [.int .i64 (cn xs), .int .i64 (cx xs 0), .int .i64 (cx xs 1), .int .i64 (cx xs 2), .int .i64 (cx xs 3)] → Blk W F [.func (.func 96) #[] #[.pointer (some ⟨C, 0, none⟩)]] →
        Calls Tryz.prog 58 #[.func (.func 111) #[] #[.pointer (some ⟨S, 0, none⟩), .pointer (some ⟨F, 0, none⟩)]] W (RetL W (partM (ts.map ActT.a) xs false)) from fun S F C mb W hA kS kC kF => by
      rw [← FK]
      exact copyBeyond_any ts a K cap S F C _ _ _ _ _ _ _ _ _ _ _ W hA (smallL_ok hs) hr4 kS kC kF)
    have SO := Lib.hid (fun W u (h : Acts W u (partM (ts.map ActT.a) xs false)) => setOnly_any u _ n W h hn)
    clear hs ho hl hm m1 m4 hr hr4 FK hc hK hL
    generalize (cntM (ts.map ActT.a) 0 : Int) = c0 at *
    generalize (cntM (ts.map ActT.a) 1 : Int) = c1 at *
    generalize (cntM (ts.map ActT.a) 2 : Int) = c2 at *
    generalize (cntM (ts.map ActT.a) 3 : Int) = c3 at *
    generalize cn xs = y at *
    generalize cx xs 0 = y0 at *
    generalize cx xs 1 = y1 at *
    generalize cx xs 2 = y2 at *
    generalize cx xs 3 = y3 at *
    generalize partM (ts.map ActT.a) xs false = P at *
    go_enter Tryz.func28, Tryz.ntmps28
    go_wp2_with fail
    refine RC.out.mono ?_
    rintro e w1 ⟨b1, (⟨_, mb, rfl⟩ | ⟨hx, _⟩)⟩
    · have bz := (b1.alloc b1.size (.cells #[.slice a K cap, .map (some mb), .int .i64 n, .int .i64 c0, .int .i64 c1, .int .i64 c2, .int .i64 c3] 57)).alloc (by have := b1.size; simp; omega) (.cells #[.int .i64 y, .int .i64 y0, .int .i64 y1, .int .i64 y2, .int .i64 y3] 55)
      go_wp2_with fail
      obtain ⟨W1, hW1⟩ : ∃ W, W = (w1.alloc (.cells #[.slice a K cap, .map (some mb), .int .i64 n, .int .i64 c0, .int .i64 c1, .int .i64 c2, .int .i64 c3] 57)).alloc (.cells #[.int .i64 y, .int .i64 y0, .int .i64 y1, .int .i64 y2, .int .i64 y3] 55) := ⟨_, rfl⟩
      rw [← hW1] at bz ⊢
      have A1 := Lib.hid (HT.out.below bz)
      have B1 := Lib.hid bz
      clear hW1 bz b1
      refine (beyond_any _ _ _ _ _ _ _ _ _ _ _ _ _ _ _).mono ?_
      rintro e w2 ⟨S, F, C, rfl, hS, hF, kS, kC, kF, b2⟩
      have A2 := Lib.hid (A1.out.below b2)
      have B2 := Lib.hid (B1.out.trans (b2.mono B1.out.size))
      have KS := Lib.hid kS
      have KF := Lib.hid kF
      have KC := Lib.hid kC
      clear b2 kS kF kC hS hF
      go_wp2_with fail
      refine (CK.out S F C mb _ A2.out KS.out KC.out KF.out).mono ?_
      rintro e w3 ⟨u, bs, rfl, o3, g3, b3⟩
      have B3 := Lib.hid (B2.out.trans (b3.mono B2.out.size))
      have G3 := Lib.hid (fun b hb => Nat.le_trans B2.out.size (g3 b hb))
      have O3 := Lib.hid o3
      clear b3 g3 o3 A2 KS KF A1
      go_wp2
      go_ret
      exact ⟨_, bs, rfl, O3.out, G3.out, B3.out⟩
    · rw [HC.out] at hx; cases hx
  · rw [lacks_no _ _ _ hc]
    have HC := Lib.hid hc
    clear hc hK hL
    go_enter Tryz.func28, Tryz.ntmps28
    go_wp2_with fail
    refine RC.out.mono ?_
    rintro e w1 ⟨b1, (⟨hx, _⟩ | ⟨_, rfl⟩)⟩
    · exact absurd hx HC.out
    · have B1 := Lib.hid ((b1.alloc b1.size (.cells #[.slice none 0 0, .map none, .int .i64 0, .int .i64 0, .int .i64 0, .int .i64 0, .int .i64 0] 57)).alloc (by have := b1.size; simp; omega) (.cells #[.int .i64 0, .int .i64 0, .int .i64 0, .int .i64 0, .int .i64 0] 55))
      clear b1
      go_wp2
      go_ret
      exact ⟨_, [], rfl, .inl ⟨rfl, rfl, _, _, rfl⟩, (fun b hb => nomatch hb), B1.out⟩
end Go.Proofs.YtkcfcmigcphjlaaGreat
