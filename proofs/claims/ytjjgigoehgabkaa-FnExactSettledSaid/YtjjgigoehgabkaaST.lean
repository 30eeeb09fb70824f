/- The reference's Settled. -/
import Derived.Test.YtjjgigoehgabkaaSS
import Derived.Test.YtjjgigoehgabkaaO2
import Derived.Test.YtjjgigoehgabkaaHF
import Derived.Test.YtjjgigoehgabkaaHG
import Derived.Deep.DeepCutAuto
namespace Go.Proofs.Ytjjgigoehgabkaa
open Go.RowKit
set_option linter.unusedVariables false
set_option linter.unusedSimpArgs false

theorem knownM_nil (n p : Nat) : knownM [] n p = List.replicate n 0 := rfl
theorem knownM_snoc (l : List ActM) (a : ActM) (n p : Nat) : knownM (l ++ [a]) n p = if a.r = (p : Int) then a.dep.set p a.n else knownM l n p := by
  unfold knownM lastActM
  rw [List.filter_append]
  by_cases h : a.r = (p : Int)
  · rw [if_pos h]
    simp [h]
  · rw [if_neg h]
    simp [h]
theorem take_snocS (l : List ActM) (k : Nat) (h : k < l.length) : l.take (k + 1) = l.take k ++ [l.getD k act0] := by
  rw [List.take_succ_eq_append_getElem h]
  simp [List.getD, h]

/-- rows of numbers in block P -/
structure RowsI (w wr : World) (P n : Nat) (vs : List Value) (f : Nat → List Int) : Prop where
  ge : w.heap.size ≤ P
  blk : Blk wr P vs
  len : vs.length = n
  own : ∀ i, i < n → ∃ g, P < g ∧ Own wr g (vs.getD i undef) (f i)
  bel : Below w.heap.size w wr
theorem RowsI.lt {w wr : World} {P n : Nat} {vs : List Value} {f : Nat → List Int} (h : RowsI w wr P n vs f) : P < wr.heap.size := h.blk.lt
theorem RowsI.below {w wr w' : World} {P n : Nat} {vs : List Value} {f : Nat → List Int} (h : RowsI w wr P n vs f) (hb : Below wr.heap.size wr w') : RowsI w w' P n vs f := by
  refine ⟨h.ge, h.blk.below hb h.blk.lt, h.len, fun i hi => ?_, h.bel.trans (hb.mono h.bel.size)⟩
  obtain ⟨g, g1, g2⟩ := h.own i hi
  exact ⟨g, g1, g2.below hb⟩
theorem RowsI.congr {w wr : World} {P n : Nat} {vs : List Value} {f g : Nat → List Int} (h : RowsI w wr P n vs f) (e : ∀ i, i < n → f i = g i) : RowsI w wr P n vs g :=
  ⟨h.ge, h.blk, h.len, fun i hi => by rw [← e i hi]; exact h.own i hi, h.bel⟩
theorem RowsI.put {w wr : World} {P n : Nat} {vs : List Value} {f : Nat → List Int} (h : RowsI w wr P n vs f) (i : Nat) (hi : i < n) (v : Value) (xs : List Int) (g : Nat) (hg : P < g) (ho : Own wr g v xs) :
    RowsI w (wr.setCell ⟨P, i, none⟩ v) P n (vs.set i v) (fun j => if j = i then xs else f j) := by
  have h3 := h.len
  have hgr : wr.grownBy (wr.setCell ⟨P, i, none⟩ v) (some P) := grown_set P i v
  refine ⟨h.ge, h.blk.set (by omega) v, by simpa using h.len, fun j hj => ?_, h.bel.setCell (p := ⟨P, i, none⟩) h.ge v⟩
  by_cases e : j = i
  · subst e
    have : (vs.set j v).getD j undef = v := by simp [List.getD, h3, hi]
    rw [this, if_pos rfl]
    exact ⟨g, hg, ho.other hgr (fun _ => by omega)⟩
  · have : (vs.set i v).getD j undef = vs.getD j undef := by simp [List.getD, Ne.symm e]
    rw [this, if_neg e]
    obtain ⟨g', q1, q2⟩ := h.own j hj
    exact ⟨g', q1, q2.other hgr (fun _ => by omega)⟩
theorem RowsI.cell {w wr : World} {P n : Nat} {vs : List Value} {f : Nat → List Int} (h : RowsI w wr P n vs f) (i : Nat) (hi : i < n) : wr.cell? ⟨P, i, none⟩ = some (vs.getD i undef) := by
  have h3 := h.len
  rw [h.blk.cell i]
  simp [List.getD, h3, hi]
/-- a new row of zeros -/
theorem RowsI.zero {w wr : World} {P n : Nat} {vs : List Value} {f : Nat → List Int} (h : RowsI w wr P n vs f) (h1 : 1 ≤ n) (h4 : n ≤ 4) (i : Nat) (hi : i < n) :
    RowsI w ((wr.setCell ⟨P, i, none⟩ (.slice (some ⟨wr.heap.size, 0, none⟩) n n)).alloc (.cells (vi (List.replicate n (0:Int))).toArray 3)) P n (vs.set i (.slice (some ⟨wr.heap.size, 0, none⟩) n n)) (fun j => if j = i then List.replicate n 0 else f j) := by
  rw [← World.setCell_alloc_past _ P i _ h.lt]
  have hb : Below wr.heap.size wr (wr.alloc (.cells (vi (List.replicate n (0:Int))).toArray 3)) := (Below.refl _ _).alloc (Nat.le_refl _) _
  refine (h.below hb).put i hi _ _ wr.heap.size h.lt (blk_own (by simp) h1 h4 ?_)
  exact heap_alloc_new wr (.cells (vi (List.replicate n (0:Int))).toArray 3)
/-- all rows of a new block are nil -/
theorem RowsI.new (w : World) (n : Nat) : RowsI w (w.alloc (.cells (List.replicate n (Value.slice none 0 0)).toArray 29)) w.heap.size n (List.replicate n (Value.slice none 0 0)) (fun _ => []) :=
  ⟨Nat.le_refl _, by simpa using Blk.new w (List.replicate n (Value.slice none 0 0)).toArray 29, by simp, fun i hi => ⟨w.heap.size + 1, by omega, .inl ⟨none, 0, by simp [List.getD, hi], rfl⟩⟩, (Below.refl _ _).alloc (Nat.le_refl _) _⟩

theorem Try.infoIntS : (Try.prog.info? 29).map (fun i => (i.zero, i.size, i.bytes)) = some (some (.slice none 0 0), 1, 24) := by kernel_rfl
theorem made_nilI (n : Nat) : madeCells (Value.slice none 0 0).cells (n * 1) = (List.replicate n (Value.slice none 0 0)).toArray := by
  apply Array.ext
  · simp [size_madeCells]
  · intro i h1 h2
    simp [madeCells, Value.cells, Nat.mod_one]
theorem min_ok {xs ys : List Int} {n : Nat} (h1 : okB xs = true) (h2 : okB ys = true) (l1 : xs.length = n) (l2 : ys.length = n) : okB (List.zipWith mn xs ys) = true ∧ (List.zipWith mn xs ys).length = n ∧ spMin xs ys = List.zipWith mn xs ys := by
  have k1 := (okB_iff _).1 h1
  have k2 := (okB_iff _).1 h2
  refine ⟨?_, by simp; omega, by rw [spMin, if_pos (by simp [bothB, h1, h2, l1, l2])]⟩
  rw [okB_iff]
  refine ⟨by simp; omega, by simp; omega, fun x hx => ?_⟩
  obtain ⟨i, hi, rfl⟩ := List.getElem_of_mem hx
  have hi2 : i < xs.length ∧ i < ys.length := by have := hi; rw [List.length_zipWith] at this; omega
  rw [List.getElem_zipWith]
  have a1 := k1.2.2 _ (List.getElem_mem hi2.1)
  have a2 := k2.2.2 _ (List.getElem_mem hi2.2)
  unfold mn
  split <;> omega

set_option maxRecDepth 100000 in
set_option maxHeartbeats 6400000 in
theorem l9settled_any (v : Value) (ts : List ActT) (n : Nat) (w : World) (h : ActsT w v ts) (hs : setOkM (ts.map ActT.a) n = true) :
    Calls Try.prog 135 #[v, .int .i64 n] w (MadeI w (settledM (ts.map ActT.a) n)) := by
  obtain ⟨a, cap, rfl⟩ := actsT_len h
  obtain ⟨h1, h4, h60, hok⟩ := setOk_all hs
  have hn1 : 1 ≤ n := by omega
  have hn4 : n ≤ 4 := by omega
  have hl60 : ts.length ≤ 60 := by simpa using h60
  have KP := Lib.hid (fun p (hp : p < n) => known_parts hs hp)
  obtain ⟨R, hR⟩ : ∃ R, R = settledM (ts.map ActT.a) n := ⟨_, rfl⟩
  rw [← hR]
  rw [settledM, if_pos hs, Int.toNat_natCast] at hR
  have HR := Lib.hid hR
  have AT := Lib.hid (fun (h0 : 0 < ts.length) => actsT_at h h0)
  have HRd := Lib.hid h.1
  have OK := Lib.hid (fun t (ht : t ∈ ts) => ok_parts (hok t.a (List.mem_map_of_mem ht)))
  clear hR h hs hok h60
  obtain ⟨i0, hi, hz0, hz1, hz2⟩ := info_parts Try.infoIntS
  have hmk : (Instr.makeSlice 181 (.int .i64 (n : Int)) (.int .i64 (n : Int))).run Try.prog w = .ok (.slice (some ⟨w.heap.size, 0, none⟩) n n) (w.alloc (.cells (List.replicate n (Value.slice none 0 0)).toArray 29)) := by
    have h := run_make (P := Try.prog) w 181 29 i0 (.slice none 0 0) Try.underlying181 hi hz0 .i64 .i64 n n (by omega) (by omega) (by rw [hz2]; omega) (by omega)
    rw [hz1] at h
    simp only [Int.toNat_natCast] at h
    rw [made_nilI] at h
    exact h
  clear hi hz0 hz1 hz2 i0
  obtain ⟨i0, hi, hz0, hz1, hz2⟩ := info_parts Try.info3
  have hmk2 : ∀ w : World, (Instr.makeSlice 29 (.int .i64 (n : Int)) (.int .i64 (n : Int))).run Try.prog w = .ok (.slice (some ⟨w.heap.size, 0, none⟩) n n) (w.alloc (.cells (vi (List.replicate n (0:Int))).toArray 3)) := by
    intro w
    have h := run_make (P := Try.prog) w 29 3 i0 (.int .i64 0) Try.underlying29 hi hz0 .i64 .i64 n n (by omega) (by omega) (by rw [hz2]; omega) (by omega)
    rw [hz1] at h
    simp only [Int.toNat_natCast] at h
    rw [made] at h
    exact h
  have R0 := RowsI.new w n
  obtain ⟨P, hP⟩ : ∃ P, P = w.heap.size := ⟨_, rfl⟩
  obtain ⟨W0, hW0⟩ : ∃ W0, W0 = w.alloc (.cells (List.replicate n (Value.slice none 0 0)).toArray 29) := ⟨_, rfl⟩
  rw [← hW0] at hmk R0
  rw [← hP] at hmk R0
  have R0 := Lib.hid R0
  have HPs := Lib.hid hP
  clear hW0 hP
  go_enter Try.func135, Try.ntmps135
  go_wp2_with fail
  go_loopw [6] (fun i wr => ∃ (j : Nat) (vs : List Value), j ≤ n ∧ i = .int .i64 j ∧ Hid (RowsI w wr P n vs (fun p => if p < j then List.replicate n 0 else []))) (fun i _ => n - (intOf i).toNat)
  case atStart => exact ⟨0, _, Nat.zero_le _, rfl, R0.out.congr (fun i _ => by simp)⟩
  case round =>
    obtain ⟨j, vs, hj, rfl, hr⟩ := hrel
    clear R0 hmk
    by_cases hlt : j < n
    · have RN := Lib.hid ((hr.out.zero hn1 hn4 j hlt).congr (g := fun p => if p < j + 1 then List.replicate n 0 else []) (fun i _ => by
        by_cases e : i = j
        · simp [e]
        · simp only [e, if_false]
          by_cases e2 : i < j
          · rw [if_pos e2, if_pos (by omega)]
          · rw [if_neg e2, if_neg (by omega)]))
      have i0 : (0 : Int) ≤ j := by omega
      have i1 : (j : Int) < n := by omega
      have plt := hr.out.lt
      have pcell := hr.out.cell j hlt
      have pfree := hr.out.blk.free j
      go_wp2_with fail
      go_roundw
      case rel => exact ⟨j + 1, _, by omega, by go_num, RN.out⟩
      case measure => simp [intOf]; omega
    · have hjn : j = n := by omega
      subst hjn
      have RZ := Lib.hid (hr.out.congr (g := fun p => knownM ((ts.map ActT.a).take 0) j p) (fun i hi => by rw [if_pos hi, List.take_zero, knownM_nil]))
      clear hr hlt hmk2
      obtain ⟨K, hK⟩ : ∃ K, K = ts.length := ⟨_, rfl⟩
      rw [← hK] at hl60 AT ⊢
      have HK := Lib.hid hK
      clear hK
      go_wp2_with fail
      go_loopw [7] (fun i wr => ∃ (k : Nat) (vs : List Value), k ≤ K ∧ i = .int .i64 k ∧ Hid (RowsI w wr P j vs (fun p => knownM ((ts.map ActT.a).take k) j p))) (fun i _ => K - (intOf i).toNat)
      case atStart => exact ⟨0, _, Nat.zero_le _, rfl, RZ.out⟩
      case round =>
        obtain ⟨k, vs, hk, rfl, hr⟩ := hrel
        clear RZ
        by_cases hlt : k < K
        · have h0 : 0 < K := by omega
          have hlt2 : k < ts.length := by rw [← HK.out]; exact hlt
          obtain ⟨hu, b, off, ha, hb, hc⟩ := AT.out h0
          subst ha
          have hm := getD_mem hlt2
          have AT1 := Lib.hid ((hc k hlt).below hr.out.bel hb)
          have HT := Lib.hid ((HRd.out _ hm).below hr.out.bel)
          have hok := OK.out _ hm
          have htk : (ts.map ActT.a).take (k + 1) = (ts.map ActT.a).take k ++ [(ts.getD k t0).a] := by rw [take_snocS _ _ (by simpa using hlt2), getD_map hlt2]
          obtain ⟨t, htt⟩ : ∃ t, t = ts.getD k t0 := ⟨_, rfl⟩
          rw [← htt] at AT1 HT hok htk
          obtain ⟨q, hq⟩ := Int.eq_ofNat_of_zero_le hok.1
          have hq2 : q < j := by omega
          have hdl := hok.2.2
          have KN := Lib.hid (fun i => (show knownM ((ts.map ActT.a).take (k + 1)) j i = if i = q then t.a.dep.set q t.a.n else knownM ((ts.map ActT.a).take k) j i by
            rw [htk, knownM_snoc, hq]
            by_cases e : i = q
            · subst e; simp
            · rw [if_neg (by omega), if_neg e]))
          clear htt hm hok htk hc hu
          obtain ⟨⟨r, nn, dep, actor, kind, dst, bucket, mask, gr, gn, ups⟩, vd, vs'⟩ := t
          simp only at hq hdl KN
          have hsd := ints_len HT.out.1
          simp only at hsd
          obtain ⟨da, dc, rfl⟩ := hsd
          subst hq
          have HDI := Lib.hid HT.out.1
          simp only at HDI
          rw [hdl] at HDI AT1 HT
          have HDL := Lib.hid hdl
          clear hdl HT
          have c0 := AT1.out.c0
          have c1 := AT1.out.c1
          have c2 := AT1.out.c2
          simp only at c0 c1 c2
          have e0 : (0 : Int) ≤ (k : Int) := by omega
          have e1 : (k : Int) < (K : Int) := by omega
          have blt : b < wr.heap.size := Nat.lt_of_lt_of_le hb hr.out.bel.size
          have O0 := Lib.hid (World.ownsRow_lit (size := 1) (e := 3) (base := wr.heap.size) wr #[] 0 (Nat.le_refl _) (by unfold maxLen; omega) rfl)
          have B1 := Lib.hid ((Below.refl wr.heap.size wr).alloc (Nat.le_refl _) (.cells #[] 3))
          go_wp2_with (at_builtin; refine wpList_app rfl (.tmp 29) (.tmp 34) 29 rfl wr.heap.size 3 i0 (.int .i64 0) 1 8 Try.underlying29 hi hz0 hz1 hz2 rfl (by decide) _ (.slice da j dc) 0 j [] (vi dep) rfl rfl O0.out (by have := src_ints (HDI.out.below (B := 0) B1.out); rw [HDL.out] at this; exact this) (vi_one dep) (by unfold maxLen; omega) (by omega) (by simp) ?_)
          intro v1 w1 hown1 hgrow1 _
          try simp only [Nat.zero_add, List.nil_append] at hown1
          have G1 : (wr.alloc (.cells #[] 3)).grownBy w1 (some wr.heap.size) := hgrow1
          have B2 := Lib.hid (B1.out.grown G1 B1.out.size (fun k hk => by cases hk; exact Nat.le_refl _))
          obtain ⟨g, hg, hO⟩ := own_of_row HDL.out hown1
          obtain ⟨c1', hv1, ho1⟩ := own_open hO (by rw [HDL.out]; omega)
          rw [HDL.out] at hv1 ho1
          subst hv1
          have HO := Lib.hid ho1
          have HG := Lib.hid hg
          clear hgrow1 G1 hown1 hO hg c0 c1 c2 ho1
          have AT2 := Lib.hid (AT1.out.below B2.out (Nat.lt_of_lt_of_le hb hr.out.bel.size))
          have c0 := AT2.out.c0
          have c1 := AT2.out.c1
          have c2 := AT2.out.c2
          simp only at c0 c1 c2
          have f1 := HO.out.frozenAt q
          have g1 : w1.cell? ⟨g, q, none⟩ = some (.int .i64 (dep.getD q 0)) := (HO.out.cellAt q (by omega)).trans (by have := HDL.out; simp [vi, List.getD, show q < dep.length by omega])
          have j0 : (0 : Int) ≤ (q : Int) := by omega
          have j1 : (q : Int) < (j : Int) := by omega
          have SO := (HO.out.stored q (.int .i64 nn)).1
          have B3 := Lib.hid ((B2.out.setCell (p := ⟨g, q, none⟩) HG.out (.int .i64 nn)).drew)
          go_wp2_with fail
          refine wp_region_still_tail 12 (by kernel_rfl) (by kernel_rfl) ?_
          simp only [List.take_succ_cons, List.take_zero, List.drop_succ_cons, List.drop_zero]
          change wpStill _ _ w1.drew _ _ _
          repeat still_step
          refine wpStill_nil ?_
          change wpList _ _ _ _ _ w1.drew
          go_upto_region 11 with (fail)
          clear c0 c1 c2 f1 g1 j0 j1
          obtain ⟨w2, hw2⟩ : ∃ W, W = (w1.setCell ⟨g, q, none⟩ (.int .i64 nn)).drew := ⟨_, rfl⟩
          have SO2 : Own w2 g (.slice (some ⟨g, 0, none⟩) j c1') (dep.set q nn) := by
            rw [hw2]
            refine own_new (B := g) (by simp [HDL.out]) ?_
            have e : (vi dep).set q (.int .i64 nn) = vi (dep.set q nn) := by simp [vi, List.map_set]
            rw [e] at SO
            exact SO
          rw [← hw2] at B3 ⊢
          have hPg : P < g := Nat.lt_of_lt_of_le hr.out.lt HG.out
          have R2 := hr.out.below B3.out
          have RP := Lib.hid ((R2.put q hq2 _ _ g hPg SO2).congr (g := fun p => knownM ((ts.map ActT.a).take (k + 1)) j p) (fun i _ => by rw [KN.out i]))
          have AT3 := Lib.hid (AT1.out.below B3.out (Nat.lt_of_lt_of_le hb hr.out.bel.size))
          have c0 := AT3.out.c0
          simp only at c0
          have plt := R2.lt
          have pcell := R2.cell q hq2
          have pfree := R2.blk.free q
          have q0 : (0 : Int) ≤ (q : Int) := by omega
          have q1 : (q : Int) < (j : Int) := by omega
          clear hw2 SO SO2 R2 AT1 AT2 B1 B2 O0 HO
          go_wp2_with fail
          go_roundw
          case rel => exact ⟨k + 1, _, by omega, by go_num, RP.out⟩
          case measure => simp [intOf]; omega
        · have hkK : k = K := by omega
          have R3 := hr.out.congr (g := fun p => knownM (ts.map ActT.a) j p) (fun i _ => by rw [List.take_of_length_le (by simp; have := HK.out; omega)])
          obtain ⟨g0, hg0, ho0⟩ := R3.own 0 (by omega)
          have cell0 := R3.cell 0 (by omega)
          have n0 : (0 : Int) < (j : Int) := by omega
          obtain ⟨u0, hu0⟩ : ∃ u, u = vs.getD 0 undef := ⟨_, rfl⟩
          rw [← hu0] at ho0 cell0
          have G0 := Lib.hid (show w.heap.size ≤ g0 from Nat.le_of_lt (Nat.lt_of_le_of_lt R3.ge hg0))
          have O0 := Lib.hid ho0
          have K0 := Lib.hid (KP.out 0 (by omega))
          have R3 := Lib.hid R3
          subst hkK
          clear hr hu0 hg0 ho0 hlt
          go_wp2_with fail
          go_loopw [9, 10] (fun o i wr => ∃ (x g : Nat) (X : List Int), 1 ≤ x ∧ x ≤ j ∧ i = .int .i64 x ∧ Hid (w.heap.size ≤ g) ∧ Hid (Own wr g o X) ∧ Hid (okB X = true ∧ X.length = j) ∧ Hid (R = (List.range' x (j - x)).foldl (fun out q => List.zipWith mn out (knownM (ts.map ActT.a) j q)) X) ∧ Hid (RowsI w wr P j vs (fun p => knownM (ts.map ActT.a) j p))) (fun _ i _ => j - (intOf i).toNat)
          case atStart => exact ⟨1, g0, _, Nat.le_refl _, by omega, rfl, G0.out, O0.out, ⟨K0.out.1, K0.out.2.1⟩, HR.out, R3.out⟩
          case round =>
            obtain ⟨x, g, X, hx1, hxj, rfl, hg, ho, hx, hR, hrr⟩ := hrel
            clear O0 G0 K0 R3 HR cell0
            by_cases hlt : x < j
            · obtain ⟨g2, hg2, ho2⟩ := hrr.out.own x hlt
              have pcell := hrr.out.cell x hlt
              obtain ⟨u2, hu2⟩ : ∃ u, u = vs.getD x undef := ⟨_, rfl⟩
              rw [← hu2] at ho2 pcell
              have kx := KP.out x hlt
              obtain ⟨m1, m2, m3⟩ := min_ok hx.out.1 kx.1 hx.out.2 kx.2.1
              have hst := hR.out
              rw [show j - x = (j - (x + 1)) + 1 from by omega, List.range'_succ, List.foldl_cons] at hst
              have MIN := Lib.hid (specMin_any _ _ X (knownM (ts.map ActT.a) j x) _ (own_ints ho.out) (own_ints ho2))
              rw [m3] at MIN
              have HST := Lib.hid hst
              have MM := Lib.hid (And.intro m1 m2)
              obtain ⟨Z, hZ⟩ : ∃ Z, Z = List.zipWith mn X (knownM (ts.map ActT.a) j x) := ⟨_, rfl⟩
              rw [← hZ] at MIN MM HST
              have x0 : (0 : Int) ≤ (x : Int) := by omega
              have x1 : (x : Int) < (j : Int) := by omega
              clear hst hZ m1 m2 m3 kx hu2 hg2 ho2
              go_wp2_with fail
              refine MIN.out.mono ?_
              rintro e w3 ⟨g3, u3, rfl, hg3, ho3, b3⟩
              have O3 := Lib.hid ho3
              have R4 := Lib.hid (hrr.out.below b3)
              have G3 := Lib.hid (Nat.le_trans hrr.out.bel.size hg3)
              clear ho3 b3 hg3
              go_wp2_with fail
              go_roundw
              case rel => exact ⟨x + 1, g3, Z, by omega, by omega, by go_num, G3.out, O3.out, MM.out, HST.out, R4.out⟩
              case measure => simp [intOf]; omega
            · have hxj2 : x = j := by omega
              have HF := Lib.hid (show R = X by rw [hR.out, hxj2, Nat.sub_self]; rfl)
              clear hlt
              go_wp2_with fail
              go_ret
              exact ⟨g, _, rfl, hg.out, by rw [HF.out]; exact ho.out, hrr.out.bel⟩

set_option maxRecDepth 100000 in
set_option maxHeartbeats 1600000 in
theorem specSettled_any (v : Value) (l : List ActM) (n : Int) (w : World) (h : Acts w v l) (hn : I64 n) :
    Calls Try.prog 79 #[v, .int .i64 n] w (MadeI w (settledM l n)) := by
  obtain ⟨ts, rfl, ht⟩ := h
  have SO := Lib.hid (setOk_any v (ts.map ActT.a) n w ⟨ts, rfl, ht⟩ hn)
  obtain ⟨a, cap, rfl⟩ := actsT_len ht
  have HT := Lib.hid ht
  cases hs : setOkM (ts.map ActT.a) n
  · rw [show settledM (ts.map ActT.a) n = [] from if_neg (by rw [hs]; decide)]
    have HS := Lib.hid hs
    clear hs ht
    rw [HS.out] at SO
    go_enter Try.func79, Try.ntmps79
    go_wp2_with fail
    refine SO.out.mono ?_
    rintro e w1 ⟨rfl, b1⟩
    have B1 := Lib.hid b1
    clear b1
    go_wp2_with fail
    go_ret
    exact ⟨w.heap.size, _, rfl, Nat.le_refl _, .inl ⟨_, _, rfl, rfl⟩, B1.out⟩
  · obtain ⟨m, rfl, h1, h4, h60, hr⟩ := setOk_bounds hs
    have L9 := Lib.hid (fun W (hW : Below w.heap.size w W) => l9settled_any _ ts m W (HT.out.below hW) hs)
    have HS := Lib.hid hs
    rw [hs] at SO
    unfold MadeI at L9 ⊢
    obtain ⟨X, hX⟩ : ∃ X, X = settledM (ts.map ActT.a) m := ⟨_, rfl⟩
    rw [← hX] at L9 ⊢
    clear hs ht hr hX
    generalize ts.length = K at *
    go_enter Try.func79, Try.ntmps79
    go_wp2_with fail
    refine SO.out.mono ?_
    rintro e w1 ⟨rfl, b1⟩
    have B1 := Lib.hid b1
    clear b1
    go_wp2_with fail
    refine (L9.out _ B1.out).mono ?_
    rintro e w2 ⟨g, v, rfl, hg, ho, b2⟩
    have B2 := Lib.hid (B1.out.trans (b2.mono B1.out.size))
    have HG := Lib.hid (Nat.le_trans B1.out.size hg)
    have HO := Lib.hid ho
    clear b2 hg ho
    go_wp2_with fail
    go_ret
    exact ⟨g, _, rfl, HG.out, HO.out, B2.out⟩
end Go.Proofs.Ytjjgigoehgabkaa
