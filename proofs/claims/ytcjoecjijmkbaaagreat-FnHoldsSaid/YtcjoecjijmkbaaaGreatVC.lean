/- An eye (l4eye), DrawHolds. -/
import Derived.Test.YtcjoecjijmkbaaaGreatRH
import Derived.Test.YtcjoecjijmkbaaaGreatS
import Derived.Test.YtcjoecjijmkbaaaGreatDB
import Derived.Test.YtcjoecjijmkbaaaGreatKA
import Derived.Test.YtcjoecjijmkbaaaGreatTG
import Derived.Deep.DeepCutAuto

namespace Go.Proofs.YtcjoecjijmkbaaaGreat
open Go.RowKit
set_option linter.unusedVariables false
set_option linter.unusedSimpArgs false
/-- ints that read the same whatever is written into the blocks X -/
def FarI (w : World) (X : Nat → Prop) (v : Value) (xs : List Int) : Prop := ∀ W : World, (∀ k, ¬ X k → k < w.heap.size → W.heap[k]? = w.heap[k]?) → w.heap.size ≤ W.heap.size → Ints W v xs
theorem FarI.now {w : World} {X : Nat → Prop} {v : Value} {xs : List Int} (h : FarI w X v xs) : Ints w v xs := h w (fun _ _ _ => rfl) (Nat.le_refl _)
theorem FarI.step {w w' : World} {X : Nat → Prop} {v : Value} {xs : List Int} (h : FarI w X v xs) (hk : ∀ k, ¬ X k → k < w.heap.size → w'.heap[k]? = w.heap[k]?) (hs : w.heap.size ≤ w'.heap.size) : FarI w' X v xs :=
  fun W h1 h2 => h W (fun k hx hl => (h1 k hx (Nat.lt_of_lt_of_le hl hs)).trans (hk k hx hl)) (Nat.le_trans hs h2)
theorem FarI.grown {w w' : World} {X : Nat → Prop} {g : Nat} {v : Value} {xs : List Int} (h : FarI w X v xs) (hg : w.grownBy w' (some g)) (hx : X g) : FarI w' X v xs :=
  h.step (fun k hk hl => hg.block k hl (fun e => hk (by cases e; exact hx))) hg.size
theorem FarI.mono {w : World} {X Y : Nat → Prop} {v : Value} {xs : List Int} (h : FarI w X v xs) (hy : ∀ k, Y k → X k) : FarI w Y v xs := fun W h1 h2 => h W (fun k hk hl => h1 k (fun hh => hk (hy k hh)) hl) h2
theorem farI_own {w : World} {X : Nat → Prop} {bs : List Nat} {v : Value} {xs : List Int} (h : OwnI w bs v xs) (hb : ∀ b ∈ bs, ¬ X b) : FarI w X v xs :=
  fun W h1 h2 => (h.keep fun b hm => h1 b (hb b hm) (h.lt b hm)).ints
theorem farI_own1 {w : World} {X : Nat → Prop} {g : Nat} {v : Value} {xs : List Int} (h : Own w g v xs) (hb : ¬ X g) : FarI w X v xs :=
  fun W h1 h2 => own_ints (h.block fun hp => h1 g hb (own_lt h hp))
/-- an eye, by a call that writes into the cursor alone -/
def DrawnE (w : World) (B s : Nat) (e : Ending) (w' : World) : Prop := ∃ (er en : Int) (v : Value) (xs : List Int), e = .returned (.agg #[.int .i64 er, .int .i64 en, v]) ∧ FarI w' (fun k => k < s) v xs ∧ Cur w' B ∧ w.grownBy w' (some B)
set_option maxRecDepth 100000 in
set_option maxHeartbeats 12800000 in
theorem l4eye_any (B s n : Nat) (v : Value) (ts : List ActT) (w : World) (h : Cur w B) (h1 : StillT w s v ts) (hBs : B < s) (hs : s ≤ w.heap.size) (hsm : SmallL (ts.map ActT.a)) (hl : ts.length ≤ 61) (hn : n ≤ 5) : Calls Tryz.prog 27 #[.pointer (some ⟨B, 0, none⟩), v, .int .i64 n] w (DrawnE w B s) := by
  obtain ⟨x, c, rfl⟩ := actsT_len h1.now
  obtain ⟨m, hmm⟩ : ∃ m, m = ts.length := ⟨_, rfl⟩
  rw [← hmm] at h1 ⊢
  have HM := Lib.hid hmm
  have hm61 : m ≤ 61 := by omega
  have hst := Lib.hid h1
  have SM := Lib.hid hsm
  obtain ⟨R, hR⟩ : ∃ R, R = w.heap.size := ⟨_, rfl⟩
  obtain ⟨W0, hW0⟩ : ∃ W0, W0 = w.alloc (.cells #[.int .i64 0, .int .i64 0, .slice none 0 0] 26) := ⟨_, rfl⟩
  have X0 := Lib.hid (show LX w B W0 from by rw [hW0]; exact (show LX w B w from ⟨by omega, h, grown_refl _ _⟩).alloc _)
  have KR0 := Lib.hid (show Blk W0 R _ from by rw [hW0, hR]; exact Blk.new w _ _)
  have HR := Lib.hid hR
  clear h h1 hsm hmm hl
  go_enter Tryz.func27, Tryz.ntmps27
  go_upto_region 1 with (fail)
  rw [← hR, ← hW0]
  clear hW0 hR
  by_cases hp : 0 < m
  · have hpi : (0 : Int) < (m : Int) := by omega
    go_wp2_with fail
    refine (once_any B 3 _ X0.out.cu (by omega)).mono ?_
    rintro e w1 ⟨b, rfl, hc, hg⟩
    have X1 := Lib.hid (X0.out.call hc hg)
    have KR1 := Lib.hid (KR0.out.grown hg (by have := X0.out.bl; have := HR.out; omega))
    clear hc hg X0 KR0
    cases b
    · go_wp2_with fail
      refine (below_any B m _ X1.out.cu (by omega)).mono ?_
      rintro e w2 ⟨y, rfl, y0, _, y2, hc, hg⟩
      have hy := y2 (by omega)
      obtain ⟨i, rfl⟩ := Int.eq_ofNat_of_zero_le y0
      have X2 := Lib.hid (X1.out.call hc hg)
      have KR2 := Lib.hid (KR1.out.grown hg (by have := X1.out.bl; have := HR.out; omega))
      have hit : i < m := by omega
      obtain ⟨g, off, rfl⟩ : ∃ g off, x = some ⟨g, off, none⟩ := by
        obtain ⟨_, b, o, e, _⟩ := actsT_at hst.out.now hp
        exact ⟨b, o, e⟩
      have S2 := hst.out.cur X2.out.g hBs
      have at_ := S2.at i hit
      have rd := S2.now.1 _ (getD_mem (ts := ts) (i := i) (by have := HM.out; omega))
      have sm := SM.out.2 _ (List.mem_map.2 ⟨_, getD_mem (ts := ts) (i := i) (by have := HM.out; omega), rfl⟩)
      clear hc hg y2 y0 X1 KR1 S2
      generalize ts.getD i t0 = T at at_ rd sm
      have CF := Lib.hid (specEyeOf2 T.val T.a w2 rd.is sm)
      obtain ⟨xt, mt, yt, ut, kt, zt, hdt, hstt⟩ := slice_of rd
      obtain ⟨⟨q0, q1, q2, q3, q4, q5, q6, q7, q8, q9, q10⟩, vdt, vst⟩ := T
      simp only at hdt hstt
      subst hdt hstt
      have i0 : (0 : Int) ≤ (i : Int) := by omega
      have i1 : (i : Int) < (m : Int) := by omega
      obtain ⟨c0, c1, c2, c3, c4, c5, c6, c7, c8, c9, c10⟩ := at_
      simp only at c0 c1 c2 c3 c4 c5 c6 c7 c8 c9 c10
      simp only [ActT.val] at CF
      clear rd sm
      go_wp2_with fail
      refine CF.out.mono ?_
      rintro e w3 ⟨v3, bs3, rfl, ho3, hg3, hb3⟩
      have X3 := Lib.hid (X2.out.below hb3)
      have KR3 := Lib.hid (KR2.out.below hb3 KR2.out.lt)
      obtain ⟨a3, c3', hv3⟩ := ints_len ho3.ints
      have F3 := Lib.hid (farI_own (X := fun k => k < s ∨ k = R) ho3 (fun b hb => by
        have h1 := hg3 b hb
        have h3 := X2.out.g.size
        have h4 := KR2.out.lt
        simp only [not_or]
        refine ⟨by omega, by omega⟩))
      generalize q2.length = k3 at hv3
      subst hv3
      clear ho3 hg3 hb3 CF c0 c1 c2 c3 c4 c5 c6 c7 c8 c9 c10 X2 KR2
      have d := KR3.out.cell
      have f := KR3.out.free
      have FN : Hid (DrawnE w B s (.returned (.agg #[.int .i64 q0, .int .i64 q1, .slice a3 k3 c3'])) (((w3.setCell ⟨R, 0, none⟩ (.int .i64 q0)).setCell ⟨R, 1, none⟩ (.int .i64 q1)).setCell ⟨R, 2, none⟩ (.slice a3 k3 c3'))) := by
        have x1 := X3.out.far (grown_set (w := w3) R 0 (.int .i64 q0)) (by rw [HR.out]; exact Nat.le_refl _)
        have x2 := x1.far (grown_set R 1 (.int .i64 q1)) (by rw [HR.out]; exact Nat.le_refl _)
        have x3 := x2.far (grown_set R 2 (.slice a3 k3 c3')) (by rw [HR.out]; exact Nat.le_refl _)
        exact ⟨_, _, _, _, rfl, (((F3.out.grown (grown_set R 0 _) (.inr rfl)).grown (grown_set R 1 _) (.inr rfl)).grown (grown_set R 2 _) (.inr rfl)).mono (fun k hk => .inl hk), x3.cu, x3.g⟩
      clear KR3 F3 X3
      go_wp2_with fail
      exact bodyPost_ret (v := .agg #[.int .i64 q0, .int .i64 q1, .slice a3 k3 c3']) (by simp [results, Tryz.results27, go_sem, d]) rfl FN.out
    · go_wp2_with fail
      refine (specEyeNow2 (.slice x m c) (ts.map ActT.a) n w1 ⟨ts, rfl, (hst.out.cur X1.out.g hBs).now⟩ (by constructor <;> omega)).mono ?_
      rintro e w2 ⟨v2, bs2, rfl, ho2, hg2, hb2⟩
      have X2 := Lib.hid (X1.out.below hb2)
      have KR2 := Lib.hid (KR1.out.below hb2 KR1.out.lt)
      obtain ⟨a2, c2, hv2⟩ := ints_len ho2.ints
      generalize (clockOfM (ts.map ActT.a) n) = xs at ho2 hv2
      generalize hk2 : xs.length = k2 at hv2
      subst hv2
      obtain ⟨P, hP⟩ : ∃ P, P = w2.heap.size := ⟨_, rfl⟩
      obtain ⟨W3, hW3⟩ : ∃ V, V = w2.alloc (.cells #[.int .i64 (-1), .int .i64 0, .slice a2 k2 c2] 26) := ⟨_, rfl⟩
      have X3 := Lib.hid (show LX w B W3 from by rw [hW3]; exact X2.out.alloc _)
      have KR3 := Lib.hid (show Blk W3 R _ from by rw [hW3]; exact KR2.out.alloc _)
      have KP3 := Lib.hid (show Blk W3 P _ from by rw [hW3, hP]; exact Blk.new w2 _ _)
      have hPw : w.heap.size ≤ P := by rw [hP]; exact X2.out.g.size
      have hPR : P ≠ R := by have := KR2.out.lt; omega
      have hPB : P ≠ B := by have := X2.out.bl; omega
      have F3 := Lib.hid (show FarI W3 (fun k => k < s ∨ k = R ∨ k = P) (.slice a2 k2 c2) xs from by
        have h0 := farI_own (X := fun k => k < s ∨ k = R ∨ k = P) ho2 (fun b hb => by
          have h1 := hg2 b hb
          have h2 := ho2.lt b hb
          have h4 := KR1.out.lt
          have h5 := X1.out.g.size
          simp only [not_or]
          refine ⟨by omega, by omega, by omega⟩)
        rw [hW3]
        exact h0.step (fun k _ hk => Below.heap_alloc _ _ _ hk) (by simp))
      clear hk2
      go_upto_region 4 with (fail)
      rw [← hP, ← hW3]
      clear hW3 hP ho2 hg2 hb2 X2 KR2 X1 KR1
      go_wp2_with fail
      refine (below_any B 8 _ X3.out.cu (by omega)).mono ?_
      rintro e w4 ⟨y, rfl, y0, _, y2, hc, hg⟩
      have X4 := Lib.hid (X3.out.call hc hg)
      have KR4 := Lib.hid (KR3.out.grown hg (by have := X3.out.bl; have := HR.out; omega))
      have KP4 := Lib.hid (KP3.out.grown hg (by omega))
      have F4 := Lib.hid (F3.out.grown hg (.inl hBs))
      obtain ⟨kk, rfl⟩ := Int.eq_ofNat_of_zero_le y0
      clear hc hg y2 y0 X3 KR3 KP3 F3
      by_cases hk : kk ≤ 2
      · have hcs : kk = 0 ∨ kk = 1 ∨ kk = 2 := by omega
        clear hk
        rcases hcs with rfl | rfl | rfl
        · go_wp2_with fail
          refine (pick_lit B w4.heap.size _ [-2, 0, 3, 4] 4 _ rfl rfl rfl X4.out.cu (by omega) (by omega)).mono ?_
          rintro e w5 ⟨y, rfl, _, hc, hg⟩
          have X5 := Lib.hid (X4.out.call hc hg)
          have KR5 := Lib.hid (KR4.out.grown hg (by have := X4.out.bl; have := HR.out; omega))
          have KP5 := Lib.hid (KP4.out.grown hg (by omega))
          have F5 := Lib.hid (F4.out.grown hg (.inl hBs))
          clear hc hg X4 KR4 KP4 F4
          have c := KP5.out.cell
          have f := KP5.out.free
          go_upto_region 12 with (fail)
          obtain ⟨W6, hW6⟩ : ∃ V, V = w5.setCell ⟨P, 0, none⟩ (.int .i64 y) := ⟨_, rfl⟩
          have X6 := Lib.hid (show LX w B W6 from by rw [hW6]; exact X5.out.far (grown_set P 0 _) hPw)
          have KR6 := Lib.hid (show Blk W6 R _ from by rw [hW6]; exact KR5.out.other (by simp; omega) _)
          have KP6 := Lib.hid (show Blk W6 P [.int .i64 y, .int .i64 0, .slice a2 k2 c2] from by rw [hW6]; exact KP5.out.set (j := 0) (by simp) _)
          have F6 := Lib.hid (show FarI W6 _ _ xs from by rw [hW6]; exact F5.out.grown (grown_set P 0 _) (.inr (.inr rfl)))
          rw [← hW6]
          clear hW6 c f X5 KR5 KP5 F5
          have c := KP6.out.cell
          have d := KR6.out.cell
          have f := KR6.out.free
          have FN : Hid (DrawnE w B s (.returned (.agg #[.int .i64 y, .int .i64 0, .slice a2 k2 c2])) (((W6.setCell ⟨R, 0, none⟩ (.int .i64 y)).setCell ⟨R, 1, none⟩ (.int .i64 0)).setCell ⟨R, 2, none⟩ (.slice a2 k2 c2))) := by
            have x1 := X6.out.far (grown_set (w := W6) R 0 (.int .i64 y)) (by rw [HR.out]; exact Nat.le_refl _)
            have x2 := x1.far (grown_set R 1 (.int .i64 0)) (by rw [HR.out]; exact Nat.le_refl _)
            have x3 := x2.far (grown_set R 2 (.slice a2 k2 c2)) (by rw [HR.out]; exact Nat.le_refl _)
            exact ⟨_, _, _, _, rfl, (((F6.out.grown (grown_set R 0 _) (.inr (.inl rfl))).grown (grown_set R 1 _) (.inr (.inl rfl))).grown (grown_set R 2 _) (.inr (.inl rfl))).mono (fun k hk => .inl hk), x3.cu, x3.g⟩
          clear KR6 F6 X6
          go_wp2_with fail
          exact bodyPost_ret (v := .agg #[.int .i64 y, .int .i64 0, .slice a2 k2 c2]) (by simp [results, Tryz.results27, go_sem, d]) rfl FN.out
        · go_wp2_with fail
          refine (clock_any B n _ X4.out.cu (by omega)).mono ?_
          rintro e w5 ⟨g5, v5, ys, rfl, ho5, hg5, _, _, hc, hg⟩
          have X5 := Lib.hid (X4.out.call hc hg)
          have KR5 := Lib.hid (KR4.out.grown hg (by have := X4.out.bl; have := HR.out; omega))
          have KP5 := Lib.hid (KP4.out.grown hg (by omega))
          obtain ⟨a5, c5, hv5⟩ := ints_len (own_ints ho5)
          have F5 := Lib.hid (farI_own1 (X := fun k => k < s ∨ k = R ∨ k = P) ho5 (by
            have h1 := KP4.out.lt
            have h2 := KR4.out.lt
            have h3 := X4.out.g.size
            simp only [not_or]
            refine ⟨by omega, by omega, by omega⟩))
          generalize ys.length = k5 at hv5
          subst hv5
          clear hc hg X4 KR4 KP4 F4 ho5 hg5
          have c := KP5.out.cell
          have f := KP5.out.free
          go_upto_region 12 with (fail)
          obtain ⟨W6, hW6⟩ : ∃ V, V = w5.setCell ⟨P, 2, none⟩ (.slice a5 k5 c5) := ⟨_, rfl⟩
          have X6 := Lib.hid (show LX w B W6 from by rw [hW6]; exact X5.out.far (grown_set P 2 _) hPw)
          have KR6 := Lib.hid (show Blk W6 R _ from by rw [hW6]; exact KR5.out.other (by simp; omega) _)
          have KP6 := Lib.hid (show Blk W6 P [.int .i64 (-1), .int .i64 0, .slice a5 k5 c5] from by rw [hW6]; exact KP5.out.set (j := 2) (by simp) _)
          have F6 := Lib.hid (show FarI W6 _ _ ys from by rw [hW6]; exact F5.out.grown (grown_set P 2 _) (.inr (.inr rfl)))
          rw [← hW6]
          clear hW6 c f X5 KR5 KP5 F5
          have c := KP6.out.cell
          have d := KR6.out.cell
          have f := KR6.out.free
          have FN : Hid (DrawnE w B s (.returned (.agg #[.int .i64 (-1), .int .i64 0, .slice a5 k5 c5])) (((W6.setCell ⟨R, 0, none⟩ (.int .i64 (-1))).setCell ⟨R, 1, none⟩ (.int .i64 0)).setCell ⟨R, 2, none⟩ (.slice a5 k5 c5))) := by
            have x1 := X6.out.far (grown_set (w := W6) R 0 (.int .i64 (-1))) (by rw [HR.out]; exact Nat.le_refl _)
            have x2 := x1.far (grown_set R 1 (.int .i64 0)) (by rw [HR.out]; exact Nat.le_refl _)
            have x3 := x2.far (grown_set R 2 (.slice a5 k5 c5)) (by rw [HR.out]; exact Nat.le_refl _)
            exact ⟨_, _, _, _, rfl, (((F6.out.grown (grown_set R 0 _) (.inr (.inl rfl))).grown (grown_set R 1 _) (.inr (.inl rfl))).grown (grown_set R 2 _) (.inr (.inl rfl))).mono (fun k hk => .inl hk), x3.cu, x3.g⟩
          clear KR6 F6 X6
          go_wp2_with fail
          exact bodyPost_ret (v := .agg #[.int .i64 (-1), .int .i64 0, .slice a5 k5 c5]) (by simp [results, Tryz.results27, go_sem, d]) rfl FN.out
        · have c := KP4.out.cell
          have f := KP4.out.free
          go_upto_region 12 with (fail)
          obtain ⟨W6, hW6⟩ : ∃ V, V = (w4.setCell ⟨P, 1, none⟩ (.int .i64 1)).setCell ⟨P, 0, none⟩ (.int .i64 0) := ⟨_, rfl⟩
          have X6 := Lib.hid (show LX w B W6 from by rw [hW6]; exact (X4.out.far (grown_set P 1 _) hPw).far (grown_set P 0 _) hPw)
          have KR6 := Lib.hid (show Blk W6 R _ from by rw [hW6]; exact (KR4.out.other (by simp; omega) _).other (by simp; omega) _)
          have KP6 := Lib.hid (show Blk W6 P [.int .i64 0, .int .i64 1, .slice a2 k2 c2] from by rw [hW6]; exact (KP4.out.set (j := 1) (by simp) _).set (j := 0) (by simp) _)
          have F6 := Lib.hid (show FarI W6 _ _ xs from by rw [hW6]; exact (F4.out.grown (grown_set P 1 _) (.inr (.inr rfl))).grown (grown_set P 0 _) (.inr (.inr rfl)))
          rw [← hW6]
          clear hW6 c f X4 KR4 KP4 F4
          have c := KP6.out.cell
          have d := KR6.out.cell
          have f := KR6.out.free
          have FN : Hid (DrawnE w B s (.returned (.agg #[.int .i64 0, .int .i64 1, .slice a2 k2 c2])) (((W6.setCell ⟨R, 0, none⟩ (.int .i64 0)).setCell ⟨R, 1, none⟩ (.int .i64 1)).setCell ⟨R, 2, none⟩ (.slice a2 k2 c2))) := by
            have x1 := X6.out.far (grown_set (w := W6) R 0 (.int .i64 0)) (by rw [HR.out]; exact Nat.le_refl _)
            have x2 := x1.far (grown_set R 1 (.int .i64 1)) (by rw [HR.out]; exact Nat.le_refl _)
            have x3 := x2.far (grown_set R 2 (.slice a2 k2 c2)) (by rw [HR.out]; exact Nat.le_refl _)
            exact ⟨_, _, _, _, rfl, (((F6.out.grown (grown_set R 0 _) (.inr (.inl rfl))).grown (grown_set R 1 _) (.inr (.inl rfl))).grown (grown_set R 2 _) (.inr (.inl rfl))).mono (fun k hk => .inl hk), x3.cu, x3.g⟩
          clear KR6 F6 X6
          go_wp2_with fail
          exact bodyPost_ret (v := .agg #[.int .i64 0, .int .i64 1, .slice a2 k2 c2]) (by simp [results, Tryz.results27, go_sem, d]) rfl FN.out
      · have e0 : ((kk : Int) == 0) = false := by simp; omega
        have e1 : ((kk : Int) == 1) = false := by simp; omega
        have e2 : ((kk : Int) == 2) = false := by simp; omega
        clear hk
        have c := KP4.out.cell
        have d := KR4.out.cell
        have f := KR4.out.free
        have FN : Hid (DrawnE w B s (.returned (.agg #[.int .i64 (-1), .int .i64 0, .slice a2 k2 c2])) (((w4.setCell ⟨R, 0, none⟩ (.int .i64 (-1))).setCell ⟨R, 1, none⟩ (.int .i64 0)).setCell ⟨R, 2, none⟩ (.slice a2 k2 c2))) := by
          have x1 := X4.out.far (grown_set (w := w4) R 0 (.int .i64 (-1))) (by rw [HR.out]; exact Nat.le_refl _)
          have x2 := x1.far (grown_set R 1 (.int .i64 0)) (by rw [HR.out]; exact Nat.le_refl _)
          have x3 := x2.far (grown_set R 2 (.slice a2 k2 c2)) (by rw [HR.out]; exact Nat.le_refl _)
          exact ⟨_, _, _, _, rfl, (((F4.out.grown (grown_set R 0 _) (.inr (.inl rfl))).grown (grown_set R 1 _) (.inr (.inl rfl))).grown (grown_set R 2 _) (.inr (.inl rfl))).mono (fun k hk => .inl hk), x3.cu, x3.g⟩
        clear KR4 F4 X4
        go_wp2_with fail
        exact bodyPost_ret (v := .agg #[.int .i64 (-1), .int .i64 0, .slice a2 k2 c2]) (by simp [results, Tryz.results27, go_sem, d]) rfl FN.out
  · have hpi : ¬ (0 : Int) < (m : Int) := by omega
    go_wp2_with fail
    refine (specEyeNow2 (.slice x m c) (ts.map ActT.a) n W0 ⟨ts, rfl, (hst.out.cur X0.out.g hBs).now⟩ (by constructor <;> omega)).mono ?_
    rintro e w2 ⟨v2, bs2, rfl, ho2, hg2, hb2⟩
    have X2 := Lib.hid (X0.out.below hb2)
    have KR2 := Lib.hid (KR0.out.below hb2 KR0.out.lt)
    obtain ⟨a2, c2, hv2⟩ := ints_len ho2.ints
    generalize (clockOfM (ts.map ActT.a) n) = xs at ho2 hv2
    generalize hk2 : xs.length = k2 at hv2
    subst hv2
    obtain ⟨P, hP⟩ : ∃ P, P = w2.heap.size := ⟨_, rfl⟩
    obtain ⟨W3, hW3⟩ : ∃ V, V = w2.alloc (.cells #[.int .i64 (-1), .int .i64 0, .slice a2 k2 c2] 26) := ⟨_, rfl⟩
    have X3 := Lib.hid (show LX w B W3 from by rw [hW3]; exact X2.out.alloc _)
    have KR3 := Lib.hid (show Blk W3 R _ from by rw [hW3]; exact KR2.out.alloc _)
    have KP3 := Lib.hid (show Blk W3 P _ from by rw [hW3, hP]; exact Blk.new w2 _ _)
    have hPw : w.heap.size ≤ P := by rw [hP]; exact X2.out.g.size
    have hPR : P ≠ R := by have := KR2.out.lt; omega
    have hPB : P ≠ B := by have := X2.out.bl; omega
    have F3 := Lib.hid (show FarI W3 (fun k => k < s ∨ k = R ∨ k = P) (.slice a2 k2 c2) xs from by
      have h0 := farI_own (X := fun k => k < s ∨ k = R ∨ k = P) ho2 (fun b hb => by
        have h1 := hg2 b hb
        have h2 := ho2.lt b hb
        have h4 := KR0.out.lt
        have h5 := X0.out.g.size
        simp only [not_or]
        refine ⟨by omega, by omega, by omega⟩)
      rw [hW3]
      exact h0.step (fun k _ hk => Below.heap_alloc _ _ _ hk) (by simp))
    clear hk2
    go_upto_region 4 with (fail)
    rw [← hP, ← hW3]
    clear hW3 hP ho2 hg2 hb2 X2 KR2 X0 KR0
    go_wp2_with fail
    refine (below_any B 8 _ X3.out.cu (by omega)).mono ?_
    rintro e w4 ⟨y, rfl, y0, _, y2, hc, hg⟩
    have X4 := Lib.hid (X3.out.call hc hg)
    have KR4 := Lib.hid (KR3.out.grown hg (by have := X3.out.bl; have := HR.out; omega))
    have KP4 := Lib.hid (KP3.out.grown hg (by omega))
    have F4 := Lib.hid (F3.out.grown hg (.inl hBs))
    obtain ⟨kk, rfl⟩ := Int.eq_ofNat_of_zero_le y0
    clear hc hg y2 y0 X3 KR3 KP3 F3
    by_cases hk : kk ≤ 2
    · have hcs : kk = 0 ∨ kk = 1 ∨ kk = 2 := by omega
      clear hk
      rcases hcs with rfl | rfl | rfl
      · go_wp2_with fail
        refine (pick_lit B w4.heap.size _ [-2, 0, 3, 4] 4 _ rfl rfl rfl X4.out.cu (by omega) (by omega)).mono ?_
        rintro e w5 ⟨y, rfl, _, hc, hg⟩
        have X5 := Lib.hid (X4.out.call hc hg)
        have KR5 := Lib.hid (KR4.out.grown hg (by have := X4.out.bl; have := HR.out; omega))
        have KP5 := Lib.hid (KP4.out.grown hg (by omega))
        have F5 := Lib.hid (F4.out.grown hg (.inl hBs))
        clear hc hg X4 KR4 KP4 F4
        have c := KP5.out.cell
        have f := KP5.out.free
        go_upto_region 12 with (fail)
        obtain ⟨W6, hW6⟩ : ∃ V, V = w5.setCell ⟨P, 0, none⟩ (.int .i64 y) := ⟨_, rfl⟩
        have X6 := Lib.hid (show LX w B W6 from by rw [hW6]; exact X5.out.far (grown_set P 0 _) hPw)
        have KR6 := Lib.hid (show Blk W6 R _ from by rw [hW6]; exact KR5.out.other (by simp; omega) _)
        have KP6 := Lib.hid (show Blk W6 P [.int .i64 y, .int .i64 0, .slice a2 k2 c2] from by rw [hW6]; exact KP5.out.set (j := 0) (by simp) _)
        have F6 := Lib.hid (show FarI W6 _ _ xs from by rw [hW6]; exact F5.out.grown (grown_set P 0 _) (.inr (.inr rfl)))
        rw [← hW6]
        clear hW6 c f X5 KR5 KP5 F5
        have c := KP6.out.cell
        have d := KR6.out.cell
        have f := KR6.out.free
        have FN : Hid (DrawnE w B s (.returned (.agg #[.int .i64 y, .int .i64 0, .slice a2 k2 c2])) (((W6.setCell ⟨R, 0, none⟩ (.int .i64 y)).setCell ⟨R, 1, none⟩ (.int .i64 0)).setCell ⟨R, 2, none⟩ (.slice a2 k2 c2))) := by
          have x1 := X6.out.far (grown_set (w := W6) R 0 (.int .i64 y)) (by rw [HR.out]; exact Nat.le_refl _)
          have x2 := x1.far (grown_set R 1 (.int .i64 0)) (by rw [HR.out]; exact Nat.le_refl _)
          have x3 := x2.far (grown_set R 2 (.slice a2 k2 c2)) (by rw [HR.out]; exact Nat.le_refl _)
          exact ⟨_, _, _, _, rfl, (((F6.out.grown (grown_set R 0 _) (.inr (.inl rfl))).grown (grown_set R 1 _) (.inr (.inl rfl))).grown (grown_set R 2 _) (.inr (.inl rfl))).mono (fun k hk => .inl hk), x3.cu, x3.g⟩
        clear KR6 F6 X6
        go_wp2_with fail
        exact bodyPost_ret (v := .agg #[.int .i64 y, .int .i64 0, .slice a2 k2 c2]) (by simp [results, Tryz.results27, go_sem, d]) rfl FN.out
      · go_wp2_with fail
        refine (clock_any B n _ X4.out.cu (by omega)).mono ?_
        rintro e w5 ⟨g5, v5, ys, rfl, ho5, hg5, _, _, hc, hg⟩
        have X5 := Lib.hid (X4.out.call hc hg)
        have KR5 := Lib.hid (KR4.out.grown hg (by have := X4.out.bl; have := HR.out; omega))
        have KP5 := Lib.hid (KP4.out.grown hg (by omega))
        obtain ⟨a5, c5, hv5⟩ := ints_len (own_ints ho5)
        have F5 := Lib.hid (farI_own1 (X := fun k => k < s ∨ k = R ∨ k = P) ho5 (by
          have h1 := KP4.out.lt
          have h2 := KR4.out.lt
          have h3 := X4.out.g.size
          simp only [not_or]
          refine ⟨by omega, by omega, by omega⟩))
        generalize ys.length = k5 at hv5
        subst hv5
        clear hc hg X4 KR4 KP4 F4 ho5 hg5
        have c := KP5.out.cell
        have f := KP5.out.free
        go_upto_region 12 with (fail)
        obtain ⟨W6, hW6⟩ : ∃ V, V = w5.setCell ⟨P, 2, none⟩ (.slice a5 k5 c5) := ⟨_, rfl⟩
        have X6 := Lib.hid (show LX w B W6 from by rw [hW6]; exact X5.out.far (grown_set P 2 _) hPw)
        have KR6 := Lib.hid (show Blk W6 R _ from by rw [hW6]; exact KR5.out.other (by simp; omega) _)
        have KP6 := Lib.hid (show Blk W6 P [.int .i64 (-1), .int .i64 0, .slice a5 k5 c5] from by rw [hW6]; exact KP5.out.set (j := 2) (by simp) _)
        have F6 := Lib.hid (show FarI W6 _ _ ys from by rw [hW6]; exact F5.out.grown (grown_set P 2 _) (.inr (.inr rfl)))
        rw [← hW6]
        clear hW6 c f X5 KR5 KP5 F5
        have c := KP6.out.cell
        have d := KR6.out.cell
        have f := KR6.out.free
        have FN : Hid (DrawnE w B s (.returned (.agg #[.int .i64 (-1), .int .i64 0, .slice a5 k5 c5])) (((W6.setCell ⟨R, 0, none⟩ (.int .i64 (-1))).setCell ⟨R, 1, none⟩ (.int .i64 0)).setCell ⟨R, 2, none⟩ (.slice a5 k5 c5))) := by
          have x1 := X6.out.far (grown_set (w := W6) R 0 (.int .i64 (-1))) (by rw [HR.out]; exact Nat.le_refl _)
          have x2 := x1.far (grown_set R 1 (.int .i64 0)) (by rw [HR.out]; exact Nat.le_refl _)
          have x3 := x2.far (grown_set R 2 (.slice a5 k5 c5)) (by rw [HR.out]; exact Nat.le_refl _)
          exact ⟨_, _, _, _, rfl, (((F6.out.grown (grown_set R 0 _) (.inr (.inl rfl))).grown (grown_set R 1 _) (.inr (.inl rfl))).grown (grown_set R 2 _) (.inr (.inl rfl))).mono (fun k hk => .inl hk), x3.cu, x3.g⟩
        clear KR6 F6 X6
        go_wp2_with fail
        exact bodyPost_ret (v := .agg #[.int .i64 (-1), .int .i64 0, .slice a5 k5 c5]) (by simp [results, Tryz.results27, go_sem, d]) rfl FN.out
      · have c := KP4.out.cell
        have f := KP4.out.free
        go_upto_region 12 with (fail)
        obtain ⟨W6, hW6⟩ : ∃ V, V = (w4.setCell ⟨P, 1, none⟩ (.int .i64 1)).setCell ⟨P, 0, none⟩ (.int .i64 0) := ⟨_, rfl⟩
        have X6 := Lib.hid (show LX w B W6 from by rw [hW6]; exact (X4.out.far (grown_set P 1 _) hPw).far (grown_set P 0 _) hPw)
        have KR6 := Lib.hid (show Blk W6 R _ from by rw [hW6]; exact (KR4.out.other (by simp; omega) _).other (by simp; omega) _)
        have KP6 := Lib.hid (show Blk W6 P [.int .i64 0, .int .i64 1, .slice a2 k2 c2] from by rw [hW6]; exact (KP4.out.set (j := 1) (by simp) _).set (j := 0) (by simp) _)
        have F6 := Lib.hid (show FarI W6 _ _ xs from by rw [hW6]; exact (F4.out.grown (grown_set P 1 _) (.inr (.inr rfl))).grown (grown_set P 0 _) (.inr (.inr rfl)))
        rw [← hW6]
        clear hW6 c f X4 KR4 KP4 F4
        have c := KP6.out.cell
        have d := KR6.out.cell
        have f := KR6.out.free
        have FN : Hid (DrawnE w B s (.returned (.agg #[.int .i64 0, .int .i64 1, .slice a2 k2 c2])) (((W6.setCell ⟨R, 0, none⟩ (.int .i64 0)).setCell ⟨R, 1, none⟩ (.int .i64 1)).setCell ⟨R, 2, none⟩ (.slice a2 k2 c2))) := by
          have x1 := X6.out.far (grown_set (w := W6) R 0 (.int .i64 0)) (by rw [HR.out]; exact Nat.le_refl _)
          have x2 := x1.far (grown_set R 1 (.int .i64 1)) (by rw [HR.out]; exact Nat.le_refl _)
          have x3 := x2.far (grown_set R 2 (.slice a2 k2 c2)) (by rw [HR.out]; exact Nat.le_refl _)
          exact ⟨_, _, _, _, rfl, (((F6.out.grown (grown_set R 0 _) (.inr (.inl rfl))).grown (grown_set R 1 _) (.inr (.inl rfl))).grown (grown_set R 2 _) (.inr (.inl rfl))).mono (fun k hk => .inl hk), x3.cu, x3.g⟩
        clear KR6 F6 X6
        go_wp2_with fail
        exact bodyPost_ret (v := .agg #[.int .i64 0, .int .i64 1, .slice a2 k2 c2]) (by simp [results, Tryz.results27, go_sem, d]) rfl FN.out
    · have e0 : ((kk : Int) == 0) = false := by simp; omega
      have e1 : ((kk : Int) == 1) = false := by simp; omega
      have e2 : ((kk : Int) == 2) = false := by simp; omega
      clear hk
      have c := KP4.out.cell
      have d := KR4.out.cell
      have f := KR4.out.free
      have FN : Hid (DrawnE w B s (.returned (.agg #[.int .i64 (-1), .int .i64 0, .slice a2 k2 c2])) (((w4.setCell ⟨R, 0, none⟩ (.int .i64 (-1))).setCell ⟨R, 1, none⟩ (.int .i64 0)).setCell ⟨R, 2, none⟩ (.slice a2 k2 c2))) := by
        have x1 := X4.out.far (grown_set (w := w4) R 0 (.int .i64 (-1))) (by rw [HR.out]; exact Nat.le_refl _)
        have x2 := x1.far (grown_set R 1 (.int .i64 0)) (by rw [HR.out]; exact Nat.le_refl _)
        have x3 := x2.far (grown_set R 2 (.slice a2 k2 c2)) (by rw [HR.out]; exact Nat.le_refl _)
        exact ⟨_, _, _, _, rfl, (((F4.out.grown (grown_set R 0 _) (.inr (.inl rfl))).grown (grown_set R 1 _) (.inr (.inl rfl))).grown (grown_set R 2 _) (.inr (.inl rfl))).mono (fun k hk => .inl hk), x3.cu, x3.g⟩
      clear KR4 F4 X4
      go_wp2_with fail
      exact bodyPost_ret (v := .agg #[.int .i64 (-1), .int .i64 0, .slice a2 k2 c2]) (by simp [results, Tryz.results27, go_sem, d]) rfl FN.out
/-- acts, how many places, a number, an eye -/
def DrawnH (w : World) (e : Ending) (w' : World) : Prop := ∃ (v u : Value) (l : List ActM) (n k er en : Int) (xs : List Int), e = .returned (.tuple #[v, .int .i64 n, .int .i64 k, .agg #[.int .i64 er, .int .i64 en, u]]) ∧ Acts w' v l ∧ SmallL l ∧ l.length ≤ 61 ∧ 0 ≤ n ∧ n ≤ 5 ∧ -1 ≤ k ∧ k ≤ 62 ∧ Ints w' u xs ∧ Below w.heap.size w w'
set_option maxRecDepth 100000 in
set_option maxHeartbeats 3200000 in
theorem drawHolds_any (a : Option Addr) (len cap : Nat) (w : World) (hm : len ≤ 9223372036854775807) (hc : Code w w.heap.size a len) : Calls Tryz.prog 7 #[.slice a len cap] w (DrawnH w) := by
  obtain ⟨R, hR⟩ : ∃ R, R = w.heap.size := ⟨_, rfl⟩
  obtain ⟨W0, hW0⟩ : ∃ W0, W0 = w.alloc (.cells #[.int .i64 0, .int .i64 0, .slice none 0 0] 26) := ⟨_, rfl⟩
  have k1 := Blk.new w #[.int .i64 0, .int .i64 0, .slice none 0 0] 26
  have b0 := (Below.refl w.heap.size w).alloc (Nat.le_refl _) (.cells #[.int .i64 0, .int .i64 0, .slice none 0 0] 26)
  have hsz : W0.heap.size = w.heap.size + 1 := by rw [hW0]; simp
  rw [← hW0] at k1 b0
  have hc0 : Code W0 W0.heap.size a len := by
    have h1 : Code W0 w.heap.size a len := hc.other (fun b o hb => b0.cell (p := ⟨b, o, none⟩) hb)
    intro j hj
    obtain ⟨b, off, x, e, hb, r⟩ := h1 j hj
    exact ⟨b, off, x, e, by omega, r⟩
  have K0 := Lib.hid k1
  have B0 := Lib.hid b0
  have HC := Lib.hid hc0
  have HSZ := Lib.hid hsz
  have HR := Lib.hid hR
  clear k1 b0 hc0 hsz hR hc
  go_enter Tryz.func7, Tryz.ntmps7
  go_upto_region 1 with (fail)
  rw [← HR.out, ← hW0]
  clear hW0
  go_wp2_with fail
  refine (new_any a len cap _ hm HC.out).mono ?_
  rintro e w1 ⟨B, rfl, hB, hcu, hb1⟩
  have hBl := Lib.hid hcu.lt
  have HB := Lib.hid (show R < B from by have := HSZ.out; have := HR.out; omega)
  have HRW := Lib.hid (show w.heap.size ≤ R from by rw [HR.out]; exact Nat.le_refl _)
  have K1 := K0.out.below hb1 (by rw [HSZ.out]; omega)
  rw [← HR.out] at K1
  have B1 := Lib.hid (B0.out.trans (hb1.mono (by rw [HSZ.out]; omega)))
  have C1 := Lib.hid hcu
  have S1 := Lib.hid (show R + 1 ≤ w1.heap.size from by have := hb1.size; have := HSZ.out; have := HR.out; omega)
  have KR1 := Lib.hid K1
  clear hcu hb1 hB K0 B0 K1
  go_wp2_with fail
  refine (l3bent_any B _ C1.out).mono ?_
  rintro e w2 ⟨v, ts, n, rfl, hst, hs, hl, h0, h5, hc, hg⟩
  obtain ⟨n, rfl⟩ := Int.eq_ofNat_of_zero_le h0
  have hn5 : n ≤ 5 := by omega
  obtain ⟨x, c, rfl⟩ := actsT_len hst.now
  obtain ⟨m, hmm⟩ : ∃ m, m = ts.length := ⟨_, rfl⟩
  rw [← hmm] at hst ⊢
  have B2 := Lib.hid (B1.out.grown hg B1.out.size (fun g e => by cases e; have := HB.out; have := HRW.out; omega))
  have KR2 := Lib.hid (KR1.out.grown hg (by have := HB.out; omega))
  have S2 := Lib.hid hst
  have SM := Lib.hid hs
  have HM := Lib.hid hmm
  have hm61 : m ≤ 61 := by omega
  have Z2 := Lib.hid (show w1.heap.size ≤ w2.heap.size from hg.size)
  have C2 := Lib.hid hc
  clear hst hs hl hc hg hmm KR1 B1 C1 h0 h5
  go_wp2_with fail
  refine (below_any B (m + 2) _ C2.out (by omega)).mono ?_
  rintro e w3 ⟨y, rfl, y0, y1, _, hc, hg⟩
  have B3 := Lib.hid (B2.out.grown hg B2.out.size (fun g e => by cases e; have := HB.out; have := HRW.out; omega))
  have KR3 := Lib.hid (KR2.out.grown hg (by have := HB.out; omega))
  have S3 := Lib.hid (S2.out.cur hg hBl.out)
  have Z3 := Lib.hid (Nat.le_trans Z2.out hg.size)
  have C3 := Lib.hid hc
  clear hc hg B2 KR2 S2 Z2 C2
  have hym : 0 ≤ y ∧ y ≤ 63 := ⟨y0, by omega⟩
  have ew : IntKind.i64.wrap (y - 1) = y - 1 := by rw [IntWalk.i64_in _ (by omega)]
  clear y0 y1
  go_wp2_with fail
  refine (l4eye_any B w1.heap.size n _ ts w3 C3.out S3.out hBl.out Z3.out SM.out (by have := HM.out; omega) hn5).mono ?_
  rintro e w4 ⟨er, en, u, xs, rfl, hi, hc, hg⟩
  have B4 := Lib.hid (B3.out.grown hg B3.out.size (fun g e => by cases e; have := HB.out; have := HRW.out; omega))
  have KR4 := Lib.hid (KR3.out.grown hg (by have := HB.out; omega))
  have S4 := Lib.hid (S3.out.cur hg hBl.out)
  have Z4 := Lib.hid (Nat.le_trans Z3.out hg.size)
  have C4 := Lib.hid hc
  clear hc hg B3 KR3 S3 Z3 C3
  obtain ⟨ua, uc, hu⟩ := ints_len hi.now
  generalize xs.length = uk at hu
  subst hu
  have DR := Lib.hid hi
  have d := KR4.out.cell
  have f := KR4.out.free
  have FN : Hid (DrawnH w (.returned (.tuple #[.slice x m c, .int .i64 n, .int .i64 (y - 1), .agg #[.int .i64 er, .int .i64 en, .slice ua uk uc]])) (((w4.setCell ⟨R, 0, none⟩ (.int .i64 er)).setCell ⟨R, 1, none⟩ (.int .i64 en)).setCell ⟨R, 2, none⟩ (.slice ua uk uc))) := by
    have s1 := ((S4.out.cur (grown_set R 0 (.int .i64 er)) S1.out).cur (grown_set R 1 (.int .i64 en)) S1.out).cur (grown_set R 2 (.slice ua uk uc)) S1.out
    exact ⟨_, _, ts.map ActT.a, n, y - 1, er, en, xs, rfl, ⟨ts, rfl, s1.now⟩, SM.out, by rw [List.length_map]; have := HM.out; omega, by omega, by omega, by omega, by omega, (((DR.out.grown (grown_set R 0 _) S1.out).grown (grown_set R 1 _) S1.out).grown (grown_set R 2 _) S1.out).now, ((B4.out.setCell HRW.out _).setCell HRW.out _).setCell HRW.out _⟩
  clear hi DR KR4 S4 B4 C4 Z4
  go_wp2_with fail
  exact bodyPost_ret (v := .tuple #[.slice x m c, .int .i64 n, .int .i64 (y - 1), .agg #[.int .i64 er, .int .i64 en, .slice ua uk uc]]) (by simp [results, Tryz.results7, go_sem, d]) rfl FN.out
end Go.Proofs.YtcjoecjijmkbaaaGreat
