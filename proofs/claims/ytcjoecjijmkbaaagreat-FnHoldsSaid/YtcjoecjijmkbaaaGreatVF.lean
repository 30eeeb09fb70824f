/- The law FnHolds. -/
import Derived.Test.YtcjoecjijmkbaaaGreatVC
import Derived.Test.YtcjoecjijmkbaaaGreatVB
import Derived.Test.YtcjoecjijmkbaaaGreatVA
import Derived.Test.YtcjoecjijmkbaaaGreatQV
import Derived.Test.YtcjoecjijmkbaaaGreatBG
import Derived.Test.YtcjoecjijmkbaaaGreatMO

namespace Go.Proofs.YtcjoecjijmkbaaaGreat
open Go.RowKit
set_option linter.unusedVariables false
set_option linter.unusedSimpArgs false
section
variable {P : Program} {ops : Array Oper} {Q : Exit → Act → World → Prop} {md : Region.Mode} {S : World → Prop}
theorem pZ {α : Type} (a b : α) (l : List α) : (a :: l).set 0 b = b :: l := rfl
theorem pC {α : Type} (a b : α) (l : List α) (n : Nat) : (a :: l).set (n + 1) b = a :: l.set n b := rfl
theorem pS {α : Type} (l : List α) (i : Nat) (a : α) : l.toArray.setIfInBounds i a = (l.set i a).toArray := List.setIfInBounds_toArray ..
/-- one operation of a drawn region, first -/
theorem tk (i d : Nat) {oi : Oper} {v : Value} {fuel : Nat} {listed : Array Bool} {a : Act} {w : World} (hi : ops[i]? = some oi) (hy : ∀ w, S w → (execOp a.eval oi).run P w = .ok (.value v) w) (hS : S w)
  (h : wpAnyH P md ops Q S fuel (listed.setIfInBounds i true) (a.put (some d) v) w) (hd : oi.dst = some d := by kernel_rfl) (hs : Region.noSelect ops = true := by kernel_rfl) (hf : Region.free md ops listed i = true := by kernel_rfl)
  (hr : (Region.ready md ops listed).contains i = true := by kernel_rfl) (hQ : ∀ c a w, Q (.panic c) (a.put (some d) v) w → Q (.panic c) a w := by exact fun _ _ _ h => h) (hw : Region.wanted oi (yielded ops a.tmps) = true := by kernel_rfl) : wpAnyH P md ops Q S (fuel + 1) listed a w :=
 held_take hi hd hs hf hr hQ hw hy hS h
/-- one that is not wanted -/
theorem sk (i d : Nat) {oi : Oper} {fuel : Nat} {listed : Array Bool} {a : Act} {w : World} (hi : ops[i]? = some oi) (hS : S w) (h : wpAnyH P md ops Q S fuel (listed.setIfInBounds i true) (a.put (some d) undef) w) (hd : oi.dst = some d := by kernel_rfl) (hs : Region.noSelect ops = true := by kernel_rfl)
  (hf : Region.free md ops listed i = true := by kernel_rfl) (hr : (Region.ready md ops listed).contains i = true := by kernel_rfl) (hQ : ∀ c a w, Q (.panic c) (a.put (some d) undef) w → Q (.panic c) a w := by exact fun _ _ _ h => h) (hw : Region.wanted oi (yielded ops a.tmps) = false := by kernel_rfl) : wpAnyH P md ops Q S (fuel + 1) listed a w :=
 held_skip hi hd hs hf hr hQ hw hS h
end
set_option maxRecDepth 100000 in
set_option maxHeartbeats 12800000 in
theorem law_FnHolds (a : Option Addr) (len cap : Nat) (w : World) (hm : len ≤ 9223372036854775807) (hc : Code w w.heap.size a len) : Calls Tryz.prog 3 #[.slice a len cap] w fun e w' => e = .returned (.bool true) ∧ Below w.heap.size w w' := by
 have HC := Lib.hid hc
 clear hc
 go_enter Tryz.func3, Tryz.ntmps3
 go_wp2_with fail
 refine (drawHolds_any a len cap _ hm HC.out).mono ?_
 rintro e W ⟨v, u, l, n, k, er, en, xs, rfl, ha, hs, hl61, n0, n5, k0, k62, hu, b0⟩
 obtain ⟨x, y, rfl⟩ := acts_len ha
 obtain ⟨ua, uc, hu2⟩ := ints_len hu
 generalize xs.length = uk at hu2
 subst hu2
 obtain ⟨m, hmm⟩ : ∃ m, m = l.length := ⟨_, rfl⟩
 have hm61 : m ≤ 61 := by omega
 obtain ⟨P, hP⟩ : ∃ P, P = W.heap.size := ⟨_, rfl⟩
 obtain ⟨W1, hW1⟩ : ∃ V, V = W.alloc (.cells #[.int .i64 er, .int .i64 en, .slice ua uk uc] 26) := ⟨_, rfl⟩
 have b1 : Below W.heap.size W W1 := by rw [hW1]; exact (Below.refl _ _).alloc (Nat.le_refl _) _
 have KP := Lib.hid (show Blk W1 P _ from by rw [hW1, hP]; exact Blk.new W _ _)
 have hP1 := KP.out.lt
 have BB := Lib.hid (b0.trans (b1.mono b0.size))
 have A1 := Lib.hid (ha.below b1)
 have U1 := Lib.hid (hu.below (B := 0) b1)
 rw [← hmm] at A1 ⊢
 have HM := Lib.hid hmm
 have hn : I64 n := by constructor <;> omega
 have KC := Lib.hid (fun V (h : Below W1.heap.size W1 V) => (KP.out.below h hP1).cell)
 have CH := Lib.hid (fun (j : Int) V (h : Below W1.heap.size W1 V) => implHolds_any _ _ l xs n j er en V (A1.out.below h) (U1.out.below (B := 0) h) hn)
 have CS := Lib.hid (fun V (h : Below W1.heap.size W1 V) => specHolds_any _ _ l xs n k er en V (A1.out.below h) (U1.out.below (B := 0) h) hn)
 clear ha hu b0 b1 hs HC hmm hl61 hn U1 k0 k62
 go_upto_region 2 with (fail)
 rw [← hP, ← hW1]
 clear hW1 hP
 cases hh : holdsM l n k er en xs
 ·have C1 := CH.out k W1 (Below.refl _ _)
  rw [hh] at C1
  have C1h := Lib.hid C1
  have C2h := Lib.hid (fun V (h : Below W1.heap.size W1 V) => (by have := CS.out V h; rw [hh] at this; exact this : Calls Tryz.prog 9 #[.slice x m y, .int .i64 n, .int .i64 k, .agg #[.int .i64 er, .int .i64 en, .slice ua uk uc]] V fun e w' => e = .returned (.bool false) ∧ Below V.heap.size V w'))
  clear C1 CS CH hh
  have c := KC.out _ (Below.refl _ _)
  go_wp2_with fail
  refine C1h.out.mono ?_
  rintro e w2 ⟨rfl, hb2⟩
  have B2 := Lib.hid hb2
  clear hb2 c C1h
  have c := KC.out _ B2.out
  go_wp2_with fail
  refine (C2h.out _ B2.out).mono ?_
  rintro e w3 ⟨rfl, hb3⟩
  have B3 := Lib.hid (B2.out.trans (hb3.mono B2.out.size))
  clear hb3 B2 c C2h
  go_wp2_with fail
  refine (rights_any _).mono ?_
  rintro e w6 ⟨rfl, hb6⟩
  have B6 := Lib.hid (B3.out.trans (hb6.mono B3.out.size))
  clear hb6 B3
  go_wp2_with fail
  go_ret
  exact ⟨rfl, BB.out.trans (B6.out.mono BB.out.size)⟩
 ·have C1 := CH.out k W1 (Below.refl _ _)
  rw [hh] at C1
  have C1h := Lib.hid C1
  have C2h := Lib.hid (fun V (h : Below W1.heap.size W1 V) => (by have := CS.out V h; rw [hh] at this; exact this : Calls Tryz.prog 9 #[.slice x m y, .int .i64 n, .int .i64 k, .agg #[.int .i64 er, .int .i64 en, .slice ua uk uc]] V fun e w' => e = .returned (.bool true) ∧ Below V.heap.size V w'))
  obtain ⟨kk0, kk1⟩ := holds_lt hh
  obtain ⟨j, rfl⟩ := Int.eq_ofNat_of_zero_le kk0
  have hj : j < m := by have := HM.out; omega
  have HL := Lib.hid (holds_law hh)
  clear C1 CS hh kk0 kk1
  have c := KC.out _ (Below.refl _ _)
  go_wp2_with fail
  refine C1h.out.mono ?_
  rintro e w2 ⟨rfl, hb2⟩
  have B2 := Lib.hid hb2
  clear hb2 c C1h
  have c := KC.out _ B2.out
  go_wp2_with fail
  refine (C2h.out _ B2.out).mono ?_
  rintro e w3 ⟨rfl, hb3⟩
  have B3 := Lib.hid (B2.out.trans (hb3.mono B2.out.size))
  clear hb3 B2 c C2h
  obtain ⟨ts, hts, hT⟩ := A1.out
  obtain ⟨z1, b, off, hx2, hb, hat⟩ := actsT_at hT (by omega)
  have HAT := Lib.hid hat
  have HR := Lib.hid (fun i (hi : i < m) => hT.1 _ (getD_mem (ts := ts) (i := i) (by omega)))
  have HX := Lib.hid (fun i (hi : i < m) => (show l.getD i act0 = (ts.getD i t0).a from by rw [hts, getD_map (by omega)]))
  clear hat hT hts z1
  subst hx2
  have at_ := (HAT.out j hj).below B3.out hb
  have rd := (HR.out j hj).below B3.out
  have HG := Lib.hid (HX.out j hj)
  have HL2 := HL.out
  rw [HG.out] at HL2
  clear HL HG
  generalize ts.getD j t0 = T at at_ rd HL2
  obtain ⟨xq, mq, yq, uq, kq, zq, hdq, hsq⟩ := slice_of rd
  obtain ⟨⟨q0, q1, q2, q3, q4, q5, q6, q7, q8, q9, q10⟩, vd, vs⟩ := T
  simp only at hdq hsq HL2
  subst hdq hsq
  obtain ⟨hk1, hact⟩ := HL2
  have ek : (q4 == 1) = true := by simp [hk1]
  have HACT := Lib.hid hact
  have i0 : (0 : Int) ≤ (j : Int) := by omega
  have i1 : (j : Int) < (m : Int) := by omega
  obtain ⟨d0, d1, d2, d3, d4, d5, d6, d7, d8, d9, d10⟩ := at_
  simp only at d0 d1 d2 d3 d4 d5 d6 d7 d8 d9 d10
  clear hk1 hact
  obtain ⟨Gb, hGb⟩ : ∃ G, G = w3.heap.size := ⟨_, rfl⟩
  obtain ⟨W3, hW3⟩ : ∃ V, V = w3.alloc (.cells #[.int .i64 q0, .int .i64 q1, .slice xq mq yq, .int .i64 q3, .int .i64 q4, .int .i64 q5, .int .i64 q6, .int .i64 q7, .int .i64 q8, .int .i64 q9, .slice uq kq zq] 33) := ⟨_, rfl⟩
  have b3 : Below w3.heap.size w3 W3 := by rw [hW3]; exact (Below.refl _ _).alloc (Nat.le_refl _) _
  have KG := Lib.hid (show Blk W3 Gb _ from by rw [hW3, hGb]; exact Blk.new w3 _ _)
  have hG3 := KG.out.lt
  have B4 := Lib.hid (B3.out.trans (b3.mono B3.out.size))
  have RG := Lib.hid (rd.below b3)
  have hP3 : P < W3.heap.size := Nat.lt_of_lt_of_le hP1 B4.out.size
  have hb3' : b < W3.heap.size := Nat.lt_of_lt_of_le hb B4.out.size
  clear rd b3
  go_upto_region 8 with (fail)
  rw [← hGb, ← hW3]
  clear hW3 hGb d0 d1 d2 d3 d4 d5 d6 d7 d8 d9 d10 B3
  have cg := KG.out.cell
  by_cases hz : q3 = 0
  ·have ez : (q3 == 0) = true := by simp [hz]
   clear hz HACT CH
   go_wp2_with fail
   refine (rights_any _).mono ?_
   rintro e w6 ⟨rfl, hb6⟩
   have B6 := Lib.hid (B4.out.trans (hb6.mono B4.out.size))
   clear hb6 B4
   go_wp2_with fail
   go_ret
   exact ⟨rfl, BB.out.trans (B6.out.mono BB.out.size)⟩
  ·have ez : (q3 == 0) = false := by simp [hz]
   have ISH := Lib.hid (HACT.out.resolve_left hz)
   clear hz HACT
   obtain ⟨g, hg⟩ : ∃ g : ActM, g = ⟨q0, q1, q2, q3, q4, q5, q6, q7, q8, q9, q10⟩ := ⟨_, rfl⟩
   rw [← hg] at ISH
   have HGD := Lib.hid hg
   clear hg
   go_wp2_with fail
   clear cg
   go_loopw [9, 10] (fun sv iv wr => ∃ (i : Nat) (bb : Bool), i ≤ j ∧ Hid (bb = isH l n er en xs g i) ∧ sv = .bool bb ∧ iv = .int .i64 i ∧ Hid (Below W3.heap.size W3 wr)) (fun _ iv _ => j - (intOf iv).toNat)
   case atStart => exact ⟨0, false, Nat.zero_le _, Lib.hid rfl, rfl, rfl, Lib.hid (Below.refl _ _)⟩
   case round =>
    obtain ⟨i, bb, hi, his, rfl, rfl, hbel⟩ := hrel
    by_cases hlt : i < j
    ·have SB := Lib.hid (show Bel W3 wr from ⟨hbel.out⟩).drew
     have him : i < m := by omega
     have at_ := (HAT.out i him).below B4.out hb
     have rd := Lib.hid ((HR.out i him).below B4.out)
     have HXi := Lib.hid (HX.out i him)
     have CK := Lib.hid (fun V (h : Bel W3 V) => CH.out i V (B4.out.trans (h.b.mono B4.out.size)))
     have AL := Lib.hid (show stepH l n er en xs g i = (holdsM l n i er en xs && decide ((ts.getD i t0).a.to = q3) && decide ((ts.getD i t0).a.bucket = q6) && (bits .and .i64 (ts.getD i t0).a.mask q7 == q7) && (bits .and .i64 (ts.getD i t0).a.mask 8 != 0) && knowsM g (ts.getD i t0).a) from by unfold stepH; rw [HXi.out, HGD.out])
     clear HXi
     generalize ts.getD i t0 = T at at_ rd AL
     obtain ⟨xp, mp, yp, up, kp, zp, hdp, hsp⟩ := slice_of rd.out
     obtain ⟨⟨p0, p1, p2, p3, p4, p5, p6, p7, p8, p9, p10⟩, vd, vs⟩ := T
     simp only at hdp hsp AL
     subst hdp hsp
     have c0 := fun W' (h : Bel W3 W') => (at_.below h.b hb3').c0
     have c1 := fun W' (h : Bel W3 W') => (at_.below h.b hb3').c1
     have c2 := fun W' (h : Bel W3 W') => (at_.below h.b hb3').c2
     have c3 := fun W' (h : Bel W3 W') => (at_.below h.b hb3').c3
     have c4 := fun W' (h : Bel W3 W') => (at_.below h.b hb3').c4
     have c5 := fun W' (h : Bel W3 W') => (at_.below h.b hb3').c5
     have c6 := fun W' (h : Bel W3 W') => (at_.below h.b hb3').c6
     have c7 := fun W' (h : Bel W3 W') => (at_.below h.b hb3').c7
     have c8 := fun W' (h : Bel W3 W') => (at_.below h.b hb3').c8
     have c9 := fun W' (h : Bel W3 W') => (at_.below h.b hb3').c9
     have c10 := fun W' (h : Bel W3 W') => (at_.below h.b hb3').c10
     have g0 := fun W' (h : Bel W3 W') => (show W'.cell? ⟨Gb, 0, none⟩ = some (.int .i64 q0) from (KG.out.below h.b hG3).cell 0)
     have g1 := fun W' (h : Bel W3 W') => (show W'.cell? ⟨Gb, 1, none⟩ = some (.int .i64 q1) from (KG.out.below h.b hG3).cell 1)
     have g2 := fun W' (h : Bel W3 W') => (show W'.cell? ⟨Gb, 2, none⟩ = some (.slice xq mq yq) from (KG.out.below h.b hG3).cell 2)
     have g3 := fun W' (h : Bel W3 W') => (show W'.cell? ⟨Gb, 3, none⟩ = some (.int .i64 q3) from (KG.out.below h.b hG3).cell 3)
     have g4 := fun W' (h : Bel W3 W') => (show W'.cell? ⟨Gb, 4, none⟩ = some (.int .i64 q4) from (KG.out.below h.b hG3).cell 4)
     have g5 := fun W' (h : Bel W3 W') => (show W'.cell? ⟨Gb, 5, none⟩ = some (.int .i64 q5) from (KG.out.below h.b hG3).cell 5)
     have g6 := fun W' (h : Bel W3 W') => (show W'.cell? ⟨Gb, 6, none⟩ = some (.int .i64 q6) from (KG.out.below h.b hG3).cell 6)
     have g7 := fun W' (h : Bel W3 W') => (show W'.cell? ⟨Gb, 7, none⟩ = some (.int .i64 q7) from (KG.out.below h.b hG3).cell 7)
     have g8 := fun W' (h : Bel W3 W') => (show W'.cell? ⟨Gb, 8, none⟩ = some (.int .i64 q8) from (KG.out.below h.b hG3).cell 8)
     have g9 := fun W' (h : Bel W3 W') => (show W'.cell? ⟨Gb, 9, none⟩ = some (.int .i64 q9) from (KG.out.below h.b hG3).cell 9)
     have g10 := fun W' (h : Bel W3 W') => (show W'.cell? ⟨Gb, 10, none⟩ = some (.slice uq kq zq) from (KG.out.below h.b hG3).cell 10)
     have k0 := fun W' (h : Bel W3 W') => (show W'.cell? ⟨P, 0, none⟩ = some (.int .i64 er) from KC.out _ (B4.out.trans (h.b.mono B4.out.size)) 0)
     have k1 := fun W' (h : Bel W3 W') => (show W'.cell? ⟨P, 1, none⟩ = some (.int .i64 en) from KC.out _ (B4.out.trans (h.b.mono B4.out.size)) 1)
     have k2 := fun W' (h : Bel W3 W') => (show W'.cell? ⟨P, 2, none⟩ = some (.slice ua uk uc) from KC.out _ (B4.out.trans (h.b.mono B4.out.size)) 2)
     have CN := Lib.hid (fun V (h : Bel W3 V) => implKnows_any _ _ _ _ V (RG.out.below h.b).is (rd.out.below h.b).is)
     simp only [ActT.val] at CN
     rw [← HGD.out] at CN
     simp only at c0 c1 c2 c3 c4 c5 c6 c7 c8 c9 c10
     have i0 : (0 : Int) ≤ (i : Int) := by omega
     have i1 : (i : Int) < (m : Int) := by omega
     clear at_ hbel
     generalize holdsM l n i er en xs = hv at CK AL
     cases bb
     ·go_wp2_with fail
      refine wp_region_held_drew (S := fun w' => Bel W3 w') (by kernel_rfl) (SB.out) (fun hHeld => ?_)
      refine tk 0 51 (v := ?_) rfl ?_ hHeld ?_
      rotate_left
      ·intro w' hSw
       go_simp
       first | done | with_reducible rfl
      simp only [Act.put, pS, pZ, pC]
      refine tk 1 52 (v := ?_) rfl ?_ hHeld ?_
      rotate_left
      ·intro w' hSw
       go_simp
       first | done | with_reducible rfl
      simp only [Act.put, pS, pZ, pC]
      refine tk 2 53 (v := ?_) rfl ?_ hHeld ?_
      rotate_left
      ·intro w' hSw
       go_simp
       first | done | with_reducible rfl
      simp only [Act.put, pS, pZ, pC]
      refine tk 3 54 (v := ?_) rfl ?_ hHeld ?_
      rotate_left
      ·intro w' hSw
       go_simp
       first | done | with_reducible rfl
      simp only [Act.put, pS, pZ, pC]
      refine tk 4 55 (v := ?_) rfl ?_ hHeld ?_
      rotate_left
      ·intro w' hSw
       go_simp
       first | done | with_reducible rfl
      simp only [Act.put, pS, pZ, pC]
      refine tk 5 56 (v := ?_) rfl ?_ hHeld ?_
      rotate_left
      ·intro w' hSw
       have y0 := k0 w' hSw
       have y1 := k1 w' hSw
       have y2 := k2 w' hSw
       go_simp
       first | done | with_reducible rfl
      simp only [Act.put, pS, pZ, pC]
      refine wpAnyH_ready (rs := [6]) (by kernel_rfl) (by simp) ?_
      refine AllReadyH.cons rfl (fun K hK => ?_) AllReadyH.nil
      go_simp
      refine (CK.out _ SB.out).mono ?_
      rintro e wz ⟨rfl, hbz⟩
      have bz := Bel.step SB.out hbz
      clear hbz
      refine hK.out _ _ (bz) (fun hHeld => ?_)
      clear hK K
      try simp only [Act.put, pS, pZ, pC]
      cases hv
      ·have AE := Lib.hid (show false = isH l n er en xs g (i + 1) from by rw [isH, ← his.out, AL.out]; rfl)
       clear AL his 
       refine tk 7 58 (v := ?_) rfl ?_ hHeld ?_
       rotate_left
       ·intro w' hSw
        go_simp
        first | done | with_reducible rfl
       simp only [Act.put, pS, pZ, pC]
       refine sk 8 59 rfl hHeld (sk 9 60 rfl hHeld (sk 10 61 rfl hHeld (sk 11 62 rfl hHeld (sk 12 63 rfl hHeld (sk 13 64 rfl hHeld (sk 14 65 rfl hHeld (sk 15 66 rfl hHeld ?_)))))))
       simp only [Act.put, pS, pZ, pC]
       refine tk 16 67 (v := ?_) rfl ?_ hHeld ?_
       rotate_left
       ·intro w' hSw
        go_simp
        first | done | with_reducible rfl
       simp only [Act.put, pS, pZ, pC]
       refine tk 17 68 (v := ?_) rfl ?_ hHeld ?_
       rotate_left
       ·intro w' hSw
        go_simp
        first | done | with_reducible rfl
       simp only [Act.put, pS, pZ, pC]
       refine sk 18 69 rfl hHeld (sk 19 70 rfl hHeld (sk 20 71 rfl hHeld (sk 21 72 rfl hHeld (sk 22 73 rfl hHeld (sk 23 74 rfl hHeld (sk 24 75 rfl hHeld (sk 25 76 rfl hHeld ?_)))))))
       simp only [Act.put, pS, pZ, pC]
       refine tk 26 77 (v := ?_) rfl ?_ hHeld ?_
       rotate_left
       ·intro w' hSw
        go_simp
        first | done | with_reducible rfl
       simp only [Act.put, pS, pZ, pC]
       refine tk 27 78 (v := ?_) rfl ?_ hHeld ?_
       rotate_left
       ·intro w' hSw
        go_simp
        first | done | with_reducible rfl
       simp only [Act.put, pS, pZ, pC]
       refine sk 28 79 rfl hHeld (sk 29 80 rfl hHeld (sk 30 81 rfl hHeld (sk 31 82 rfl hHeld (sk 32 83 rfl hHeld (sk 33 84 rfl hHeld (sk 34 85 rfl hHeld (sk 35 86 rfl hHeld (sk 36 87 rfl hHeld (sk 37 88 rfl hHeld (sk 38 89 rfl hHeld ?_))))))))))
       simp only [Act.put, pS, pZ, pC]
       refine tk 39 90 (v := ?_) rfl ?_ hHeld ?_
       rotate_left
       ·intro w' hSw
        go_simp
        first | done | with_reducible rfl
       simp only [Act.put, pS, pZ, pC]
       refine tk 40 91 (v := ?_) rfl ?_ hHeld ?_
       rotate_left
       ·intro w' hSw
        go_simp
        first | done | with_reducible rfl
       simp only [Act.put, pS, pZ, pC]
       refine sk 41 92 rfl hHeld (sk 42 93 rfl hHeld (sk 43 94 rfl hHeld (sk 44 95 rfl hHeld (sk 45 96 rfl hHeld (sk 46 97 rfl hHeld (sk 47 98 rfl hHeld ?_))))))
       simp only [Act.put, pS, pZ, pC]
       refine tk 48 99 (v := ?_) rfl ?_ hHeld ?_
       rotate_left
       ·intro w' hSw
        go_simp
        first | done | with_reducible rfl
       simp only [Act.put, pS, pZ, pC]
       refine tk 49 100 (v := ?_) rfl ?_ hHeld ?_
       rotate_left
       ·intro w' hSw
        go_simp
        first | done | with_reducible rfl
       simp only [Act.put, pS, pZ, pC]
       refine sk 50 101 rfl hHeld (sk 51 102 rfl hHeld (sk 52 103 rfl hHeld (sk 53 104 rfl hHeld (sk 54 105 rfl hHeld (sk 55 106 rfl hHeld ?_)))))
       simp only [Act.put, pS, pZ, pC]
       refine tk 56 107 (v := ?_) rfl ?_ hHeld ?_
       rotate_left
       ·intro w' hSw
        go_simp
        first | done | with_reducible rfl
       simp only [Act.put, pS, pZ, pC]
       refine tk 57 108 (v := ?_) rfl ?_ hHeld ?_
       rotate_left
       ·intro w' hSw
        go_simp
        first | done | with_reducible rfl
       simp only [Act.put, pS, pZ, pC]
       refine tk 58 9 (v := ?_) rfl ?_ hHeld ?_
       rotate_left
       ·intro w' hSw
        go_simp
        first | done | with_reducible rfl
       simp only [Act.put, pS, pZ, pC]
       refine wpAnyH_done (by kernel_rfl) ?_ _
       have BZ := Lib.hid bz.b
       clear c0 c1 c2 c3 c4 c5 c6 c7 c8 c9 c10 g0 g1 g2 g3 g4 g5 g6 g7 g8 g9 g10 k0 k1 k2 SB CK CN
       go_wp2_with fail
       go_roundw
       case rel => exact ⟨i + 1, _, by omega, AE, rfl, by go_num, BZ⟩
       case measure => simp [intOf]; omega
      ·refine tk 7 58 (v := ?_) rfl ?_ hHeld ?_
       rotate_left
       ·intro w' hSw
        go_simp
        first | done | with_reducible rfl
       simp only [Act.put, pS, pZ, pC]
       by_cases q5a : p5 = q3
       ·have f0 : (p5 == q3) = true := by simp [q5a]
        refine tk 8 59 (v := ?_) rfl ?_ hHeld ?_
        rotate_left
        ·intro w' hSw
         go_simp
         first | done | with_reducible rfl
        simp only [Act.put, pS, pZ, pC]
        refine tk 9 60 (v := ?_) rfl ?_ hHeld ?_
        rotate_left
        ·intro w' hSw
         go_simp
         first | done | with_reducible rfl
        simp only [Act.put, pS, pZ, pC]
        refine tk 10 61 (v := ?_) rfl ?_ hHeld ?_
        rotate_left
        ·intro w' hSw
         go_simp
         first | done | with_reducible rfl
        simp only [Act.put, pS, pZ, pC]
        refine tk 11 62 (v := ?_) rfl ?_ hHeld ?_
        rotate_left
        ·intro w' hSw
         go_simp
         first | done | with_reducible rfl
        simp only [Act.put, pS, pZ, pC]
        refine tk 12 63 (v := ?_) rfl ?_ hHeld ?_
        rotate_left
        ·intro w' hSw
         have e5 := c5 w' hSw
         go_simp
         first | done | with_reducible rfl
        simp only [Act.put, pS, pZ, pC]
        refine tk 13 64 (v := ?_) rfl ?_ hHeld ?_
        rotate_left
        ·intro w' hSw
         go_simp
         first | done | with_reducible rfl
        simp only [Act.put, pS, pZ, pC]
        refine tk 14 65 (v := ?_) rfl ?_ hHeld ?_
        rotate_left
        ·intro w' hSw
         have e3 := g3 w' hSw
         go_simp
         first | done | with_reducible rfl
        simp only [Act.put, pS, pZ, pC]
        refine tk 15 66 (v := ?_) rfl ?_ hHeld ?_
        rotate_left
        ·intro w' hSw
         go_simp
         first | done | with_reducible rfl
        simp only [Act.put, pS, pZ, pC]
        refine tk 16 67 (v := ?_) rfl ?_ hHeld ?_
        rotate_left
        ·intro w' hSw
         go_simp
         first | done | with_reducible rfl
        simp only [Act.put, pS, pZ, pC]
        refine tk 17 68 (v := ?_) rfl ?_ hHeld ?_
        rotate_left
        ·intro w' hSw
         go_simp
         first | done | with_reducible rfl
        simp only [Act.put, pS, pZ, pC]
        by_cases q6a : p6 = q6
        ·have f1 : (p6 == q6) = true := by simp [q6a]
         refine tk 18 69 (v := ?_) rfl ?_ hHeld ?_
         rotate_left
         ·intro w' hSw
          go_simp
          first | done | with_reducible rfl
         simp only [Act.put, pS, pZ, pC]
         refine tk 19 70 (v := ?_) rfl ?_ hHeld ?_
         rotate_left
         ·intro w' hSw
          go_simp
          first | done | with_reducible rfl
         simp only [Act.put, pS, pZ, pC]
         refine tk 20 71 (v := ?_) rfl ?_ hHeld ?_
         rotate_left
         ·intro w' hSw
          go_simp
          first | done | with_reducible rfl
         simp only [Act.put, pS, pZ, pC]
         refine tk 21 72 (v := ?_) rfl ?_ hHeld ?_
         rotate_left
         ·intro w' hSw
          go_simp
          first | done | with_reducible rfl
         simp only [Act.put, pS, pZ, pC]
         refine tk 22 73 (v := ?_) rfl ?_ hHeld ?_
         rotate_left
         ·intro w' hSw
          have e6 := c6 w' hSw
          go_simp
          first | done | with_reducible rfl
         simp only [Act.put, pS, pZ, pC]
         refine tk 23 74 (v := ?_) rfl ?_ hHeld ?_
         rotate_left
         ·intro w' hSw
          go_simp
          first | done | with_reducible rfl
         simp only [Act.put, pS, pZ, pC]
         refine tk 24 75 (v := ?_) rfl ?_ hHeld ?_
         rotate_left
         ·intro w' hSw
          have e6 := g6 w' hSw
          go_simp
          first | done | with_reducible rfl
         simp only [Act.put, pS, pZ, pC]
         refine tk 25 76 (v := ?_) rfl ?_ hHeld ?_
         rotate_left
         ·intro w' hSw
          go_simp
          first | done | with_reducible rfl
         simp only [Act.put, pS, pZ, pC]
         refine tk 26 77 (v := ?_) rfl ?_ hHeld ?_
         rotate_left
         ·intro w' hSw
          go_simp
          first | done | with_reducible rfl
         simp only [Act.put, pS, pZ, pC]
         refine tk 27 78 (v := ?_) rfl ?_ hHeld ?_
         rotate_left
         ·intro w' hSw
          go_simp
          first | done | with_reducible rfl
         simp only [Act.put, pS, pZ, pC]
         by_cases q7a : bits .and .i64 p7 q7 = q7
         ·have f2 : (bits .and .i64 p7 q7 == q7) = true := by simp [q7a]
          refine tk 28 79 (v := ?_) rfl ?_ hHeld ?_
          rotate_left
          ·intro w' hSw
           go_simp
           first | done | with_reducible rfl
          simp only [Act.put, pS, pZ, pC]
          refine tk 29 80 (v := ?_) rfl ?_ hHeld ?_
          rotate_left
          ·intro w' hSw
           go_simp
           first | done | with_reducible rfl
          simp only [Act.put, pS, pZ, pC]
          refine tk 30 81 (v := ?_) rfl ?_ hHeld ?_
          rotate_left
          ·intro w' hSw
           go_simp
           first | done | with_reducible rfl
          simp only [Act.put, pS, pZ, pC]
          refine tk 31 82 (v := ?_) rfl ?_ hHeld ?_
          rotate_left
          ·intro w' hSw
           go_simp
           first | done | with_reducible rfl
          simp only [Act.put, pS, pZ, pC]
          refine tk 32 83 (v := ?_) rfl ?_ hHeld ?_
          rotate_left
          ·intro w' hSw
           have e7 := c7 w' hSw
           go_simp
           first | done | with_reducible rfl
          simp only [Act.put, pS, pZ, pC]
          refine tk 33 84 (v := ?_) rfl ?_ hHeld ?_
          rotate_left
          ·intro w' hSw
           go_simp
           first | done | with_reducible rfl
          simp only [Act.put, pS, pZ, pC]
          refine tk 34 85 (v := ?_) rfl ?_ hHeld ?_
          rotate_left
          ·intro w' hSw
           have e7 := g7 w' hSw
           go_simp
           first | done | with_reducible rfl
          simp only [Act.put, pS, pZ, pC]
          refine tk 35 86 (v := ?_) rfl ?_ hHeld ?_
          rotate_left
          ·intro w' hSw
           go_simp
           first | done | with_reducible rfl
          simp only [Act.put, pS, pZ, pC]
          refine tk 36 87 (v := ?_) rfl ?_ hHeld ?_
          rotate_left
          ·intro w' hSw
           go_simp
           first | done | with_reducible rfl
          simp only [Act.put, pS, pZ, pC]
          refine tk 37 88 (v := ?_) rfl ?_ hHeld ?_
          rotate_left
          ·intro w' hSw
           have e7 := g7 w' hSw
           go_simp
           first | done | with_reducible rfl
          simp only [Act.put, pS, pZ, pC]
          refine tk 38 89 (v := ?_) rfl ?_ hHeld ?_
          rotate_left
          ·intro w' hSw
           go_simp
           first | done | with_reducible rfl
          simp only [Act.put, pS, pZ, pC]
          refine tk 39 90 (v := ?_) rfl ?_ hHeld ?_
          rotate_left
          ·intro w' hSw
           go_simp
           first | done | with_reducible rfl
          simp only [Act.put, pS, pZ, pC]
          refine tk 40 91 (v := ?_) rfl ?_ hHeld ?_
          rotate_left
          ·intro w' hSw
           go_simp
           first | done | with_reducible rfl
          simp only [Act.put, pS, pZ, pC]
          by_cases q8a : bits .and .i64 p7 8 = 0
          ·have f3 : (bits .and .i64 p7 8 != 0) = false := by simp [q8a]
           have AE := Lib.hid (show false = isH l n er en xs g (i + 1) from by rw [isH, ← his.out, AL.out]; simp [q5a, q6a, q7a, q8a])
           clear AL his q5a q6a q7a q8a
           refine tk 41 92 (v := ?_) rfl ?_ hHeld ?_
           rotate_left
           ·intro w' hSw
            go_simp
            first | done | with_reducible rfl
           simp only [Act.put, pS, pZ, pC]
           refine tk 42 93 (v := ?_) rfl ?_ hHeld ?_
           rotate_left
           ·intro w' hSw
            go_simp
            first | done | with_reducible rfl
           simp only [Act.put, pS, pZ, pC]
           refine tk 43 94 (v := ?_) rfl ?_ hHeld ?_
           rotate_left
           ·intro w' hSw
            go_simp
            first | done | with_reducible rfl
           simp only [Act.put, pS, pZ, pC]
           refine tk 44 95 (v := ?_) rfl ?_ hHeld ?_
           rotate_left
           ·intro w' hSw
            go_simp
            first | done | with_reducible rfl
           simp only [Act.put, pS, pZ, pC]
           refine tk 45 96 (v := ?_) rfl ?_ hHeld ?_
           rotate_left
           ·intro w' hSw
            have e7 := c7 w' hSw
            go_simp
            first | done | with_reducible rfl
           simp only [Act.put, pS, pZ, pC]
           refine tk 46 97 (v := ?_) rfl ?_ hHeld ?_
           rotate_left
           ·intro w' hSw
            go_simp
            first | done | with_reducible rfl
           simp only [Act.put, pS, pZ, pC]
           refine tk 47 98 (v := ?_) rfl ?_ hHeld ?_
           rotate_left
           ·intro w' hSw
            go_simp
            first | done | with_reducible rfl
           simp only [Act.put, pS, pZ, pC]
           refine tk 48 99 (v := ?_) rfl ?_ hHeld ?_
           rotate_left
           ·intro w' hSw
            go_simp
            first | done | with_reducible rfl
           simp only [Act.put, pS, pZ, pC]
           refine tk 49 100 (v := ?_) rfl ?_ hHeld ?_
           rotate_left
           ·intro w' hSw
            go_simp
            first | done | with_reducible rfl
           simp only [Act.put, pS, pZ, pC]
           refine sk 50 101 rfl hHeld (sk 51 102 rfl hHeld (sk 52 103 rfl hHeld (sk 53 104 rfl hHeld (sk 54 105 rfl hHeld (sk 55 106 rfl hHeld ?_)))))
           simp only [Act.put, pS, pZ, pC]
           refine tk 56 107 (v := ?_) rfl ?_ hHeld ?_
           rotate_left
           ·intro w' hSw
            go_simp
            first | done | with_reducible rfl
           simp only [Act.put, pS, pZ, pC]
           refine tk 57 108 (v := ?_) rfl ?_ hHeld ?_
           rotate_left
           ·intro w' hSw
            go_simp
            first | done | with_reducible rfl
           simp only [Act.put, pS, pZ, pC]
           refine tk 58 9 (v := ?_) rfl ?_ hHeld ?_
           rotate_left
           ·intro w' hSw
            go_simp
            first | done | with_reducible rfl
           simp only [Act.put, pS, pZ, pC]
           refine wpAnyH_done (by kernel_rfl) ?_ _
           have BZ := Lib.hid bz.b
           clear c0 c1 c2 c3 c4 c5 c6 c7 c8 c9 c10 g0 g1 g2 g3 g4 g5 g6 g7 g8 g9 g10 k0 k1 k2 SB CK CN
           go_wp2_with fail
           go_roundw
           case rel => exact ⟨i + 1, _, by omega, AE, rfl, by go_num, BZ⟩
           case measure => simp [intOf]; omega
          ·have f3 : (bits .and .i64 p7 8 != 0) = true := by simp [q8a]
           generalize knowsM _ _ = kb at CN AL
           have AE := Lib.hid (show kb = isH l n er en xs g (i + 1) from by rw [isH, ← his.out, AL.out]; simp [q5a, q6a, q7a, q8a])
           clear AL his q5a q6a q7a q8a
           refine tk 41 92 (v := ?_) rfl ?_ hHeld ?_
           rotate_left
           ·intro w' hSw
            go_simp
            first | done | with_reducible rfl
           simp only [Act.put, pS, pZ, pC]
           refine tk 42 93 (v := ?_) rfl ?_ hHeld ?_
           rotate_left
           ·intro w' hSw
            go_simp
            first | done | with_reducible rfl
           simp only [Act.put, pS, pZ, pC]
           refine tk 43 94 (v := ?_) rfl ?_ hHeld ?_
           rotate_left
           ·intro w' hSw
            go_simp
            first | done | with_reducible rfl
           simp only [Act.put, pS, pZ, pC]
           refine tk 44 95 (v := ?_) rfl ?_ hHeld ?_
           rotate_left
           ·intro w' hSw
            go_simp
            first | done | with_reducible rfl
           simp only [Act.put, pS, pZ, pC]
           refine tk 45 96 (v := ?_) rfl ?_ hHeld ?_
           rotate_left
           ·intro w' hSw
            have e7 := c7 w' hSw
            go_simp
            first | done | with_reducible rfl
           simp only [Act.put, pS, pZ, pC]
           refine tk 46 97 (v := ?_) rfl ?_ hHeld ?_
           rotate_left
           ·intro w' hSw
            go_simp
            first | done | with_reducible rfl
           simp only [Act.put, pS, pZ, pC]
           refine tk 47 98 (v := ?_) rfl ?_ hHeld ?_
           rotate_left
           ·intro w' hSw
            go_simp
            first | done | with_reducible rfl
           simp only [Act.put, pS, pZ, pC]
           refine tk 48 99 (v := ?_) rfl ?_ hHeld ?_
           rotate_left
           ·intro w' hSw
            go_simp
            first | done | with_reducible rfl
           simp only [Act.put, pS, pZ, pC]
           refine tk 49 100 (v := ?_) rfl ?_ hHeld ?_
           rotate_left
           ·intro w' hSw
            go_simp
            first | done | with_reducible rfl
           simp only [Act.put, pS, pZ, pC]
           refine tk 50 101 (v := ?_) rfl ?_ hHeld ?_
           rotate_left
           ·intro w' hSw
            have y0 := g0 w' hSw
            have y1 := g1 w' hSw
            have y2 := g2 w' hSw
            have y3 := g3 w' hSw
            have y4 := g4 w' hSw
            have y5 := g5 w' hSw
            have y6 := g6 w' hSw
            have y7 := g7 w' hSw
            have y8 := g8 w' hSw
            have y9 := g9 w' hSw
            have y10 := g10 w' hSw
            go_simp
            first | done | with_reducible rfl
           simp only [Act.put, pS, pZ, pC]
           refine tk 51 102 (v := ?_) rfl ?_ hHeld ?_
           rotate_left
           ·intro w' hSw
            go_simp
            first | done | with_reducible rfl
           simp only [Act.put, pS, pZ, pC]
           refine tk 52 103 (v := ?_) rfl ?_ hHeld ?_
           rotate_left
           ·intro w' hSw
            go_simp
            first | done | with_reducible rfl
           simp only [Act.put, pS, pZ, pC]
           refine tk 53 104 (v := ?_) rfl ?_ hHeld ?_
           rotate_left
           ·intro w' hSw
            go_simp
            first | done | with_reducible rfl
           simp only [Act.put, pS, pZ, pC]
           refine tk 54 105 (v := ?_) rfl ?_ hHeld ?_
           rotate_left
           ·intro w' hSw
            have y0 := c0 w' hSw
            have y1 := c1 w' hSw
            have y2 := c2 w' hSw
            have y3 := c3 w' hSw
            have y4 := c4 w' hSw
            have y5 := c5 w' hSw
            have y6 := c6 w' hSw
            have y7 := c7 w' hSw
            have y8 := c8 w' hSw
            have y9 := c9 w' hSw
            have y10 := c10 w' hSw
            go_simp
            first | done | with_reducible rfl
           simp only [Act.put, pS, pZ, pC]
           refine wpAnyH_ready (rs := [55]) (by kernel_rfl) (by simp) ?_
           refine AllReadyH.cons rfl (fun K hK => ?_) AllReadyH.nil
           go_simp
           refine (CN.out _ bz).mono ?_
           rintro e wy ⟨rfl, hby⟩
           have by_ := Bel.step bz hby
           clear hby
           refine hK.out _ _ (by_) (fun hHeld => ?_)
           clear hK K
           try simp only [Act.put, pS, pZ, pC]
           refine tk 56 107 (v := ?_) rfl ?_ hHeld ?_
           rotate_left
           ·intro w' hSw
            go_simp
            first | done | with_reducible rfl
           simp only [Act.put, pS, pZ, pC]
           refine tk 57 108 (v := ?_) rfl ?_ hHeld ?_
           rotate_left
           ·intro w' hSw
            go_simp
            first | done | with_reducible rfl
           simp only [Act.put, pS, pZ, pC]
           refine tk 58 9 (v := ?_) rfl ?_ hHeld ?_
           rotate_left
           ·intro w' hSw
            go_simp
            first | done | with_reducible rfl
           simp only [Act.put, pS, pZ, pC]
           refine wpAnyH_done (by kernel_rfl) ?_ _
           have BZ := Lib.hid by_.b
           clear c0 c1 c2 c3 c4 c5 c6 c7 c8 c9 c10 g0 g1 g2 g3 g4 g5 g6 g7 g8 g9 g10 k0 k1 k2 SB CK CN
           go_wp2_with fail
           go_roundw
           case rel => exact ⟨i + 1, _, by omega, AE, rfl, by go_num, BZ⟩
           case measure => simp [intOf]; omega
         ·have f2 : (bits .and .i64 p7 q7 == q7) = false := by simp [q7a]
          have AE := Lib.hid (show false = isH l n er en xs g (i + 1) from by rw [isH, ← his.out, AL.out]; simp [q5a, q6a, q7a])
          clear AL his q5a q6a q7a
          refine tk 28 79 (v := ?_) rfl ?_ hHeld ?_
          rotate_left
          ·intro w' hSw
           go_simp
           first | done | with_reducible rfl
          simp only [Act.put, pS, pZ, pC]
          refine tk 29 80 (v := ?_) rfl ?_ hHeld ?_
          rotate_left
          ·intro w' hSw
           go_simp
           first | done | with_reducible rfl
          simp only [Act.put, pS, pZ, pC]
          refine tk 30 81 (v := ?_) rfl ?_ hHeld ?_
          rotate_left
          ·intro w' hSw
           go_simp
           first | done | with_reducible rfl
          simp only [Act.put, pS, pZ, pC]
          refine tk 31 82 (v := ?_) rfl ?_ hHeld ?_
          rotate_left
          ·intro w' hSw
           go_simp
           first | done | with_reducible rfl
          simp only [Act.put, pS, pZ, pC]
          refine tk 32 83 (v := ?_) rfl ?_ hHeld ?_
          rotate_left
          ·intro w' hSw
           have e7 := c7 w' hSw
           go_simp
           first | done | with_reducible rfl
          simp only [Act.put, pS, pZ, pC]
          refine tk 33 84 (v := ?_) rfl ?_ hHeld ?_
          rotate_left
          ·intro w' hSw
           go_simp
           first | done | with_reducible rfl
          simp only [Act.put, pS, pZ, pC]
          refine tk 34 85 (v := ?_) rfl ?_ hHeld ?_
          rotate_left
          ·intro w' hSw
           have e7 := g7 w' hSw
           go_simp
           first | done | with_reducible rfl
          simp only [Act.put, pS, pZ, pC]
          refine tk 35 86 (v := ?_) rfl ?_ hHeld ?_
          rotate_left
          ·intro w' hSw
           go_simp
           first | done | with_reducible rfl
          simp only [Act.put, pS, pZ, pC]
          refine tk 36 87 (v := ?_) rfl ?_ hHeld ?_
          rotate_left
          ·intro w' hSw
           go_simp
           first | done | with_reducible rfl
          simp only [Act.put, pS, pZ, pC]
          refine tk 37 88 (v := ?_) rfl ?_ hHeld ?_
          rotate_left
          ·intro w' hSw
           have e7 := g7 w' hSw
           go_simp
           first | done | with_reducible rfl
          simp only [Act.put, pS, pZ, pC]
          refine tk 38 89 (v := ?_) rfl ?_ hHeld ?_
          rotate_left
          ·intro w' hSw
           go_simp
           first | done | with_reducible rfl
          simp only [Act.put, pS, pZ, pC]
          refine tk 39 90 (v := ?_) rfl ?_ hHeld ?_
          rotate_left
          ·intro w' hSw
           go_simp
           first | done | with_reducible rfl
          simp only [Act.put, pS, pZ, pC]
          refine tk 40 91 (v := ?_) rfl ?_ hHeld ?_
          rotate_left
          ·intro w' hSw
           go_simp
           first | done | with_reducible rfl
          simp only [Act.put, pS, pZ, pC]
          refine sk 41 92 rfl hHeld (sk 42 93 rfl hHeld (sk 43 94 rfl hHeld (sk 44 95 rfl hHeld (sk 45 96 rfl hHeld (sk 46 97 rfl hHeld (sk 47 98 rfl hHeld ?_))))))
          simp only [Act.put, pS, pZ, pC]
          refine tk 48 99 (v := ?_) rfl ?_ hHeld ?_
          rotate_left
          ·intro w' hSw
           go_simp
           first | done | with_reducible rfl
          simp only [Act.put, pS, pZ, pC]
          refine tk 49 100 (v := ?_) rfl ?_ hHeld ?_
          rotate_left
          ·intro w' hSw
           go_simp
           first | done | with_reducible rfl
          simp only [Act.put, pS, pZ, pC]
          refine sk 50 101 rfl hHeld (sk 51 102 rfl hHeld (sk 52 103 rfl hHeld (sk 53 104 rfl hHeld (sk 54 105 rfl hHeld (sk 55 106 rfl hHeld ?_)))))
          simp only [Act.put, pS, pZ, pC]
          refine tk 56 107 (v := ?_) rfl ?_ hHeld ?_
          rotate_left
          ·intro w' hSw
           go_simp
           first | done | with_reducible rfl
          simp only [Act.put, pS, pZ, pC]
          refine tk 57 108 (v := ?_) rfl ?_ hHeld ?_
          rotate_left
          ·intro w' hSw
           go_simp
           first | done | with_reducible rfl
          simp only [Act.put, pS, pZ, pC]
          refine tk 58 9 (v := ?_) rfl ?_ hHeld ?_
          rotate_left
          ·intro w' hSw
           go_simp
           first | done | with_reducible rfl
          simp only [Act.put, pS, pZ, pC]
          refine wpAnyH_done (by kernel_rfl) ?_ _
          have BZ := Lib.hid bz.b
          clear c0 c1 c2 c3 c4 c5 c6 c7 c8 c9 c10 g0 g1 g2 g3 g4 g5 g6 g7 g8 g9 g10 k0 k1 k2 SB CK CN
          go_wp2_with fail
          go_roundw
          case rel => exact ⟨i + 1, _, by omega, AE, rfl, by go_num, BZ⟩
          case measure => simp [intOf]; omega
        ·have f1 : (p6 == q6) = false := by simp [q6a]
         have AE := Lib.hid (show false = isH l n er en xs g (i + 1) from by rw [isH, ← his.out, AL.out]; simp [q5a, q6a])
         clear AL his q5a q6a
         refine tk 18 69 (v := ?_) rfl ?_ hHeld ?_
         rotate_left
         ·intro w' hSw
          go_simp
          first | done | with_reducible rfl
         simp only [Act.put, pS, pZ, pC]
         refine tk 19 70 (v := ?_) rfl ?_ hHeld ?_
         rotate_left
         ·intro w' hSw
          go_simp
          first | done | with_reducible rfl
         simp only [Act.put, pS, pZ, pC]
         refine tk 20 71 (v := ?_) rfl ?_ hHeld ?_
         rotate_left
         ·intro w' hSw
          go_simp
          first | done | with_reducible rfl
         simp only [Act.put, pS, pZ, pC]
         refine tk 21 72 (v := ?_) rfl ?_ hHeld ?_
         rotate_left
         ·intro w' hSw
          go_simp
          first | done | with_reducible rfl
         simp only [Act.put, pS, pZ, pC]
         refine tk 22 73 (v := ?_) rfl ?_ hHeld ?_
         rotate_left
         ·intro w' hSw
          have e6 := c6 w' hSw
          go_simp
          first | done | with_reducible rfl
         simp only [Act.put, pS, pZ, pC]
         refine tk 23 74 (v := ?_) rfl ?_ hHeld ?_
         rotate_left
         ·intro w' hSw
          go_simp
          first | done | with_reducible rfl
         simp only [Act.put, pS, pZ, pC]
         refine tk 24 75 (v := ?_) rfl ?_ hHeld ?_
         rotate_left
         ·intro w' hSw
          have e6 := g6 w' hSw
          go_simp
          first | done | with_reducible rfl
         simp only [Act.put, pS, pZ, pC]
         refine tk 25 76 (v := ?_) rfl ?_ hHeld ?_
         rotate_left
         ·intro w' hSw
          go_simp
          first | done | with_reducible rfl
         simp only [Act.put, pS, pZ, pC]
         refine tk 26 77 (v := ?_) rfl ?_ hHeld ?_
         rotate_left
         ·intro w' hSw
          go_simp
          first | done | with_reducible rfl
         simp only [Act.put, pS, pZ, pC]
         refine tk 27 78 (v := ?_) rfl ?_ hHeld ?_
         rotate_left
         ·intro w' hSw
          go_simp
          first | done | with_reducible rfl
         simp only [Act.put, pS, pZ, pC]
         refine sk 28 79 rfl hHeld (sk 29 80 rfl hHeld (sk 30 81 rfl hHeld (sk 31 82 rfl hHeld (sk 32 83 rfl hHeld (sk 33 84 rfl hHeld (sk 34 85 rfl hHeld (sk 35 86 rfl hHeld (sk 36 87 rfl hHeld (sk 37 88 rfl hHeld (sk 38 89 rfl hHeld ?_))))))))))
         simp only [Act.put, pS, pZ, pC]
         refine tk 39 90 (v := ?_) rfl ?_ hHeld ?_
         rotate_left
         ·intro w' hSw
          go_simp
          first | done | with_reducible rfl
         simp only [Act.put, pS, pZ, pC]
         refine tk 40 91 (v := ?_) rfl ?_ hHeld ?_
         rotate_left
         ·intro w' hSw
          go_simp
          first | done | with_reducible rfl
         simp only [Act.put, pS, pZ, pC]
         refine sk 41 92 rfl hHeld (sk 42 93 rfl hHeld (sk 43 94 rfl hHeld (sk 44 95 rfl hHeld (sk 45 96 rfl hHeld (sk 46 97 rfl hHeld (sk 47 98 rfl hHeld ?_))))))
         simp only [Act.put, pS, pZ, pC]
         refine tk 48 99 (v := ?_) rfl ?_ hHeld ?_
         rotate_left
         ·intro w' hSw
          go_simp
          first | done | with_reducible rfl
         simp only [Act.put, pS, pZ, pC]
         refine tk 49 100 (v := ?_) rfl ?_ hHeld ?_
         rotate_left
         ·intro w' hSw
          go_simp
          first | done | with_reducible rfl
         simp only [Act.put, pS, pZ, pC]
         refine sk 50 101 rfl hHeld (sk 51 102 rfl hHeld (sk 52 103 rfl hHeld (sk 53 104 rfl hHeld (sk 54 105 rfl hHeld (sk 55 106 rfl hHeld ?_)))))
         simp only [Act.put, pS, pZ, pC]
         refine tk 56 107 (v := ?_) rfl ?_ hHeld ?_
         rotate_left
         ·intro w' hSw
          go_simp
          first | done | with_reducible rfl
         simp only [Act.put, pS, pZ, pC]
         refine tk 57 108 (v := ?_) rfl ?_ hHeld ?_
         rotate_left
         ·intro w' hSw
          go_simp
          first | done | with_reducible rfl
         simp only [Act.put, pS, pZ, pC]
         refine tk 58 9 (v := ?_) rfl ?_ hHeld ?_
         rotate_left
         ·intro w' hSw
          go_simp
          first | done | with_reducible rfl
         simp only [Act.put, pS, pZ, pC]
         refine wpAnyH_done (by kernel_rfl) ?_ _
         have BZ := Lib.hid bz.b
         clear c0 c1 c2 c3 c4 c5 c6 c7 c8 c9 c10 g0 g1 g2 g3 g4 g5 g6 g7 g8 g9 g10 k0 k1 k2 SB CK CN
         go_wp2_with fail
         go_roundw
         case rel => exact ⟨i + 1, _, by omega, AE, rfl, by go_num, BZ⟩
         case measure => simp [intOf]; omega
       ·have f0 : (p5 == q3) = false := by simp [q5a]
        have AE := Lib.hid (show false = isH l n er en xs g (i + 1) from by rw [isH, ← his.out, AL.out]; simp [q5a])
        clear AL his q5a
        refine tk 8 59 (v := ?_) rfl ?_ hHeld ?_
        rotate_left
        ·intro w' hSw
         go_simp
         first | done | with_reducible rfl
        simp only [Act.put, pS, pZ, pC]
        refine tk 9 60 (v := ?_) rfl ?_ hHeld ?_
        rotate_left
        ·intro w' hSw
         go_simp
         first | done | with_reducible rfl
        simp only [Act.put, pS, pZ, pC]
        refine tk 10 61 (v := ?_) rfl ?_ hHeld ?_
        rotate_left
        ·intro w' hSw
         go_simp
         first | done | with_reducible rfl
        simp only [Act.put, pS, pZ, pC]
        refine tk 11 62 (v := ?_) rfl ?_ hHeld ?_
        rotate_left
        ·intro w' hSw
         go_simp
         first | done | with_reducible rfl
        simp only [Act.put, pS, pZ, pC]
        refine tk 12 63 (v := ?_) rfl ?_ hHeld ?_
        rotate_left
        ·intro w' hSw
         have e5 := c5 w' hSw
         go_simp
         first | done | with_reducible rfl
        simp only [Act.put, pS, pZ, pC]
        refine tk 13 64 (v := ?_) rfl ?_ hHeld ?_
        rotate_left
        ·intro w' hSw
         go_simp
         first | done | with_reducible rfl
        simp only [Act.put, pS, pZ, pC]
        refine tk 14 65 (v := ?_) rfl ?_ hHeld ?_
        rotate_left
        ·intro w' hSw
         have e3 := g3 w' hSw
         go_simp
         first | done | with_reducible rfl
        simp only [Act.put, pS, pZ, pC]
        refine tk 15 66 (v := ?_) rfl ?_ hHeld ?_
        rotate_left
        ·intro w' hSw
         go_simp
         first | done | with_reducible rfl
        simp only [Act.put, pS, pZ, pC]
        refine tk 16 67 (v := ?_) rfl ?_ hHeld ?_
        rotate_left
        ·intro w' hSw
         go_simp
         first | done | with_reducible rfl
        simp only [Act.put, pS, pZ, pC]
        refine tk 17 68 (v := ?_) rfl ?_ hHeld ?_
        rotate_left
        ·intro w' hSw
         go_simp
         first | done | with_reducible rfl
        simp only [Act.put, pS, pZ, pC]
        refine sk 18 69 rfl hHeld (sk 19 70 rfl hHeld (sk 20 71 rfl hHeld (sk 21 72 rfl hHeld (sk 22 73 rfl hHeld (sk 23 74 rfl hHeld (sk 24 75 rfl hHeld (sk 25 76 rfl hHeld ?_)))))))
        simp only [Act.put, pS, pZ, pC]
        refine tk 26 77 (v := ?_) rfl ?_ hHeld ?_
        rotate_left
        ·intro w' hSw
         go_simp
         first | done | with_reducible rfl
        simp only [Act.put, pS, pZ, pC]
        refine tk 27 78 (v := ?_) rfl ?_ hHeld ?_
        rotate_left
        ·intro w' hSw
         go_simp
         first | done | with_reducible rfl
        simp only [Act.put, pS, pZ, pC]
        refine sk 28 79 rfl hHeld (sk 29 80 rfl hHeld (sk 30 81 rfl hHeld (sk 31 82 rfl hHeld (sk 32 83 rfl hHeld (sk 33 84 rfl hHeld (sk 34 85 rfl hHeld (sk 35 86 rfl hHeld (sk 36 87 rfl hHeld (sk 37 88 rfl hHeld (sk 38 89 rfl hHeld ?_))))))))))
        simp only [Act.put, pS, pZ, pC]
        refine tk 39 90 (v := ?_) rfl ?_ hHeld ?_
        rotate_left
        ·intro w' hSw
         go_simp
         first | done | with_reducible rfl
        simp only [Act.put, pS, pZ, pC]
        refine tk 40 91 (v := ?_) rfl ?_ hHeld ?_
        rotate_left
        ·intro w' hSw
         go_simp
         first | done | with_reducible rfl
        simp only [Act.put, pS, pZ, pC]
        refine sk 41 92 rfl hHeld (sk 42 93 rfl hHeld (sk 43 94 rfl hHeld (sk 44 95 rfl hHeld (sk 45 96 rfl hHeld (sk 46 97 rfl hHeld (sk 47 98 rfl hHeld ?_))))))
        simp only [Act.put, pS, pZ, pC]
        refine tk 48 99 (v := ?_) rfl ?_ hHeld ?_
        rotate_left
        ·intro w' hSw
         go_simp
         first | done | with_reducible rfl
        simp only [Act.put, pS, pZ, pC]
        refine tk 49 100 (v := ?_) rfl ?_ hHeld ?_
        rotate_left
        ·intro w' hSw
         go_simp
         first | done | with_reducible rfl
        simp only [Act.put, pS, pZ, pC]
        refine sk 50 101 rfl hHeld (sk 51 102 rfl hHeld (sk 52 103 rfl hHeld (sk 53 104 rfl hHeld (sk 54 105 rfl hHeld (sk 55 106 rfl hHeld ?_)))))
        simp only [Act.put, pS, pZ, pC]
        refine tk 56 107 (v := ?_) rfl ?_ hHeld ?_
        rotate_left
        ·intro w' hSw
         go_simp
         first | done | with_reducible rfl
        simp only [Act.put, pS, pZ, pC]
        refine tk 57 108 (v := ?_) rfl ?_ hHeld ?_
        rotate_left
        ·intro w' hSw
         go_simp
         first | done | with_reducible rfl
        simp only [Act.put, pS, pZ, pC]
        refine tk 58 9 (v := ?_) rfl ?_ hHeld ?_
        rotate_left
        ·intro w' hSw
         go_simp
         first | done | with_reducible rfl
        simp only [Act.put, pS, pZ, pC]
        refine wpAnyH_done (by kernel_rfl) ?_ _
        have BZ := Lib.hid bz.b
        clear c0 c1 c2 c3 c4 c5 c6 c7 c8 c9 c10 g0 g1 g2 g3 g4 g5 g6 g7 g8 g9 g10 k0 k1 k2 SB CK CN
        go_wp2_with fail
        go_roundw
        case rel => exact ⟨i + 1, _, by omega, AE, rfl, by go_num, BZ⟩
        case measure => simp [intOf]; omega
     ·have AE := Lib.hid (show true = isH l n er en xs g (i + 1) from by rw [isH, ← his.out]; rfl)
      clear AL his
      go_wp2_with fail
      refine wp_region_held_drew (S := fun w' => Bel W3 w') (by kernel_rfl) (SB.out) (fun hHeld => ?_)
      refine tk 0 51 (v := ?_) rfl ?_ hHeld ?_
      rotate_left
      ·intro w' hSw
       go_simp
       first | done | with_reducible rfl
      simp only [Act.put, pS, pZ, pC]
      refine tk 1 52 (v := ?_) rfl ?_ hHeld ?_
      rotate_left
      ·intro w' hSw
       go_simp
       first | done | with_reducible rfl
      simp only [Act.put, pS, pZ, pC]
      refine sk 2 53 rfl hHeld (sk 3 54 rfl hHeld (sk 4 55 rfl hHeld (sk 5 56 rfl hHeld (sk 6 57 rfl hHeld (sk 7 58 rfl hHeld (sk 8 59 rfl hHeld (sk 9 60 rfl hHeld (sk 10 61 rfl hHeld (sk 11 62 rfl hHeld (sk 12 63 rfl hHeld (sk 13 64 rfl hHeld (sk 14 65 rfl hHeld (sk 15 66 rfl hHeld (sk 16 67 rfl hHeld (sk 17 68 rfl hHeld (sk 18 69 rfl hHeld (sk 19 70 rfl hHeld (sk 20 71 rfl hHeld (sk 21 72 rfl hHeld (sk 22 73 rfl hHeld (sk 23 74 rfl hHeld (sk 24 75 rfl hHeld (sk 25 76 rfl hHeld (sk 26 77 rfl hHeld (sk 27 78 rfl hHeld (sk 28 79 rfl hHeld (sk 29 80 rfl hHeld (sk 30 81 rfl hHeld (sk 31 82 rfl hHeld (sk 32 83 rfl hHeld (sk 33 84 rfl hHeld (sk 34 85 rfl hHeld (sk 35 86 rfl hHeld (sk 36 87 rfl hHeld (sk 37 88 rfl hHeld (sk 38 89 rfl hHeld (sk 39 90 rfl hHeld (sk 40 91 rfl hHeld (sk 41 92 rfl hHeld (sk 42 93 rfl hHeld (sk 43 94 rfl hHeld (sk 44 95 rfl hHeld (sk 45 96 rfl hHeld (sk 46 97 rfl hHeld (sk 47 98 rfl hHeld (sk 48 99 rfl hHeld (sk 49 100 rfl hHeld (sk 50 101 rfl hHeld (sk 51 102 rfl hHeld (sk 52 103 rfl hHeld (sk 53 104 rfl hHeld (sk 54 105 rfl hHeld (sk 55 106 rfl hHeld (sk 56 107 rfl hHeld ?_))))))))))))))))))))))))))))))))))))))))))))))))))))))
      simp only [Act.put, pS, pZ, pC]
      refine tk 57 108 (v := ?_) rfl ?_ hHeld ?_
      rotate_left
      ·intro w' hSw
       go_simp
       first | done | with_reducible rfl
      simp only [Act.put, pS, pZ, pC]
      refine tk 58 9 (v := ?_) rfl ?_ hHeld ?_
      rotate_left
      ·intro w' hSw
       go_simp
       first | done | with_reducible rfl
      simp only [Act.put, pS, pZ, pC]
      refine wpAnyH_done (by kernel_rfl) ?_ _
      have BZ := Lib.hid SB.out.b
      clear c0 c1 c2 c3 c4 c5 c6 c7 c8 c9 c10 g0 g1 g2 g3 g4 g5 g6 g7 g8 g9 g10 k0 k1 k2 SB CK CN
      go_wp2_with fail
      go_roundw
      case rel => exact ⟨i + 1, _, by omega, AE, rfl, by go_num, BZ⟩
      case measure => simp [intOf]; omega
    ·have hij : i = j := by omega
     have hbb : bb = true := by rw [his.out, hij]; exact ISH.out
     subst hbb
     clear his hij
     have B5 := Lib.hid (B4.out.trans (hbel.out.mono B4.out.size))
     have cg := (KG.out.below hbel.out hG3).cell
     clear hbel
     go_wp2_with fail
     refine (rights_any _).mono ?_
     rintro e w6 ⟨rfl, hb6⟩
     have B6 := Lib.hid (B5.out.trans (hb6.mono B5.out.size))
     clear hb6 B5
     go_wp2_with fail
     go_ret
     exact ⟨rfl, BB.out.trans (B6.out.mono BB.out.size)⟩
end Go.Proofs.YtcjoecjijmkbaaaGreat
