/- The law FnWithin. -/
import Derived.Test.YtcjoecjijmkbaaaGreatVD
import Derived.Test.YtcjoecjijmkbaaaGreatVB
import Derived.Test.YtcjoecjijmkbaaaGreatVA
import Derived.Test.YtcjoecjijmkbaaaGreatQU
import Derived.Test.YtcjoecjijmkbaaaGreatQG

namespace Go.Proofs.YtcjoecjijmkbaaaGreat
open Go.RowKit
set_option linter.unusedVariables false
set_option linter.unusedSimpArgs false
set_option maxRecDepth 100000 in
set_option maxHeartbeats 6400000 in
theorem law_FnWithin (a : Option Addr) (len cap : Nat) (w : World) (hm : len ≤ 9223372036854775807) (hc : Code w w.heap.size a len) : Calls Tryz.prog 4 #[.slice a len cap] w fun e w' => e = .returned (.bool true) ∧ Below w.heap.size w w' := by
  have HC := Lib.hid hc
  clear hc
  go_enter Tryz.func4, Tryz.ntmps4
  go_wp2_with fail
  refine (drawRights_any a len cap _ hm HC.out).mono ?_
  rintro e W ⟨v, u, l, n, ac, bk, er, en, xs, rfl, ha, hs, hl61, n0, n5, hu, b0⟩
  obtain ⟨x, y, rfl⟩ := acts_len ha
  obtain ⟨ua, uc, hu2⟩ := ints_len hu
  generalize xs.length = uk at hu2
  subst hu2
  obtain ⟨m, hmm⟩ : ∃ m, m = l.length := ⟨_, rfl⟩
  have hm61 : m ≤ 61 := by omega
  obtain ⟨P, hP⟩ : ∃ P, P = W.heap.size := ⟨_, rfl⟩
  obtain ⟨W1, hW1⟩ : ∃ V, V = W.alloc (.cells #[.int .i64 er, .int .i64 en, .slice ua uk uc] 26) := ⟨_, rfl⟩
  have b1 : Below W.heap.size W W1 := by rw [hW1]; exact (Below.refl _ _).alloc (Nat.le_refl _) _
  have KP := Lib.hid (show Blk W1 P _ from by rw [hW1, hP]; exact Blk.new W _ _)
  have hP1 := KP.out.lt
  have BB := Lib.hid (b0.trans (b1.mono b0.size))
  have A1 := Lib.hid (ha.below b1)
  have U1 := Lib.hid (hu.below (B := 0) b1)
  rw [← hmm] at A1 ⊢
  have HM := Lib.hid hmm
  have hn : I64 n := by constructor <;> omega
  have KC := Lib.hid (fun V (h : Below W1.heap.size W1 V) => (KP.out.below h hP1).cell)
  have CR := Lib.hid (fun V (h : Below W1.heap.size W1 V) => implRights_any _ _ l xs n ac bk er en V (A1.out.below h) (U1.out.below (B := 0) h) hn)
  have CS := Lib.hid (fun V (h : Below W1.heap.size W1 V) => specRights_any _ _ l xs n ac bk er en V (A1.out.below h) (U1.out.below (B := 0) h) hn)
  have CC := Lib.hid (fun V (h : Below W1.heap.size W1 V) => implCeiling_any _ _ l xs n bk er en V (A1.out.below h) (U1.out.below (B := 0) h) hn)
  have CD := Lib.hid (fun V (h : Below W1.heap.size W1 V) => specCeiling_any _ _ l xs n bk er en V (A1.out.below h) (U1.out.below (B := 0) h) hn)
  have CH := Lib.hid (fun (k : Nat) V (h : Below W1.heap.size W1 V) => implHolds_any _ _ l xs n k er en V (A1.out.below h) (U1.out.below (B := 0) h) hn)
  have WL := Lib.hid (within_law l n ac bk er en xs)
  have MC := ceiling_m16 l n bk er en xs
  obtain ⟨r, hr⟩ : ∃ r, r = rightsM l n ac bk er en xs := ⟨_, rfl⟩
  obtain ⟨cc, hcc⟩ : ∃ c, c = ceilingM l n bk er en xs := ⟨_, rfl⟩
  rw [← hr] at CR CS WL
  rw [← hcc] at CC CD WL MC
  clear ha hu b0 b1 hs HC hmm hl61 hr hcc hn U1
  go_upto_region 2 with (fail)
  rw [← hP, ← hW1]
  clear hW1 hP
  have c := KC.out _ (Below.refl _ _)
  go_wp2_with fail
  refine (CR.out _ (Below.refl _ _)).mono ?_
  rintro e w2 ⟨rfl, hb2⟩
  have B2 := Lib.hid hb2
  clear hb2 c
  have c := KC.out _ B2.out
  go_wp2_with fail
  refine (CS.out _ B2.out).mono ?_
  rintro e w3 ⟨rfl, hb3⟩
  have B3 := Lib.hid (B2.out.trans (hb3.mono B2.out.size))
  clear hb3 B2 c CR CS
  have c := KC.out _ B3.out
  have hrr : (r != r) = false := by simp
  go_wp2_with fail
  refine (CC.out _ B3.out).mono ?_
  rintro e w4 ⟨rfl, hb4⟩
  have B4 := Lib.hid (B3.out.trans (hb4.mono B3.out.size))
  clear hb4 B3 c
  have c := KC.out _ B4.out
  go_wp2_with fail
  refine (CD.out _ B4.out).mono ?_
  rintro e w5 ⟨rfl, hb5⟩
  have B5 := Lib.hid (B4.out.trans (hb5.mono B4.out.size))
  clear hb5 B4 c CC CD
  have hcc : (cc != cc) = false := by simp
  have h0 : 0 ≤ cc := MC.1
  have h15 : cc ≤ 15 := MC.2
  have d0 : decide (cc < 0) = false := by simp; omega
  have d1 : decide (15 < cc) = false := by simp; omega
  clear MC
  by_cases hz : ac = 0
  · have ez : (ac == 0) = true := by simp [hz]
    rcases WL.out.1 hz with hr | hr
    · clear WL hz
      subst hr
      go_wp2_with fail
      refine (rights_any _).mono ?_
      rintro e w6 ⟨rfl, hb6⟩
      have B6 := Lib.hid (B5.out.trans (hb6.mono B5.out.size))
      clear hb6 B5
      go_wp2_with fail
      go_ret
      exact ⟨rfl, BB.out.trans (B6.out.mono BB.out.size)⟩
    · clear WL hz
      subst hr
      go_wp2_with fail
      refine (rights_any _).mono ?_
      rintro e w6 ⟨rfl, hb6⟩
      have B6 := Lib.hid (B5.out.trans (hb6.mono B5.out.size))
      clear hb6 B5
      go_wp2_with fail
      go_ret
      exact ⟨rfl, BB.out.trans (B6.out.mono BB.out.size)⟩
  · have ez : (ac == 0) = false := by simp [hz]
    have WR := Lib.hid (WL.out.2 hz)
    clear WL hz
    go_wp2_with fail
    go_loopw [10, 11] (fun av kv wr => ∃ (k : Nat) (gg : Int), k ≤ m ∧ Hid (gg = allG l n er en xs ac bk k) ∧ av = .int .i64 gg ∧ kv = .int .i64 k ∧ Hid (Below W1.heap.size W1 wr)) (fun _ kv _ => m - (intOf kv).toNat)
    case atStart => exact ⟨0, 0, Nat.zero_le _, Lib.hid rfl, rfl, rfl, B5⟩
    case round =>
      obtain ⟨k, gg, hk, hgg, rfl, rfl, hbel⟩ := hrel
      by_cases hlt : k < m
      · obtain ⟨ts, hts, hT⟩ := A1.out
        obtain ⟨z1, b, off, hx2, hb, hat⟩ := actsT_at hT (by omega)
        have hk2 : k < ts.length := by omega
        have at_ := hat k hlt
        have HX := Lib.hid (show l.getD k act0 = (ts.getD k t0).a from by rw [hts, getD_map hk2])
        clear hat hT hts z1 hk2
        generalize ts.getD k t0 = T at at_ HX
        subst hx2
        obtain ⟨⟨p0, p1, p2, p3, p4, p5, p6, p7, p8, p9, p10⟩, vd, vs⟩ := T
        have i0 : (0 : Int) ≤ k := by omega
        have i1 : (k : Int) < m := by omega
        have AL := Lib.hid (show allG l n er en xs ac bk (k + 1) = if (holdsM l n k er en xs && decide (p5 = ac) && decide (p6 = bk)) = true then bits .or .i64 gg p7 else gg from by rw [allG, HX.out, ← hgg.out])
        have CK := CH.out k _ hbel.out
        generalize holdsM l n k er en xs = hv at CK AL
        have CK2 := Lib.hid CK
        clear CK HX hgg
        have c := KC.out _ hbel.out
        go_wp2_with fail
        refine CK2.out.mono ?_
        rintro e w7 ⟨rfl, hb7⟩
        have B7 := Lib.hid (hbel.out.trans (hb7.mono hbel.out.size))
        have AT7 := at_.below B7.out hb
        clear hb7 CK2 c hbel at_
        obtain ⟨c0, c1, c2, c3, c4, c5, c6, c7, c8, c9, c10⟩ := AT7
        simp only at c5 c6 c7
        clear c0 c1 c2 c3 c4 c8 c9 c10
        cases hv
        · have AE := Lib.hid (show gg = allG l n er en xs ac bk (k + 1) from by have := AL.out; simp at this; exact this.symm)
          clear AL c5 c6 c7
          go_wp2_with fail
          go_roundw
          case rel => exact ⟨k + 1, gg, by omega, AE, rfl, by go_num, B7⟩
          case measure => simp [intOf]; omega
        · by_cases q5 : p5 = ac
          · have e5 : (p5 == ac) = true := by simp [q5]
            by_cases q6 : p6 = bk
            · have e6 : (p6 == bk) = true := by simp [q6]
              have AE := Lib.hid (show bits .or .i64 gg p7 = allG l n er en xs ac bk (k + 1) from by have := AL.out; simp [q5, q6] at this; exact this.symm)
              clear AL q5 q6
              go_wp2_with fail
              go_roundw
              case rel => exact ⟨k + 1, _, by omega, AE, rfl, by go_num, B7⟩
              case measure => simp [intOf]; omega
            · have e6 : (p6 == bk) = false := by simp [q6]
              have AE := Lib.hid (show gg = allG l n er en xs ac bk (k + 1) from by have := AL.out; simp [q5, q6] at this; exact this.symm)
              clear AL q5 q6
              go_wp2_with fail
              go_roundw
              case rel => exact ⟨k + 1, gg, by omega, AE, rfl, by go_num, B7⟩
              case measure => simp [intOf]; omega
          · have e5 : (p5 == ac) = false := by simp [q5]
            have AE := Lib.hid (show gg = allG l n er en xs ac bk (k + 1) from by have := AL.out; simp [q5] at this; exact this.symm)
            clear AL q5
            go_wp2_with fail
            go_roundw
            case rel => exact ⟨k + 1, gg, by omega, AE, rfl, by go_num, B7⟩
            case measure => simp [intOf]; omega
      · have hkm : k = m := by omega
        have a1 : bits .andNot .i64 r cc = 0 := WR.out.1
        have a2 : bits .andNot .i64 r gg = 0 := by have := WR.out.2; rw [← HM.out, ← hkm, ← hgg.out] at this; exact this
        clear WR hgg hkm
        go_wp2_with fail
        refine (rights_any _).mono ?_
        rintro e w6 ⟨rfl, hb6⟩
        have B6 := Lib.hid (hbel.out.trans (hb6.mono hbel.out.size))
        clear hb6 hbel
        go_wp2_with fail
        go_ret
        exact ⟨rfl, BB.out.trans (B6.out.mono BB.out.size)⟩
end Go.Proofs.YtcjoecjijmkbaaaGreat
