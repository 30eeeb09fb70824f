/- The law FnExactWorldNew. -/
import Derived.Test.YtjjgigoehgabkaaWE
import Derived.Deep.DeepCutAuto
namespace Go.Proofs.Ytjjgigoehgabkaa
open Go.RowKit
set_option linter.unusedVariables false
set_option linter.unusedSimpArgs false

set_option maxRecDepth 100000 in
set_option maxHeartbeats 12800000 in
theorem law_worldNew (n : Int) (w : World) (hn : -9223372036854775808 ≤ n ∧ n ≤ 9223372036854775807) : Calls Try.prog 16 #[.int .i64 n] w fun e w' => e = .returned (.bool true) ∧ Below w.heap.size w w' := by
  have SP := Lib.hid (fun W => specWorldNew_any n W hn)
  have IM := Lib.hid (fun W => implWorldNew_any n W hn)
  unfold WMade at SP IM
  by_cases hr : 1 ≤ n ∧ n ≤ 4
  · obtain ⟨m, rfl⟩ := Int.eq_ofNat_of_zero_le (show 0 ≤ n by omega)
    have m1 : 1 ≤ m := by omega
    have m4 : m ≤ 4 := by omega
    have HBAD := Lib.hid (show ¬ ((m : Int) < 1 ∨ 4 < (m : Int)) by omega)
    have LN := Lib.hid (newL_len (m : Int) m)
    obtain ⟨L, hL⟩ : ∃ L, L = newL (m : Int) m := ⟨_, rfl⟩
    rw [← hL] at LN
    have HL := Lib.hid hL
    have d1 : decide ((1 : Int) + 4 * (m : Int) < 0) = false := by simp; omega
    clear hr hn hL
    have BW := Lib.hid (Below.refl w.heap.size w)
    go_enter Try.func16, Try.ntmps16
    go_wp2_with fail
    refine (SP.out _).mono ?_
    rintro e w1 ⟨b1, (⟨m', hm', _, _, gs, cs, hggs, hRS, rfl⟩ | ⟨hbad, _⟩)⟩
    rotate_left
    · exact absurd hbad HBAD.out
    obtain rfl : m = m' := by omega
    rw [← HL.out] at hRS
    clear hm'
    have RS := Lib.hid hRS
    have HGgs := Lib.hid hggs
    clear hRS hggs
    replace BW := Lib.hid (BW.out.trans ((b1).mono BW.out.size))
    clear b1
    have kS := Blk.new w1 #[.slice (some ⟨gs, 0, none⟩) m cs, .slice none 0 0] 81
    have ba := (Below.refl w1.heap.size w1).alloc (Nat.le_refl _) (.cells #[.slice (some ⟨gs, 0, none⟩) m cs, .slice none 0 0] 81)
    obtain ⟨pS, hpS⟩ : ∃ p, p = w1.heap.size := ⟨_, rfl⟩
    go_upto_region 2 with (fail)
    rw [← hpS] at kS
    try rw [← hpS]
    obtain ⟨w2, hW⟩ : ∃ W, W = w1.alloc (.cells #[.slice (some ⟨gs, 0, none⟩) m cs, .slice none 0 0] 81) := ⟨_, rfl⟩
    rw [← hW] at ba kS ⊢
    have KS := Lib.hid kS
    have GS := Lib.hid (show w1.heap.size ≤ pS by omega)
    replace BW := Lib.hid (BW.out.trans ((ba).mono BW.out.size))
    replace RS := Lib.hid (RS.out.below (ba))
    clear ba hW kS hpS
    have GSL := Lib.hid RS.out.lt
    have PSL := Lib.hid KS.out.lt
    have BW2 := Lib.hid BW.out.size
    go_wp2_with fail
    refine (IM.out _).mono ?_
    rintro e w3 ⟨b3, (⟨m', hm', _, _, gi, ci, hggi, hRG, rfl⟩ | ⟨hbad, _⟩)⟩
    rotate_left
    · exact absurd hbad HBAD.out
    obtain rfl : m = m' := by omega
    rw [← HL.out] at hRG
    clear hm'
    have RG := Lib.hid hRG
    have HGgi := Lib.hid hggi
    clear hRG hggi
    have NSI := Lib.hid (show gs ≠ gi by have := GSL.out; have := HGgi.out; omega)
    have NPS := Lib.hid (show pS ≠ gi by have := PSL.out; have := HGgi.out; omega)
    have GGI := Lib.hid (Nat.le_trans BW2.out HGgi.out)
    replace BW := Lib.hid (BW.out.trans ((b3).mono BW.out.size))
    replace RS := Lib.hid (RS.out.below (b3))
    replace KS := Lib.hid (KS.out.below (b3) KS.out.lt)
    clear b3
    have GIL := Lib.hid RG.out.lt
    have kG := Blk.new w3 #[.slice (some ⟨gi, 0, none⟩) m ci, .slice none 0 0] 81
    have ba := (Below.refl w3.heap.size w3).alloc (Nat.le_refl _) (.cells #[.slice (some ⟨gi, 0, none⟩) m ci, .slice none 0 0] 81)
    obtain ⟨pG, hpG⟩ : ∃ p, p = w3.heap.size := ⟨_, rfl⟩
    go_upto_region 3 with (fail)
    rw [← hpG] at kG
    try rw [← hpG]
    obtain ⟨w4, hW⟩ : ∃ W, W = w3.alloc (.cells #[.slice (some ⟨gi, 0, none⟩) m ci, .slice none 0 0] 81) := ⟨_, rfl⟩
    rw [← hW] at ba kG ⊢
    have KG := Lib.hid kG
    have GG := Lib.hid (show w3.heap.size ≤ pG by omega)
    have NES_G := Lib.hid (show pS ≠ pG by have := KS.out.lt; omega)
    replace BW := Lib.hid (BW.out.trans ((ba).mono BW.out.size))
    replace RS := Lib.hid (RS.out.below (ba))
    replace KS := Lib.hid (KS.out.below (ba) KS.out.lt)
    replace RG := Lib.hid (RG.out.below (ba))
    clear ba hW kG hpG
    have NPG := Lib.hid (show pG ≠ gi by have := GIL.out; have := GG.out; omega)
    have s0 := KS.out.cell 0
    have s1 := KS.out.cell 1
    simp only [List.getElem?_cons_zero, List.getElem?_cons_succ] at s0 s1
    have g0 := KG.out.cell 0
    have g1 := KG.out.cell 1
    simp only [List.getElem?_cons_zero, List.getElem?_cons_succ] at g0 g1
    go_wp2_with fail
    refine (eqWorld_some gi ci gs cs m L _ LN.out (by omega) RG.out RS.out).mono ?_
    rintro e w5 ⟨rfl, b⟩
    clear s0 s1 g0 g1
    replace BW := Lib.hid (BW.out.trans ((b).mono BW.out.size))
    replace RS := Lib.hid (RS.out.below (b))
    replace KS := Lib.hid (KS.out.below (b) KS.out.lt)
    replace RG := Lib.hid (RG.out.below (b))
    replace KG := Lib.hid (KG.out.below (b) KG.out.lt)
    clear b
    have g0 := KG.out.cell 0
    have g1 := KG.out.cell 1
    simp only [List.getElem?_cons_zero, List.getElem?_cons_succ] at g0 g1
    go_wp2_with fail
    refine (markWorld_some gi ci m L 1 _ LN.out (by omega) (by omega) RG.out).mono ?_
    rintro e w6 ⟨rfl, og, gg⟩
    clear g0 g1
    have bw := BW.out.grown gg BW.out.size (fun q hq => by cases hq; exact GGI.out)
    have rs := RS.out.other gg NSI.out
    have ks := KS.out.grown (w' := w6) gg NPS.out
    have kg := KG.out.grown (w' := w6) gg NPG.out
    replace BW := Lib.hid bw
    replace RS := Lib.hid rs
    replace KS := Lib.hid ks
    replace KG := Lib.hid kg
    replace RG := Lib.hid og
    clear bw rs ks kg og gg
    have g0 := KG.out.cell 0
    have g1 := KG.out.cell 1
    simp only [List.getElem?_cons_zero, List.getElem?_cons_succ] at g0 g1
    go_wp2_with fail
    refine (heldWorld_some gi ci m 1 _ (by omega) (by omega) RG.out).mono ?_
    rintro e w7 ⟨rfl, b⟩
    clear g0 g1
    replace BW := Lib.hid (BW.out.trans ((b).mono BW.out.size))
    replace RS := Lib.hid (RS.out.below (b))
    replace KS := Lib.hid (KS.out.below (b) KS.out.lt)
    replace RG := Lib.hid (RG.out.below (b))
    replace KG := Lib.hid (KG.out.below (b) KG.out.lt)
    clear b
    go_wp2_with fail
    refine (IM.out _).mono ?_
    rintro e w8 ⟨b8, (⟨m', hm', _, _, gh, ch, hggh, hRH, rfl⟩ | ⟨hbad, _⟩)⟩
    rotate_left
    · exact absurd hbad HBAD.out
    obtain rfl : m = m' := by omega
    rw [← HL.out] at hRH
    clear hm'
    have RH := Lib.hid hRH
    have HGgh := Lib.hid hggh
    clear hRH hggh
    replace BW := Lib.hid (BW.out.trans ((b8).mono BW.out.size))
    replace RS := Lib.hid (RS.out.below (b8))
    replace KS := Lib.hid (KS.out.below (b8) KS.out.lt)
    replace RG := Lib.hid (RG.out.below (b8))
    replace KG := Lib.hid (KG.out.below (b8) KG.out.lt)
    clear b8
    have kH := Blk.new w8 #[.slice (some ⟨gh, 0, none⟩) m ch, .slice none 0 0] 81
    have ba := (Below.refl w8.heap.size w8).alloc (Nat.le_refl _) (.cells #[.slice (some ⟨gh, 0, none⟩) m ch, .slice none 0 0] 81)
    obtain ⟨pH, hpH⟩ : ∃ p, p = w8.heap.size := ⟨_, rfl⟩
    go_upto_region 14 with (fail)
    rw [← hpH] at kH
    try rw [← hpH]
    obtain ⟨w9, hW⟩ : ∃ W, W = w8.alloc (.cells #[.slice (some ⟨gh, 0, none⟩) m ch, .slice none 0 0] 81) := ⟨_, rfl⟩
    rw [← hW] at ba kH ⊢
    have KH := Lib.hid kH
    have GH := Lib.hid (show w8.heap.size ≤ pH by omega)
    have NES_H := Lib.hid (show pS ≠ pH by have := KS.out.lt; omega)
    have NEG_H := Lib.hid (show pG ≠ pH by have := KG.out.lt; omega)
    replace BW := Lib.hid (BW.out.trans ((ba).mono BW.out.size))
    replace RS := Lib.hid (RS.out.below (ba))
    replace KS := Lib.hid (KS.out.below (ba) KS.out.lt)
    replace RG := Lib.hid (RG.out.below (ba))
    replace KG := Lib.hid (KG.out.below (ba) KG.out.lt)
    replace RH := Lib.hid (RH.out.below (ba))
    clear ba hW kH hpH
    have s0 := KS.out.cell 0
    have s1 := KS.out.cell 1
    simp only [List.getElem?_cons_zero, List.getElem?_cons_succ] at s0 s1
    have h0 := KH.out.cell 0
    have h1 := KH.out.cell 1
    simp only [List.getElem?_cons_zero, List.getElem?_cons_succ] at h0 h1
    go_wp2_with fail
    refine (eqWorld_some gh ch gs cs m L _ LN.out (by omega) RH.out RS.out).mono ?_
    rintro e w10 ⟨rfl, b⟩
    clear s0 s1 h0 h1
    replace BW := Lib.hid (BW.out.trans ((b).mono BW.out.size))
    replace RS := Lib.hid (RS.out.below (b))
    replace KS := Lib.hid (KS.out.below (b) KS.out.lt)
    replace RG := Lib.hid (RG.out.below (b))
    replace KG := Lib.hid (KG.out.below (b) KG.out.lt)
    replace RH := Lib.hid (RH.out.below (b))
    replace KH := Lib.hid (KH.out.below (b) KH.out.lt)
    clear b
    have g0 := KG.out.cell 0
    have g1 := KG.out.cell 1
    simp only [List.getElem?_cons_zero, List.getElem?_cons_succ] at g0 g1
    go_wp2_with fail
    refine (heldWorld_some gi ci m 1 _ (by omega) (by omega) RG.out).mono ?_
    rintro e w11 ⟨rfl, b⟩
    clear g0 g1
    replace BW := Lib.hid (BW.out.trans ((b).mono BW.out.size))
    replace RS := Lib.hid (RS.out.below (b))
    replace KS := Lib.hid (KS.out.below (b) KS.out.lt)
    replace RG := Lib.hid (RG.out.below (b))
    replace KG := Lib.hid (KG.out.below (b) KG.out.lt)
    replace RH := Lib.hid (RH.out.below (b))
    replace KH := Lib.hid (KH.out.below (b) KH.out.lt)
    clear b
    go_wp2_with fail
    go_ret
    exact ⟨rfl, BW.out⟩
  · have HNO := Lib.hid hr
    clear hr hn
    have BW := Lib.hid (Below.refl w.heap.size w)
    go_enter Try.func16, Try.ntmps16
    go_wp2_with fail
    refine (SP.out _).mono ?_
    rintro e w1 ⟨b1, (⟨m', hm', h1', h4', g', c', _, _, _⟩ | ⟨_, rfl⟩)⟩
    · exact absurd ⟨by omega, by omega⟩ HNO.out
    replace BW := Lib.hid (BW.out.trans ((b1).mono BW.out.size))
    clear b1
    have kS := Blk.new w1 #[.slice none 0 0, .slice none 0 0] 81
    have ba := (Below.refl w1.heap.size w1).alloc (Nat.le_refl _) (.cells #[.slice none 0 0, .slice none 0 0] 81)
    obtain ⟨pS, hpS⟩ : ∃ p, p = w1.heap.size := ⟨_, rfl⟩
    go_upto_region 2 with (fail)
    rw [← hpS] at kS
    try rw [← hpS]
    obtain ⟨w2, hW⟩ : ∃ W, W = w1.alloc (.cells #[.slice none 0 0, .slice none 0 0] 81) := ⟨_, rfl⟩
    rw [← hW] at ba kS ⊢
    have KS := Lib.hid kS
    have GS := Lib.hid (show w1.heap.size ≤ pS by omega)
    replace BW := Lib.hid (BW.out.trans ((ba).mono BW.out.size))
    clear ba hW kS hpS
    go_wp2_with fail
    refine (IM.out _).mono ?_
    rintro e w3 ⟨b3, (⟨m', hm', h1', h4', g', c', _, _, _⟩ | ⟨_, rfl⟩)⟩
    · exact absurd ⟨by omega, by omega⟩ HNO.out
    replace BW := Lib.hid (BW.out.trans ((b3).mono BW.out.size))
    replace KS := Lib.hid (KS.out.below (b3) KS.out.lt)
    clear b3
    have kG := Blk.new w3 #[.slice none 0 0, .slice none 0 0] 81
    have ba := (Below.refl w3.heap.size w3).alloc (Nat.le_refl _) (.cells #[.slice none 0 0, .slice none 0 0] 81)
    obtain ⟨pG, hpG⟩ : ∃ p, p = w3.heap.size := ⟨_, rfl⟩
    go_upto_region 3 with (fail)
    rw [← hpG] at kG
    try rw [← hpG]
    obtain ⟨w4, hW⟩ : ∃ W, W = w3.alloc (.cells #[.slice none 0 0, .slice none 0 0] 81) := ⟨_, rfl⟩
    rw [← hW] at ba kG ⊢
    have KG := Lib.hid kG
    have GG := Lib.hid (show w3.heap.size ≤ pG by omega)
    have NES_G := Lib.hid (show pS ≠ pG by have := KS.out.lt; omega)
    replace BW := Lib.hid (BW.out.trans ((ba).mono BW.out.size))
    replace KS := Lib.hid (KS.out.below (ba) KS.out.lt)
    clear ba hW kG hpG
    have s0 := KS.out.cell 0
    have s1 := KS.out.cell 1
    simp only [List.getElem?_cons_zero, List.getElem?_cons_succ] at s0 s1
    have g0 := KG.out.cell 0
    have g1 := KG.out.cell 1
    simp only [List.getElem?_cons_zero, List.getElem?_cons_succ] at g0 g1
    go_wp2_with fail
    refine (eqWorld_none _).mono ?_
    rintro e w5 ⟨rfl, b⟩
    clear s0 s1 g0 g1
    replace BW := Lib.hid (BW.out.trans ((b).mono BW.out.size))
    replace KS := Lib.hid (KS.out.below (b) KS.out.lt)
    replace KG := Lib.hid (KG.out.below (b) KG.out.lt)
    clear b
    have g0 := KG.out.cell 0
    have g1 := KG.out.cell 1
    simp only [List.getElem?_cons_zero, List.getElem?_cons_succ] at g0 g1
    go_wp2_with fail
    refine (markWorld_none 1 (by omega) _).mono ?_
    rintro e w6 ⟨rfl, b⟩
    clear g0 g1
    replace BW := Lib.hid (BW.out.trans ((b).mono BW.out.size))
    replace KS := Lib.hid (KS.out.below (b) KS.out.lt)
    replace KG := Lib.hid (KG.out.below (b) KG.out.lt)
    clear b
    have g0 := KG.out.cell 0
    have g1 := KG.out.cell 1
    simp only [List.getElem?_cons_zero, List.getElem?_cons_succ] at g0 g1
    go_wp2_with fail
    refine (heldWorld_none 1 (by omega) _).mono ?_
    rintro e w7 ⟨rfl, b⟩
    clear g0 g1
    replace BW := Lib.hid (BW.out.trans ((b).mono BW.out.size))
    replace KS := Lib.hid (KS.out.below (b) KS.out.lt)
    replace KG := Lib.hid (KG.out.below (b) KG.out.lt)
    clear b
    go_wp2_with fail
    refine (IM.out _).mono ?_
    rintro e w8 ⟨b8, (⟨m', hm', h1', h4', g', c', _, _, _⟩ | ⟨_, rfl⟩)⟩
    · exact absurd ⟨by omega, by omega⟩ HNO.out
    replace BW := Lib.hid (BW.out.trans ((b8).mono BW.out.size))
    replace KS := Lib.hid (KS.out.below (b8) KS.out.lt)
    replace KG := Lib.hid (KG.out.below (b8) KG.out.lt)
    clear b8
    have kH := Blk.new w8 #[.slice none 0 0, .slice none 0 0] 81
    have ba := (Below.refl w8.heap.size w8).alloc (Nat.le_refl _) (.cells #[.slice none 0 0, .slice none 0 0] 81)
    obtain ⟨pH, hpH⟩ : ∃ p, p = w8.heap.size := ⟨_, rfl⟩
    go_upto_region 14 with (fail)
    rw [← hpH] at kH
    try rw [← hpH]
    obtain ⟨w9, hW⟩ : ∃ W, W = w8.alloc (.cells #[.slice none 0 0, .slice none 0 0] 81) := ⟨_, rfl⟩
    rw [← hW] at ba kH ⊢
    have KH := Lib.hid kH
    have GH := Lib.hid (show w8.heap.size ≤ pH by omega)
    have NES_H := Lib.hid (show pS ≠ pH by have := KS.out.lt; omega)
    have NEG_H := Lib.hid (show pG ≠ pH by have := KG.out.lt; omega)
    replace BW := Lib.hid (BW.out.trans ((ba).mono BW.out.size))
    replace KS := Lib.hid (KS.out.below (ba) KS.out.lt)
    replace KG := Lib.hid (KG.out.below (ba) KG.out.lt)
    clear ba hW kH hpH
    have s0 := KS.out.cell 0
    have s1 := KS.out.cell 1
    simp only [List.getElem?_cons_zero, List.getElem?_cons_succ] at s0 s1
    have h0 := KH.out.cell 0
    have h1 := KH.out.cell 1
    simp only [List.getElem?_cons_zero, List.getElem?_cons_succ] at h0 h1
    go_wp2_with fail
    refine (eqWorld_none _).mono ?_
    rintro e w10 ⟨rfl, b⟩
    clear s0 s1 h0 h1
    replace BW := Lib.hid (BW.out.trans ((b).mono BW.out.size))
    replace KS := Lib.hid (KS.out.below (b) KS.out.lt)
    replace KG := Lib.hid (KG.out.below (b) KG.out.lt)
    replace KH := Lib.hid (KH.out.below (b) KH.out.lt)
    clear b
    have g0 := KG.out.cell 0
    have g1 := KG.out.cell 1
    simp only [List.getElem?_cons_zero, List.getElem?_cons_succ] at g0 g1
    go_wp2_with fail
    refine (heldWorld_none 1 (by omega) _).mono ?_
    rintro e w11 ⟨rfl, b⟩
    clear g0 g1
    replace BW := Lib.hid (BW.out.trans ((b).mono BW.out.size))
    replace KS := Lib.hid (KS.out.below (b) KS.out.lt)
    replace KG := Lib.hid (KG.out.below (b) KG.out.lt)
    replace KH := Lib.hid (KH.out.below (b) KH.out.lt)
    clear b
    go_wp2_with fail
    go_ret
    exact ⟨rfl, BW.out⟩
end Go.Proofs.Ytjjgigoehgabkaa
