/- The laws FnExactClockMax and FnExactClockMin. -/
import Derived.Test.YtiacnlnibapgpaaQ
namespace Go.Proofs.Ytiacnlnibapgpaa
open Go.RowKit
set_option linter.unusedVariables false

theorem spMax_len (xs ys : List Int) : (spMax xs ys).length ≤ 4 := by
  unfold spMax
  split
  · rename_i hb
    simp only [bothB, Bool.and_eq_true, decide_eq_true_eq] at hb
    have := (okB_iff xs).1 hb.1.1
    simp; omega
  · simp
theorem Own.below' {w w' : World} {g B : Nat} {v : Value} {xs : List Int} (h : Own w g v xs) (hb : Below B w w') (hB : 0 < xs.length → g < B) : Own w' g v xs :=
  h.block fun hp => hb.block g (hB hp)

theorem toOwn2 (v : Value) (xs : List Int) (w : World) (h : Ints w v xs) (hl : xs.length ≤ 1048576) :
    Calls Try.prog 25 #[v] w fun e w' => e = .returned (.slice (some ⟨w.heap.size, 0, none⟩) xs.length xs.length) ∧ Own w' w.heap.size (.slice (some ⟨w.heap.size, 0, none⟩) xs.length xs.length) xs ∧ Below w.heap.size w w' ∧ w.heap.size < w'.heap.size :=
  (toIntS_any v xs w h hl).mono fun e w' ⟨h1, h2, h3⟩ => ⟨h1, by
    by_cases hp : 0 < xs.length
    · exact .inr ⟨hp, _, rfl, (own_at h2).1⟩
    · have : xs = [] := List.eq_nil_of_length_eq_zero (by omega)
      subst this
      exact .inl ⟨_, _, rfl, rfl⟩, h3, (own_at h2).2.2⟩

set_option maxHeartbeats 2000000 in
theorem law_max (v v' : Value) (a a' : Option Addr) (len cap len' cap' : Nat) (xs ys : List Int) (w : World) (hv : v = .slice a len cap) (hl : xs.length = len) (hm : len ≤ 9223372036854775807) (h : Ints w v xs)
    (hv' : v' = .slice a' len' cap') (hl' : ys.length = len') (hm' : len' ≤ 9223372036854775807) (h' : Ints w v' ys) :
    Calls Try.prog 7 #[v, v'] w fun e w' => e = .returned (.bool true) ∧ Below w.heap.size w w' := by
  by_cases hn : len ≤ 1048576
  · by_cases hn' : len' ≤ 1048576
    · have HI := Lib.hid h
      have HI' := Lib.hid h'
      have HS := Lib.hid (show xs.length ≤ 1048576 by omega)
      have HS' := Lib.hid (show ys.length ≤ 1048576 by omega)
      have HM4 := Lib.hid (spMax_len xs ys)
      clear h h' hl hl'
      subst hv hv'
      obtain ⟨M, hM⟩ : ∃ M, M = spMax xs ys := ⟨_, rfl⟩
      have cS := fun v v' w h h' => specMax_any v v' xs ys w h h'
      have cI := fun v v' w h h' => ClockMax_any v v' xs ys w h h'
      simp only [← hM] at cS cI HM4
      have CS := Lib.hid cS
      have CI := Lib.hid cI
      clear cS cI hM
      have ee : ∀ l, eqB l l = true := by simp [eqB]
      have EE := Lib.hid ee
      clear ee
      go_enter Try.func7, Try.ntmps7
      -- the reference's answer
      go_wp2_with fail
      refine (toOwn2 _ xs _ HI.out HS.out).mono ?_
      rintro e w1 ⟨rfl, i1, b1, l1⟩
      have I1 := Lib.hid i1
      have B1 := Lib.hid b1
      clear i1 b1 l1
      go_wp2_with fail
      refine (toOwn2 _ ys _ (HI'.out.below (B := 0) B1.out) HS'.out).mono ?_
      rintro e w2 ⟨rfl, i2, b2, l2⟩
      have I2 := Lib.hid i2
      have J1 := Lib.hid (I1.out.below b2)
      have B2 := Lib.hid (B1.out.trans (b2.mono B1.out.size))
      clear i2 b2 l2
      go_wp2_with fail
      refine (CS.out _ _ _ (own_ints J1.out) (own_ints I2.out)).mono ?_
      rintro e w3 ⟨gs, vs, rfl, gs1, os3, b3⟩
      have GS3 := Lib.hid (fun hp => own_lt os3 hp)
      have S3 := Lib.hid os3
      have B3 := Lib.hid (B2.out.trans (b3.mono B2.out.size))
      clear gs1 os3 b3 I1 I2 J1
      -- x0, x1
      go_wp2_with fail
      refine (toOwn2 _ xs _ (HI.out.below (B := 0) B3.out) HS.out).mono ?_
      rintro e w4 ⟨rfl, i4, b4, l4⟩
      have L34 := Lib.hid l4
      have P4 := Lib.hid i4
      have S4 := Lib.hid (S3.out.below b4)
      have G4 := Lib.hid (fun hp => own_lt i4 hp)
      have B4 := Lib.hid (B3.out.trans (b4.mono B3.out.size))
      clear i4 b4 l4
      go_wp2_with fail
      refine (toOwn2 _ ys _ (HI'.out.below (B := 0) B4.out) HS'.out).mono ?_
      rintro e w5 ⟨rfl, i5, b5, l5⟩
      have L45 := Lib.hid l5
      have Q5 := Lib.hid i5
      have P5 := Lib.hid (P4.out.below b5)
      have S5 := Lib.hid (S4.out.below b5)
      have G5 := Lib.hid (fun hp => own_lt i5 hp)
      have B5 := Lib.hid (B4.out.trans (b5.mono B4.out.size))
      clear i5 b5 l5
      -- the program's answer
      go_wp2_with fail
      refine (CI.out _ _ _ (own_ints P5.out) (own_ints Q5.out)).mono ?_
      rintro e w6 ⟨gi, vi, rfl, gi1, oi6, b6⟩
      have GI := Lib.hid gi1
      have O6 := Lib.hid oi6
      have P6 := Lib.hid (P5.out.below b6)
      have Q6 := Lib.hid (Q5.out.below b6)
      have S6 := Lib.hid (S5.out.below b6)
      have L56 := Lib.hid b6.size
      have B6 := Lib.hid (B5.out.trans (b6.mono B5.out.size))
      clear gi1 oi6 b6
      go_wp2_with fail
      refine (eqIntS_any _ _ M M _ (own_ints O6.out) (own_ints S6.out)).mono ?_
      rintro e w7 ⟨rfl, q7, rfl⟩
      rw [EE.out M]
      go_wp2_with fail
      -- the arguments are as they were
      have B7 := Lib.hid (below_drewN B6.out q7)
      refine (toOwn2 _ xs _ (HI.out.below (B := 0) B7.out) HS.out).mono ?_
      rintro e w8 ⟨rfl, i8, b8, l8⟩
      have P8 := Lib.hid ((P6.out.drewN q7).below b8)
      have Q8 := Lib.hid ((Q6.out.drewN q7).below b8)
      have S8 := Lib.hid ((S6.out.drewN q7).below b8)
      have O8 := Lib.hid ((O6.out.drewN q7).below b8)
      have I8 := Lib.hid i8
      have L78 : Hid (w6.heap.size ≤ w8.heap.size) := b8.size
      have B8 := Lib.hid (B7.out.trans (b8.mono B7.out.size))
      clear i8 b8 l8
      go_wp2_with fail
      refine (eqIntS_any _ _ xs xs _ (own_ints P8.out) (own_ints I8.out)).mono ?_
      rintro e w9 ⟨rfl, q9, rfl⟩
      rw [EE.out xs]
      go_wp2_with fail
      have B9 := Lib.hid (below_drewN B8.out q9)
      refine (toOwn2 _ ys _ (HI'.out.below (B := 0) B9.out) HS'.out).mono ?_
      rintro e w10 ⟨rfl, i10, b10, l10⟩
      have P10 := Lib.hid ((P8.out.drewN q9).below b10)
      have Q10 := Lib.hid ((Q8.out.drewN q9).below b10)
      have S10 := Lib.hid ((S8.out.drewN q9).below b10)
      have O10 := Lib.hid ((O8.out.drewN q9).below b10)
      have I10 := Lib.hid i10
      have L810 : Hid (w8.heap.size ≤ w10.heap.size) := b10.size
      have B10 := Lib.hid (B9.out.trans (b10.mono B9.out.size))
      clear i10 b10 l10
      go_wp2_with fail
      refine (eqIntS_any _ _ ys ys _ (own_ints Q10.out) (own_ints I10.out)).mono ?_
      rintro e w11 ⟨rfl, q11, rfl⟩
      rw [EE.out ys]
      have B11 := Lib.hid (below_drewN B10.out q11)
      -- the arguments' copies are marked
      go_wp2_with fail
      refine (mark_any w3.heap.size _ 1 xs _ (P10.out.drewN q11) (by omega) (by have := HS.out; omega)).mono ?_
      rintro e w12 ⟨rfl, p12, g12⟩
      have Q12 := Lib.hid ((Q10.out.drewN q11).other g12 (fun hp => by have := L34.out; omega))
      have S12 := Lib.hid ((S10.out.drewN q11).other g12 (fun hp => by have := GS3.out hp; omega))
      have O12 := Lib.hid ((O10.out.drewN q11).other g12 (fun hp => by have := GI.out; have := L45.out; have := L34.out; omega))
      have B12 := Lib.hid (B11.out.grown g12 B11.out.size (fun k hk => by cases hk; exact B3.out.size))
      clear p12 g12
      go_wp2_with fail
      refine (mark_any w4.heap.size _ _ ys _ Q12.out (by omega) (by have := HS.out; have := HS'.out; omega)).mono ?_
      rintro e w13 ⟨rfl, p13, g13⟩
      have S13 := Lib.hid (S12.out.other g13 (fun hp => by have := GS3.out hp; have := L34.out; omega))
      have O13 := Lib.hid (O12.out.other g13 (fun hp => by have := GI.out; have := L45.out; omega))
      have B13 := Lib.hid (B12.out.grown g13 B12.out.size (fun k hk => by cases hk; exact B4.out.size))
      clear p13 g13
      have kk : (0 : Int) ≤ 1 + (xs.length : Int) + (ys.length : Int) := by omega
      have kk' : decide (1 + (xs.length : Int) + (ys.length : Int) < 0) = false := by simp; omega
      go_wp2_with fail
      refine (eqIntS_any _ _ M M _ (own_ints O13.out) (own_ints S13.out)).mono ?_
      rintro e w14 ⟨rfl, q14, rfl⟩
      rw [EE.out M]
      have B14 := Lib.hid (below_drewN B13.out q14)
      clear kk kk'
      -- the answer is marked, and holds its marks
      go_wp2_with fail
      refine (mark_any gi _ 1 M _ (O13.out.drewN q14) (by omega) (by have := HM4.out; omega)).mono ?_
      rintro e w15 ⟨rfl, o15, g15⟩
      have S15 := Lib.hid ((S13.out.drewN q14).other g15 (fun hp => by have := GS3.out hp; have := L34.out; have := L45.out; have := GI.out; omega))
      have O15 := Lib.hid o15
      have B15 := Lib.hid (B14.out.grown g15 B14.out.size (fun k hk => by cases hk; have := GI.out; have := B5.out.size; omega))
      clear o15 g15
      go_wp2_with fail
      refine (held_any _ 1 M.length _ (own_ints O15.out) (by omega) (by have := HM4.out; omega)).mono ?_
      rintro e w16 ⟨rfl, rfl⟩
      have kk : (0 : Int) ≤ 1 + (M.length : Int) := by omega
      have kk' : decide (1 + (M.length : Int) < 0) = false := by simp; omega
      have kq : ((1 + (M.length : Int)) == (1 + (M.length : Int))) = true := by simp
      have kq' : ((1 + (M.length : Int)) != (1 + (M.length : Int))) = false := by simp
      go_wp2_with fail
      -- another call
      refine (toOwn2 _ xs _ (HI.out.below (B := 0) B15.out) HS.out).mono ?_
      rintro e w17 ⟨rfl, i17, b17, l17⟩
      have I17 := Lib.hid i17
      have S17 := Lib.hid (S15.out.below b17)
      have O17 := Lib.hid (O15.out.below b17)
      have B17 := Lib.hid (B15.out.trans (b17.mono B15.out.size))
      clear i17 b17 l17
      go_wp2_with fail
      refine (toOwn2 _ ys _ (HI'.out.below (B := 0) B17.out) HS'.out).mono ?_
      rintro e w18 ⟨rfl, i18, b18, l18⟩
      have J18 := Lib.hid i18
      have I18 := Lib.hid (I17.out.below b18)
      have S18 := Lib.hid (S17.out.below b18)
      have O18 := Lib.hid (O17.out.below b18)
      have B18 := Lib.hid (B17.out.trans (b18.mono B17.out.size))
      clear i18 b18 l18
      go_wp2_with fail
      refine (CI.out _ _ _ (own_ints I18.out) (own_ints J18.out)).mono ?_
      rintro e w19 ⟨gh, vh, rfl, gh1, oh19, b19⟩
      have H19 := Lib.hid oh19
      have S19 := Lib.hid (S18.out.below b19)
      have O19 := Lib.hid (O18.out.below b19)
      have B19 := Lib.hid (B18.out.trans (b19.mono B18.out.size))
      clear oh19 b19 gh1
      go_wp2_with fail
      refine (eqIntS_any _ _ M M _ (own_ints H19.out) (own_ints S19.out)).mono ?_
      rintro e w20 ⟨rfl, q20, rfl⟩
      rw [EE.out M]
      have B20 := Lib.hid (below_drewN B19.out q20)
      go_wp2_with fail
      refine (held_any _ 1 M.length _ (own_ints (O19.out.drewN q20)) (by omega) (by have := HM4.out; omega)).mono ?_
      rintro e w21 ⟨rfl, rfl⟩
      go_wp2
      go_ret
      exact ⟨rfl, B20.out⟩
    · subst hv hv'
      clear h h' hl hl'
      go_enter Try.func7, Try.ntmps7
      go_wp2
      go_ret
      exact ⟨rfl, Below.refl _ _⟩
  · subst hv hv'
    clear h h' hl hl'
    go_enter Try.func7, Try.ntmps7
    go_wp2
    go_ret
    exact ⟨rfl, Below.refl _ _⟩
theorem spMin_len (xs ys : List Int) : (spMin xs ys).length ≤ 4 := by
  unfold spMin
  split
  · rename_i hb
    simp only [bothB, Bool.and_eq_true, decide_eq_true_eq] at hb
    have := (okB_iff xs).1 hb.1.1
    simp; omega
  · simp
set_option maxHeartbeats 2000000 in
theorem law_min (v v' : Value) (a a' : Option Addr) (len cap len' cap' : Nat) (xs ys : List Int) (w : World) (hv : v = .slice a len cap) (hl : xs.length = len) (hm : len ≤ 9223372036854775807) (h : Ints w v xs)
    (hv' : v' = .slice a' len' cap') (hl' : ys.length = len') (hm' : len' ≤ 9223372036854775807) (h' : Ints w v' ys) :
    Calls Try.prog 8 #[v, v'] w fun e w' => e = .returned (.bool true) ∧ Below w.heap.size w w' := by
  by_cases hn : len ≤ 1048576
  · by_cases hn' : len' ≤ 1048576
    · have HI := Lib.hid h
      have HI' := Lib.hid h'
      have HS := Lib.hid (show xs.length ≤ 1048576 by omega)
      have HS' := Lib.hid (show ys.length ≤ 1048576 by omega)
      have HM4 := Lib.hid (spMin_len xs ys)
      clear h h' hl hl'
      subst hv hv'
      obtain ⟨M, hM⟩ : ∃ M, M = spMin xs ys := ⟨_, rfl⟩
      have cS := fun v v' w h h' => specMin_any v v' xs ys w h h'
      have cI := fun v v' w h h' => ClockMin_any v v' xs ys w h h'
      simp only [← hM] at cS cI HM4
      have CS := Lib.hid cS
      have CI := Lib.hid cI
      clear cS cI hM
      have ee : ∀ l, eqB l l = true := by simp [eqB]
      have EE := Lib.hid ee
      clear ee
      go_enter Try.func8, Try.ntmps8
      -- the reference's answer
      go_wp2_with fail
      refine (toOwn2 _ xs _ HI.out HS.out).mono ?_
      rintro e w1 ⟨rfl, i1, b1, l1⟩
      have I1 := Lib.hid i1
      have B1 := Lib.hid b1
      clear i1 b1 l1
      go_wp2_with fail
      refine (toOwn2 _ ys _ (HI'.out.below (B := 0) B1.out) HS'.out).mono ?_
      rintro e w2 ⟨rfl, i2, b2, l2⟩
      have I2 := Lib.hid i2
      have J1 := Lib.hid (I1.out.below b2)
      have B2 := Lib.hid (B1.out.trans (b2.mono B1.out.size))
      clear i2 b2 l2
      go_wp2_with fail
      refine (CS.out _ _ _ (own_ints J1.out) (own_ints I2.out)).mono ?_
      rintro e w3 ⟨gs, vs, rfl, gs1, os3, b3⟩
      have GS3 := Lib.hid (fun hp => own_lt os3 hp)
      have S3 := Lib.hid os3
      have B3 := Lib.hid (B2.out.trans (b3.mono B2.out.size))
      clear gs1 os3 b3 I1 I2 J1
      -- x0, x1
      go_wp2_with fail
      refine (toOwn2 _ xs _ (HI.out.below (B := 0) B3.out) HS.out).mono ?_
      rintro e w4 ⟨rfl, i4, b4, l4⟩
      have L34 := Lib.hid l4
      have P4 := Lib.hid i4
      have S4 := Lib.hid (S3.out.below b4)
      have G4 := Lib.hid (fun hp => own_lt i4 hp)
      have B4 := Lib.hid (B3.out.trans (b4.mono B3.out.size))
      clear i4 b4 l4
      go_wp2_with fail
      refine (toOwn2 _ ys _ (HI'.out.below (B := 0) B4.out) HS'.out).mono ?_
      rintro e w5 ⟨rfl, i5, b5, l5⟩
      have L45 := Lib.hid l5
      have Q5 := Lib.hid i5
      have P5 := Lib.hid (P4.out.below b5)
      have S5 := Lib.hid (S4.out.below b5)
      have G5 := Lib.hid (fun hp => own_lt i5 hp)
      have B5 := Lib.hid (B4.out.trans (b5.mono B4.out.size))
      clear i5 b5 l5
      -- the program's answer
      go_wp2_with fail
      refine (CI.out _ _ _ (own_ints P5.out) (own_ints Q5.out)).mono ?_
      rintro e w6 ⟨gi, vi, rfl, gi1, oi6, b6⟩
      have GI := Lib.hid gi1
      have O6 := Lib.hid oi6
      have P6 := Lib.hid (P5.out.below b6)
      have Q6 := Lib.hid (Q5.out.below b6)
      have S6 := Lib.hid (S5.out.below b6)
      have L56 := Lib.hid b6.size
      have B6 := Lib.hid (B5.out.trans (b6.mono B5.out.size))
      clear gi1 oi6 b6
      go_wp2_with fail
      refine (eqIntS_any _ _ M M _ (own_ints O6.out) (own_ints S6.out)).mono ?_
      rintro e w7 ⟨rfl, q7, rfl⟩
      rw [EE.out M]
      go_wp2_with fail
      -- the arguments are as they were
      have B7 := Lib.hid (below_drewN B6.out q7)
      refine (toOwn2 _ xs _ (HI.out.below (B := 0) B7.out) HS.out).mono ?_
      rintro e w8 ⟨rfl, i8, b8, l8⟩
      have P8 := Lib.hid ((P6.out.drewN q7).below b8)
      have Q8 := Lib.hid ((Q6.out.drewN q7).below b8)
      have S8 := Lib.hid ((S6.out.drewN q7).below b8)
      have O8 := Lib.hid ((O6.out.drewN q7).below b8)
      have I8 := Lib.hid i8
      have L78 : Hid (w6.heap.size ≤ w8.heap.size) := b8.size
      have B8 := Lib.hid (B7.out.trans (b8.mono B7.out.size))
      clear i8 b8 l8
      go_wp2_with fail
      refine (eqIntS_any _ _ xs xs _ (own_ints P8.out) (own_ints I8.out)).mono ?_
      rintro e w9 ⟨rfl, q9, rfl⟩
      rw [EE.out xs]
      go_wp2_with fail
      have B9 := Lib.hid (below_drewN B8.out q9)
      refine (toOwn2 _ ys _ (HI'.out.below (B := 0) B9.out) HS'.out).mono ?_
      rintro e w10 ⟨rfl, i10, b10, l10⟩
      have P10 := Lib.hid ((P8.out.drewN q9).below b10)
      have Q10 := Lib.hid ((Q8.out.drewN q9).below b10)
      have S10 := Lib.hid ((S8.out.drewN q9).below b10)
      have O10 := Lib.hid ((O8.out.drewN q9).below b10)
      have I10 := Lib.hid i10
      have L810 : Hid (w8.heap.size ≤ w10.heap.size) := b10.size
      have B10 := Lib.hid (B9.out.trans (b10.mono B9.out.size))
      clear i10 b10 l10
      go_wp2_with fail
      refine (eqIntS_any _ _ ys ys _ (own_ints Q10.out) (own_ints I10.out)).mono ?_
      rintro e w11 ⟨rfl, q11, rfl⟩
      rw [EE.out ys]
      have B11 := Lib.hid (below_drewN B10.out q11)
      -- the arguments' copies are marked
      go_wp2_with fail
      refine (mark_any w3.heap.size _ 1 xs _ (P10.out.drewN q11) (by omega) (by have := HS.out; omega)).mono ?_
      rintro e w12 ⟨rfl, p12, g12⟩
      have Q12 := Lib.hid ((Q10.out.drewN q11).other g12 (fun hp => by have := L34.out; omega))
      have S12 := Lib.hid ((S10.out.drewN q11).other g12 (fun hp => by have := GS3.out hp; omega))
      have O12 := Lib.hid ((O10.out.drewN q11).other g12 (fun hp => by have := GI.out; have := L45.out; have := L34.out; omega))
      have B12 := Lib.hid (B11.out.grown g12 B11.out.size (fun k hk => by cases hk; exact B3.out.size))
      clear p12 g12
      go_wp2_with fail
      refine (mark_any w4.heap.size _ _ ys _ Q12.out (by omega) (by have := HS.out; have := HS'.out; omega)).mono ?_
      rintro e w13 ⟨rfl, p13, g13⟩
      have S13 := Lib.hid (S12.out.other g13 (fun hp => by have := GS3.out hp; have := L34.out; omega))
      have O13 := Lib.hid (O12.out.other g13 (fun hp => by have := GI.out; have := L45.out; omega))
      have B13 := Lib.hid (B12.out.grown g13 B12.out.size (fun k hk => by cases hk; exact B4.out.size))
      clear p13 g13
      have kk : (0 : Int) ≤ 1 + (xs.length : Int) + (ys.length : Int) := by omega
      have kk' : decide (1 + (xs.length : Int) + (ys.length : Int) < 0) = false := by simp; omega
      go_wp2_with fail
      refine (eqIntS_any _ _ M M _ (own_ints O13.out) (own_ints S13.out)).mono ?_
      rintro e w14 ⟨rfl, q14, rfl⟩
      rw [EE.out M]
      have B14 := Lib.hid (below_drewN B13.out q14)
      clear kk kk'
      -- the answer is marked, and holds its marks
      go_wp2_with fail
      refine (mark_any gi _ 1 M _ (O13.out.drewN q14) (by omega) (by have := HM4.out; omega)).mono ?_
      rintro e w15 ⟨rfl, o15, g15⟩
      have S15 := Lib.hid ((S13.out.drewN q14).other g15 (fun hp => by have := GS3.out hp; have := L34.out; have := L45.out; have := GI.out; omega))
      have O15 := Lib.hid o15
      have B15 := Lib.hid (B14.out.grown g15 B14.out.size (fun k hk => by cases hk; have := GI.out; have := B5.out.size; omega))
      clear o15 g15
      go_wp2_with fail
      refine (held_any _ 1 M.length _ (own_ints O15.out) (by omega) (by have := HM4.out; omega)).mono ?_
      rintro e w16 ⟨rfl, rfl⟩
      have kk : (0 : Int) ≤ 1 + (M.length : Int) := by omega
      have kk' : decide (1 + (M.length : Int) < 0) = false := by simp; omega
      have kq : ((1 + (M.length : Int)) == (1 + (M.length : Int))) = true := by simp
      have kq' : ((1 + (M.length : Int)) != (1 + (M.length : Int))) = false := by simp
      go_wp2_with fail
      -- another call
      refine (toOwn2 _ xs _ (HI.out.below (B := 0) B15.out) HS.out).mono ?_
      rintro e w17 ⟨rfl, i17, b17, l17⟩
      have I17 := Lib.hid i17
      have S17 := Lib.hid (S15.out.below b17)
      have O17 := Lib.hid (O15.out.below b17)
      have B17 := Lib.hid (B15.out.trans (b17.mono B15.out.size))
      clear i17 b17 l17
      go_wp2_with fail
      refine (toOwn2 _ ys _ (HI'.out.below (B := 0) B17.out) HS'.out).mono ?_
      rintro e w18 ⟨rfl, i18, b18, l18⟩
      have J18 := Lib.hid i18
      have I18 := Lib.hid (I17.out.below b18)
      have S18 := Lib.hid (S17.out.below b18)
      have O18 := Lib.hid (O17.out.below b18)
      have B18 := Lib.hid (B17.out.trans (b18.mono B17.out.size))
      clear i18 b18 l18
      go_wp2_with fail
      refine (CI.out _ _ _ (own_ints I18.out) (own_ints J18.out)).mono ?_
      rintro e w19 ⟨gh, vh, rfl, gh1, oh19, b19⟩
      have H19 := Lib.hid oh19
      have S19 := Lib.hid (S18.out.below b19)
      have O19 := Lib.hid (O18.out.below b19)
      have B19 := Lib.hid (B18.out.trans (b19.mono B18.out.size))
      clear oh19 b19 gh1
      go_wp2_with fail
      refine (eqIntS_any _ _ M M _ (own_ints H19.out) (own_ints S19.out)).mono ?_
      rintro e w20 ⟨rfl, q20, rfl⟩
      rw [EE.out M]
      have B20 := Lib.hid (below_drewN B19.out q20)
      go_wp2_with fail
      refine (held_any _ 1 M.length _ (own_ints (O19.out.drewN q20)) (by omega) (by have := HM4.out; omega)).mono ?_
      rintro e w21 ⟨rfl, rfl⟩
      go_wp2
      go_ret
      exact ⟨rfl, B20.out⟩
    · subst hv hv'
      clear h h' hl hl'
      go_enter Try.func8, Try.ntmps8
      go_wp2
      go_ret
      exact ⟨rfl, Below.refl _ _⟩
  · subst hv hv'
    clear h h' hl hl'
    go_enter Try.func8, Try.ntmps8
    go_wp2
    go_ret
    exact ⟨rfl, Below.refl _ _⟩
end Go.Proofs.Ytiacnlnibapgpaa
