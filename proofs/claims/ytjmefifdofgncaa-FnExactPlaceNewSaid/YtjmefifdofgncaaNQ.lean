/- PlaceNew: the reference's, the program's, the law. -/
import Derived.Test.YtjmefifdofgncaaNP
import Derived.Test.YtjmefifdofgncaaMI
namespace Go.Proofs.Ytjmefifdofgncaa
open Go.RowKit
set_option linter.unusedVariables false

def plB (x y : Int) : Bool := inB y 1 4 && inB x 0 (y - 1)
def NewPl (w : World) (x y : Int) (e : Ending) (w' : World) : Prop := Below w.heap.size w w' ∧
  ((plB x y = true ∧ e = .returned (.tuple #[plV x y, .bool true])) ∨ (plB x y = false ∧ e = .returned (.tuple #[plV 0 0, .bool false])))
theorem isPlace_any (x y : Int) (w : World) : Calls Try.prog 107 #[.int .i64 x, .int .i64 y] w fun e w' => e = .returned (.bool (plB x y)) ∧ w' = w := by
  go_enter Try.func107, Try.ntmps107
  go_wp2_with fail
  refine (isIn_any _ _ _ _).mono ?_
  rintro e w1 ⟨rfl, rfl⟩
  by_cases h : 1 ≤ y ∧ y ≤ 4
  · have e1 : inB y 1 4 = true := inB_yes h.1 h.2
    have e2 : IntKind.i64.wrap (y - 1) = y - 1 := IntWalk.i64_in _ (by omega)
    have HP := Lib.hid (show inB x 0 (y - 1) = plB x y by rw [plB, e1]; rfl)
    rw [e1]
    go_wp2_with fail
    refine (isIn_any _ _ _ _).mono ?_
    rintro e w2 ⟨rfl, rfl⟩
    rw [HP.out]
    go_wp2_with fail
    go_ret
    exact ⟨rfl, rfl⟩
  · have e1 : inB y 1 4 = false := inB_no h
    have HP := Lib.hid (show plB x y = false by rw [plB, e1]; rfl)
    rw [e1]
    go_wp2_with fail
    go_ret
    exact ⟨ret_bool HP.out.symm, rfl⟩
set_option maxHeartbeats 1600000 in
theorem implPlaceNew_any (x y : Int) (w : World) : Calls Try.prog 57 #[.int .i64 x, .int .i64 y] w (NewPl w x y) := by
  have kR := Blk.new w #[.int .i64 0, .int .i64 0, .slice none 0 0, .slice none 0 0, .slice none 0 0] 68
  have b0 := (Below.refl w.heap.size w).alloc (Nat.le_refl _) (.cells #[.int .i64 0, .int .i64 0, .slice none 0 0, .slice none 0 0, .slice none 0 0] 68)
  go_enter Try.func57, Try.ntmps57
  go_wp2_with fail
  refine (isPlace_any _ _ _).mono ?_
  rintro e w1 ⟨rfl, rfl⟩
  cases h : plB x y
  · go_wp2_with fail
    exact bodyPost_ret (v := .tuple #[plV 0 0, .bool false]) (by simp [results, Try.results57, go_sem, plV]) rfl ⟨b0, .inr ⟨h, rfl⟩⟩
  · go_wp2_with fail
    refine bodyPost_ret (v := .tuple #[plV x y, .bool true]) (by simp [results, Try.results57, go_sem, plV]) rfl ⟨(Below.refl w.heap.size w).alloc (Nat.le_refl _) _, .inl ⟨h, rfl⟩⟩
set_option maxHeartbeats 1600000 in
theorem specPlaceNew_any (x y : Int) (w : World) : Calls Try.prog 56 #[.int .i64 x, .int .i64 y] w (NewPl w x y) := by
  have kR := Blk.new w #[.int .i64 0, .int .i64 0, .slice none 0 0, .slice none 0 0, .slice none 0 0] 68
  have b0 := (Below.refl w.heap.size w).alloc (Nat.le_refl _) (.cells #[.int .i64 0, .int .i64 0, .slice none 0 0, .slice none 0 0, .slice none 0 0] 68)
  go_enter Try.func56, Try.ntmps56
  by_cases h1 : y < 1
  · have HP := Lib.hid (show plB x y = false by rw [plB, inB_no (by omega)]; rfl)
    go_wp2
    exact bodyPost_ret (v := .tuple #[plV 0 0, .bool false]) (by simp [results, Try.results56, go_sem, plV]) rfl ⟨b0, .inr ⟨HP.out, rfl⟩⟩
  · by_cases h2 : 4 < y
    · have HP := Lib.hid (show plB x y = false by rw [plB, inB_no (by omega)]; rfl)
      go_wp2
      exact bodyPost_ret (v := .tuple #[plV 0 0, .bool false]) (by simp [results, Try.results56, go_sem, plV]) rfl ⟨b0, .inr ⟨HP.out, rfl⟩⟩
    · by_cases h3 : x < 0
      · have HP := Lib.hid (show plB x y = false by rw [plB, inB_no (n := x) (by omega)]; simp)
        go_wp2
        exact bodyPost_ret (v := .tuple #[plV 0 0, .bool false]) (by simp [results, Try.results56, go_sem, plV]) rfl ⟨b0, .inr ⟨HP.out, rfl⟩⟩
      · by_cases h4 : y ≤ x
        · have HP := Lib.hid (show plB x y = false by rw [plB, inB_no (n := x) (by omega)]; simp)
          go_wp2
          exact bodyPost_ret (v := .tuple #[plV 0 0, .bool false]) (by simp [results, Try.results56, go_sem, plV]) rfl ⟨b0, .inr ⟨HP.out, rfl⟩⟩
        · have HP := Lib.hid (show plB x y = true by rw [plB, inB_yes (n := x) (by omega) (by omega), inB_yes (by omega) (by omega)]; rfl)
          go_wp2
          refine bodyPost_ret (v := .tuple #[plV x y, .bool true]) (by simp [results, Try.results56, go_sem, plV]) rfl ⟨(Below.refl w.heap.size w).alloc (Nat.le_refl _) _, .inl ⟨HP.out, rfl⟩⟩

/-- what PlaceNew hands back, under letters -/
theorem newPl_is (x y : Int) : ∃ a b B, ∀ (w : World) e w', NewPl w x y e w' → e = .returned (.tuple #[.agg #[.int .i64 a, .int .i64 b, .slice none 0 0, .slice none 0 0, .slice none 0 0], .bool B]) ∧ Below w.heap.size w w' := by
  cases h : plB x y
  · refine ⟨0, 0, false, fun w e w' hh => ?_⟩
    rcases hh with ⟨hb, ⟨h1, rfl⟩ | ⟨h1, rfl⟩⟩
    · rw [h] at h1; cases h1
    · exact ⟨rfl, hb⟩
  · refine ⟨x, y, true, fun w e w' hh => ?_⟩
    rcases hh with ⟨hb, ⟨h1, rfl⟩ | ⟨h1, rfl⟩⟩
    · exact ⟨rfl, hb⟩
    · rw [h] at h1; cases h1

set_option maxRecDepth 100000 in
set_option maxHeartbeats 3200000 in
theorem law_placeNew (x y : Int) (w : World) :
    Calls Try.prog 13 #[.int .i64 x, .int .i64 y] w fun e w' => e = .returned (.bool true) ∧ Below w.heap.size w w' := by
  obtain ⟨a, b, B, hN⟩ := newPl_is x y
  have SP := Lib.hid (fun W => (specPlaceNew_any x y W).mono (R' := fun e w' => e = .returned (.tuple #[.agg #[.int .i64 a, .int .i64 b, .slice none 0 0, .slice none 0 0, .slice none 0 0], .bool B]) ∧ Below W.heap.size W w') (fun e w' h => hN W e w' h))
  have IP := Lib.hid (fun W => (implPlaceNew_any x y W).mono (R' := fun e w' => e = .returned (.tuple #[.agg #[.int .i64 a, .int .i64 b, .slice none 0 0, .slice none 0 0, .slice none 0 0], .bool B]) ∧ Below W.heap.size W w') (fun e w' h => hN W e w' h))
  have EQ := Lib.hid (fun W => eqPlace_none a b W)
  have MK := Lib.hid (fun W => markPlace_none a b 1 (by omega) W)
  have HD := Lib.hid (fun W => heldPlace_none a b 1 (by omega) W)
  simp only [plV] at EQ MK HD
  clear hN
  go_enter Try.func13, Try.ntmps13
  go_wp2_with fail
  refine (SP.out _).mono ?_
  rintro e w1 ⟨rfl, b1⟩
  go_upto_region 2 with (fail)
  have kW := Blk.new w1 #[.int .i64 a, .int .i64 b, .slice none 0 0, .slice none 0 0, .slice none 0 0] 68
  have bW := b1.trans (((Below.refl w1.heap.size w1).alloc (Nat.le_refl _) (.cells #[.int .i64 a, .int .i64 b, .slice none 0 0, .slice none 0 0, .slice none 0 0] 68)).mono b1.size)
  obtain ⟨P5, hP5⟩ : ∃ P, P = w1.heap.size := ⟨_, rfl⟩
  rw [← hP5] at kW ⊢
  generalize w1.alloc (.cells #[.int .i64 a, .int .i64 b, .slice none 0 0, .slice none 0 0, .slice none 0 0] 68) = w2 at kW bW ⊢
  clear b1 hP5
  have KW := Lib.hid kW
  have BW := Lib.hid bW
  clear kW bW
  go_wp2_with fail
  refine (IP.out _).mono ?_
  rintro e w3 ⟨rfl, b3⟩
  have kW3 := KW.out.below b3 KW.out.lt
  have B3 := BW.out.trans (b3.mono BW.out.size)
  clear KW BW b3
  go_upto_region 3 with (fail)
  have kG := Blk.new w3 #[.int .i64 a, .int .i64 b, .slice none 0 0, .slice none 0 0, .slice none 0 0] 68
  have b4 := (Below.refl w3.heap.size w3).alloc (Nat.le_refl _) (.cells #[.int .i64 a, .int .i64 b, .slice none 0 0, .slice none 0 0, .slice none 0 0] 68)
  obtain ⟨P7, hP7⟩ : ∃ P, P = w3.heap.size := ⟨_, rfl⟩
  have kW4 := kW3.below b4 kW3.lt
  have B4 := B3.trans (b4.mono B3.size)
  rw [← hP7] at kG ⊢
  generalize w3.alloc (.cells #[.int .i64 a, .int .i64 b, .slice none 0 0, .slice none 0 0, .slice none 0 0] 68) = w4 at kG kW4 B4 ⊢
  clear kW3 B3 hP7 b4
  have c0 := kW4.cell 0
  have c1 := kW4.cell 1
  have c2 := kW4.cell 2
  have c3 := kW4.cell 3
  have c4 := kW4.cell 4
  have d0 := kG.cell 0
  have d1 := kG.cell 1
  have d2 := kG.cell 2
  have d3 := kG.cell 3
  have d4 := kG.cell 4
  simp only [List.getElem?_cons_zero, List.getElem?_cons_succ] at c0 c1 c2 c3 c4 d0 d1 d2 d3 d4
  go_wp2_with fail
  refine (EQ.out _).mono ?_
  rintro e w5 ⟨rfl, b5⟩
  have KW := Lib.hid (kW4.below b5 kW4.lt)
  have KG := Lib.hid (kG.below b5 kG.lt)
  have B5 := Lib.hid (B4.trans (b5.mono B4.size))
  clear kW4 kG B4 b5 c0 c1 c2 c3 c4 d0 d1 d2 d3 d4
  have d0 := KG.out.cell 0
  have d1 := KG.out.cell 1
  have d2 := KG.out.cell 2
  have d3 := KG.out.cell 3
  have d4 := KG.out.cell 4
  simp only [List.getElem?_cons_zero, List.getElem?_cons_succ] at d0 d1 d2 d3 d4
  cases B
  all_goals
    go_wp2_with fail
    refine (MK.out _).mono ?_
    rintro e w6 ⟨rfl, b6⟩
    have KW6 := Lib.hid (KW.out.below b6 KW.out.lt)
    have KG6 := Lib.hid (KG.out.below b6 KG.out.lt)
    have B6 := Lib.hid (B5.out.trans (b6.mono B5.out.size))
    clear b6 d0 d1 d2 d3 d4
    have d0 := KG6.out.cell 0
    have d1 := KG6.out.cell 1
    have d2 := KG6.out.cell 2
    have d3 := KG6.out.cell 3
    have d4 := KG6.out.cell 4
    simp only [List.getElem?_cons_zero, List.getElem?_cons_succ] at d0 d1 d2 d3 d4
    go_wp2_with fail
    refine (HD.out _).mono ?_
    rintro e w7 ⟨rfl, b7⟩
    have KW7 := Lib.hid (KW6.out.below b7 KW6.out.lt)
    have KG7 := Lib.hid (KG6.out.below b7 KG6.out.lt)
    have B7 := Lib.hid (B6.out.trans (b7.mono B6.out.size))
    clear b7 d0 d1 d2 d3 d4
    go_wp2_with fail
    refine (IP.out _).mono ?_
    rintro e w8 ⟨rfl, b8⟩
    have KW8 := Lib.hid (KW7.out.below b8 KW7.out.lt)
    have KG8 := Lib.hid (KG7.out.below b8 KG7.out.lt)
    have B8 := Lib.hid (B7.out.trans (b8.mono B7.out.size))
    clear b8
    go_upto_region 14 with (fail)
    have kH := Blk.new w8 #[.int .i64 a, .int .i64 b, .slice none 0 0, .slice none 0 0, .slice none 0 0] 68
    have b9 := (Below.refl w8.heap.size w8).alloc (Nat.le_refl _) (.cells #[.int .i64 a, .int .i64 b, .slice none 0 0, .slice none 0 0, .slice none 0 0] 68)
    obtain ⟨P11, hP11⟩ : ∃ P, P = w8.heap.size := ⟨_, rfl⟩
    have kW9 := KW8.out.below b9 KW8.out.lt
    have kG9 := KG8.out.below b9 KG8.out.lt
    have B9 := Lib.hid (B8.out.trans (b9.mono B8.out.size))
    rw [← hP11] at kH ⊢
    generalize w8.alloc (.cells #[.int .i64 a, .int .i64 b, .slice none 0 0, .slice none 0 0, .slice none 0 0] 68) = w9 at kH kW9 kG9 B9 ⊢
    clear hP11 b9
    have c0 := kW9.cell 0
    have c1 := kW9.cell 1
    have c2 := kW9.cell 2
    have c3 := kW9.cell 3
    have c4 := kW9.cell 4
    have d0 := kH.cell 0
    have d1 := kH.cell 1
    have d2 := kH.cell 2
    have d3 := kH.cell 3
    have d4 := kH.cell 4
    simp only [List.getElem?_cons_zero, List.getElem?_cons_succ] at c0 c1 c2 c3 c4 d0 d1 d2 d3 d4
    go_wp2_with fail
    refine (EQ.out _).mono ?_
    rintro e w10 ⟨rfl, b10⟩
    have KG10 := Lib.hid (kG9.below b10 kG9.lt)
    have B10 := Lib.hid (B9.out.trans (b10.mono B9.out.size))
    clear kW9 kG9 kH b10 c0 c1 c2 c3 c4 d0 d1 d2 d3 d4
    have d0 := KG10.out.cell 0
    have d1 := KG10.out.cell 1
    have d2 := KG10.out.cell 2
    have d3 := KG10.out.cell 3
    have d4 := KG10.out.cell 4
    simp only [List.getElem?_cons_zero, List.getElem?_cons_succ] at d0 d1 d2 d3 d4
    go_wp2_with fail
    refine (HD.out _).mono ?_
    rintro e w11 ⟨rfl, b11⟩
    have B11 := Lib.hid (B10.out.trans (b11.mono B10.out.size))
    clear b11 d0 d1 d2 d3 d4
    go_wp2_with fail
    go_ret
    exact ⟨rfl, B11.out⟩
end Go.Proofs.Ytjmefifdofgncaa
