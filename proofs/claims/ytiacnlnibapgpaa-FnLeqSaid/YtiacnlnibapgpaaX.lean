/- The laws FnClocks and FnLeq. -/
import Derived.Test.YtiacnlnibapgpaaV
import Derived.Test.YtiacnlnibapgpaaW
namespace Go.Proofs.Ytiacnlnibapgpaa
open Go.RowKit
set_option linter.unusedVariables false

theorem zip_getD (f : Int → Int → Int) (xs ys : List Int) (h : xs.length = ys.length) (i : Nat) (hi : i < xs.length) : (List.zipWith f xs ys).getD i 0 = f (xs.getD i 0) (ys.getD i 0) := by
  have hy : i < ys.length := by omega
  have hz : i < (List.zipWith f xs ys).length := by simp; omega
  simp only [List.getD, List.getElem?_eq_getElem hz, List.getElem?_eq_getElem hi, List.getElem?_eq_getElem hy, Option.getD_some, List.getElem_zipWith]
theorem zip_mem (f : Int → Int → Int) (P : Int → Prop) (hf : ∀ x y, P x → P y → P (f x y)) : ∀ (xs ys : List Int), (∀ x ∈ xs, P x) → (∀ y ∈ ys, P y) → ∀ z ∈ List.zipWith f xs ys, P z
  | [], _, _, _, z, hz => by simp at hz
  | _ :: _, [], _, _, z, hz => by simp at hz
  | x :: xs, y :: ys, h1, h2, z, hz => by
    rw [List.zipWith_cons_cons] at hz
    rcases List.mem_cons.1 hz with h | h
    · rw [h]; exact hf _ _ (h1 x (List.mem_cons_self ..)) (h2 y (List.mem_cons_self ..))
    · exact zip_mem f P hf xs ys (fun x hx => h1 x (List.mem_cons_of_mem _ hx)) (fun y hy => h2 y (List.mem_cons_of_mem _ hy)) z h
theorem okB_zip (f : Int → Int → Int) (hf : ∀ x y, f x y = x ∨ f x y = y) (xs ys : List Int) (hb : bothB xs ys = true) : okB (List.zipWith f xs ys) = true := by
  simp only [bothB, Bool.and_eq_true, decide_eq_true_eq] at hb
  have k1 := (okB_iff xs).1 hb.1.1
  have k2 := (okB_iff ys).1 hb.1.2
  refine (okB_iff _).2 ⟨by simp; omega, by simp; omega, ?_⟩
  exact zip_mem f (fun z => 0 ≤ z ∧ z ≤ 100000) (fun x y hx hy => by rcases hf x y with e | e <;> rw [e] <;> assumption) xs ys k1.2.2 k2.2.2
theorem mx_or (x y : Int) : mx x y = x ∨ mx x y = y := by unfold mx; split <;> simp
theorem mn_or (x y : Int) : mn x y = x ∨ mn x y = y := by unfold mn; split <;> simp
theorem mx_comm (x y : Int) : mx x y = mx y x := by unfold mx; split <;> split <;> omega
theorem mn_comm (x y : Int) : mn x y = mn y x := by unfold mn; split <;> split <;> omega
theorem mx_mn (x y : Int) : mx x y + mn x y = x + y := by unfold mx mn; split <;> split <;> omega
theorem zip_sum : ∀ (xs ys : List Int), xs.length = ys.length → (List.zipWith mx xs ys).sum + (List.zipWith mn xs ys).sum = xs.sum + ys.sum
  | [], [], _ => by simp
  | x :: xs, y :: ys, h => by
    have := zip_sum xs ys (by simpa using h)
    have := mx_mn x y
    simp only [List.zipWith_cons_cons, List.sum_cons]
    omega
  | [], _ :: _, h => by simp at h
  | _ :: _, [], h => by simp at h
theorem sum_range (xs : List Int) (h : ∀ x ∈ xs, 0 ≤ x ∧ x ≤ 100000) : 0 ≤ xs.sum ∧ xs.sum ≤ xs.length * 100000 := by
  induction xs with
  | nil => simp
  | cons x xs ih =>
    have h1 := h x (List.mem_cons_self ..)
    have h2 := ih (fun y hy => h y (List.mem_cons_of_mem _ hy))
    simp only [List.sum_cons, List.length_cons]
    omega
theorem spSum_range (xs : List Int) : -1 ≤ spSum xs ∧ spSum xs ≤ 400000 := by
  unfold spSum
  split
  · rename_i h
    have k := (okB_iff xs).1 h
    have := sum_range xs k.2.2
    omega
  · omega

/-- all that FnClocks asks of two clocks for as many places -/
theorem clocks_math (xs ys : List Int) (hb : bothB xs ys = true) :
    let M := List.zipWith mx xs ys; let N := List.zipWith mn xs ys
    spLeq xs M = true ∧ spLeq ys M = true ∧ spLeq N xs = true ∧ spLeq N ys = true ∧ spSum M + spSum N = spSum xs + spSum ys ∧ spMax ys xs = M ∧ spMin ys xs = N ∧ N.length = M.length ∧ 0 < M.length := by
  have hb0 := hb
  have hM := okB_zip mx mx_or xs ys hb
  have hN := okB_zip mn mn_or xs ys hb
  have hs := bothB_symm xs ys
  simp only [bothB, Bool.and_eq_true, decide_eq_true_eq] at hb
  obtain ⟨⟨o1, o2⟩, ol⟩ := hb
  have k1 := (okB_iff xs).1 o1
  have lM : (List.zipWith mx xs ys).length = xs.length := by simp; omega
  have lN : (List.zipWith mn xs ys).length = xs.length := by simp; omega
  refine ⟨?_, ?_, ?_, ?_, ?_, ?_, ?_, by omega, by omega⟩
  · simp only [spLeq, bothB, o1, hM, lM, Bool.true_and, decide_true]
    refine (leqB_iff _ _).2 fun i hi => ?_
    rw [zip_getD mx xs ys ol i hi]; unfold mx; split <;> omega
  · simp only [spLeq, bothB, o2, hM, lM, ol, Bool.true_and, decide_true]
    refine (leqB_iff _ _).2 fun i hi => ?_
    rw [zip_getD mx xs ys ol i (by omega)]; unfold mx; split <;> omega
  · simp only [spLeq, bothB, o1, hN, lN, Bool.true_and, decide_true]
    refine (leqB_iff _ _).2 fun i hi => ?_
    rw [zip_getD mn xs ys ol i (by omega)]; unfold mn; split <;> omega
  · simp only [spLeq, bothB, o2, hN, lN, ol, Bool.true_and, decide_true]
    refine (leqB_iff _ _).2 fun i hi => ?_
    rw [zip_getD mn xs ys ol i (by omega)]; unfold mn; split <;> omega
  · simp only [spSum, hM, hN, o1, o2, if_true]
    exact zip_sum xs ys ol
  · rw [spMax, if_pos (by rw [← hs]; exact hb0)]
    rw [List.zipWith_comm]
    congr 1
    funext x y
    exact mx_comm _ _
  · rw [spMin, if_pos (by rw [← hs]; exact hb0)]
    rw [List.zipWith_comm]
    congr 1
    funext x y
    exact mn_comm _ _

set_option maxHeartbeats 1600000 in
theorem law_clocks (a : Option Addr) (len cap : Nat) (w : World) (hm : len ≤ 9223372036854775807) (hc : Code w w.heap.size a len) :
    Calls Try.prog 3 #[.slice a len cap] w fun e w' => e = .returned (.bool true) ∧ Below w.heap.size w w' := by
  have HD := Lib.hid (drawMax_any a len cap w hm hc)
  clear hc
  go_enter Try.func3, Try.ntmps3
  go_wp2_with fail
  refine HD.out.mono ?_
  rintro e w1 ⟨v, v', xs, ys, rfl, h1, h2, h3⟩
  have X1 := Lib.hid h1
  have Y1 := Lib.hid h2
  have B1 := Lib.hid h3
  clear h1 h2 h3 HD
  cases hb : bothB xs ys with
  | false =>
    have m0 : spMax xs ys = [] := by rw [spMax, if_neg (by simp [hb])]
    have n0 : spMin xs ys = [] := by rw [spMin, if_neg (by simp [hb])]
    clear hb
    go_wp2_with fail
    refine (ClockMax_any _ _ xs ys _ X1.out Y1.out).mono ?_
    rw [m0]
    rintro e w2 ⟨g2, v2, rfl, _, o2, b2⟩
    obtain ⟨a2, c2, hv2⟩ := ints_len (own_ints o2)
    have X2 := Lib.hid (X1.out.below (B := 0) b2)
    have Y2 := Lib.hid (Y1.out.below (B := 0) b2)
    have B2 := Lib.hid (B1.out.trans (b2.mono B1.out.size))
    have V2 := Lib.hid hv2
    clear o2 b2 hv2
    go_wp2_with fail
    refine (ClockMin_any _ _ xs ys _ X2.out Y2.out).mono ?_
    rw [n0]
    rintro e w3 ⟨g3, v3, rfl, _, o3, b3⟩
    obtain ⟨a3, c3, hv3⟩ := ints_len (own_ints o3)
    have X3 := Lib.hid (X2.out.below (B := 0) b3)
    have Y3 := Lib.hid (Y2.out.below (B := 0) b3)
    have B3 := Lib.hid (B2.out.trans (b3.mono B2.out.size))
    have V3 := Lib.hid hv3
    clear o3 b3 hv3
    rw [V2.out, V3.out]
    go_wp2_with fail
    refine (specMax_any _ _ xs ys _ X3.out Y3.out).mono ?_
    rw [m0]
    rintro e w4 ⟨g4, v4, rfl, _, o4, b4⟩
    obtain ⟨a4, c4, hv4⟩ := ints_len (own_ints o4)
    have B4 := Lib.hid (B3.out.trans (b4.mono B3.out.size))
    have V4 := Lib.hid hv4
    clear o4 b4 hv4
    rw [V4.out]
    go_wp2_with fail
    refine (clocks_any _).mono ?_
    rintro e w5 ⟨rfl, b5⟩
    have B5 := Lib.hid (B4.out.trans (b5.mono B4.out.size))
    clear b5
    go_wp2
    go_ret
    exact ⟨rfl, B5.out⟩
  | true =>
    have m0 : spMax xs ys = List.zipWith mx xs ys := by rw [spMax, if_pos hb]
    have n0 : spMin xs ys = List.zipWith mn xs ys := by rw [spMin, if_pos hb]
    obtain ⟨f1, f2, f3, f4, f5, f6, f7, f8, f9⟩ := clocks_math xs ys hb
    generalize List.zipWith mx xs ys = M at *
    generalize List.zipWith mn xs ys = N at *
    have F1 := Lib.hid f1
    have F2 := Lib.hid f2
    have F3 := Lib.hid f3
    have F4 := Lib.hid f4
    have F5 := Lib.hid f5
    have F6 := Lib.hid f6
    have F7 := Lib.hid f7
    have F8 := Lib.hid f8
    have s1 := spSum_range xs
    have s2 := spSum_range ys
    have s3 := spSum_range M
    have s4 := spSum_range N
    have SS := Lib.hid (And.intro s1 (And.intro s2 (And.intro s3 s4)))
    have M0 := Lib.hid m0
    have N0 := Lib.hid n0
    clear hb f1 f2 f3 f4 f5 f6 f7 f8 s1 s2 s3 s4 m0 n0
    have mm := fun v v' w h h' => ClockMax_any v v' xs ys w h h'
    have mm' := fun v v' w h h' => ClockMax_any v v' ys xs w h h'
    have ms := fun v v' w h h' => specMax_any v v' xs ys w h h'
    have nn := fun v v' w h h' => ClockMin_any v v' xs ys w h h'
    have nn' := fun v v' w h h' => ClockMin_any v v' ys xs w h h'
    simp only [M0.out] at mm ms
    simp only [F6.out] at mm'
    simp only [N0.out] at nn
    simp only [F7.out] at nn'
    have MM := Lib.hid mm
    have MM' := Lib.hid mm'
    have MS := Lib.hid ms
    have NN := Lib.hid nn
    have NN' := Lib.hid nn'
    clear mm mm' ms nn nn'
    go_wp2_with fail
    refine (MM.out _ _ _ X1.out Y1.out).mono ?_
    rintro e w2 ⟨g2, v2, rfl, _, o2, b2⟩
    have X2 := Lib.hid (X1.out.below (B := 0) b2)
    have Y2 := Lib.hid (Y1.out.below (B := 0) b2)
    have MI2 := Lib.hid (own_ints o2)
    have B2 := Lib.hid (B1.out.trans (b2.mono B1.out.size))
    clear o2 b2
    go_wp2_with fail
    refine (NN.out _ _ _ X2.out Y2.out).mono ?_
    rintro e w3 ⟨g3, v3, rfl, _, o3, b3⟩
    have X3 := Lib.hid (X2.out.below (B := 0) b3)
    have Y3 := Lib.hid (Y2.out.below (B := 0) b3)
    have MI3 := Lib.hid (MI2.out.below (B := 0) b3)
    have NI3 := Lib.hid (own_ints o3)
    have B3 := Lib.hid (B2.out.trans (b3.mono B2.out.size))
    clear o3 b3
    obtain ⟨a2, c2, hv2⟩ := ints_len MI3.out
    obtain ⟨a3, c3, hv3⟩ := ints_len NI3.out
    have V2 := Lib.hid hv2
    have V3 := Lib.hid hv3
    rw [F8.out] at V3
    rw [V2.out] at MI3
    rw [V3.out] at NI3
    clear hv2 hv3
    rw [V2.out, V3.out]
    have LM : M.length ≤ 9223372036854775807 := ints_max MI3.out
    obtain ⟨n, hn⟩ : ∃ n, n = M.length := ⟨_, rfl⟩
    rw [← hn] at MI3 NI3 LM f9
    have nz : ((n : Int) == 0) = false := by simp; omega
    rw [← hn]
    have HN := Lib.hid hn
    clear hn
    go_wp2_with fail
    refine (MS.out _ _ _ X3.out Y3.out).mono ?_
    rintro e w4 ⟨g4, v4, rfl, _, o4, b4⟩
    obtain ⟨a4, c4, hv4⟩ := ints_len (own_ints o4)
    have X4 := Lib.hid (X3.out.below (B := 0) b4)
    have Y4 := Lib.hid (Y3.out.below (B := 0) b4)
    have MI4 := Lib.hid (MI3.out.below (B := 0) b4)
    have NI4 := Lib.hid (NI3.out.below (B := 0) b4)
    have B4 := Lib.hid (B3.out.trans (b4.mono B3.out.size))
    have V4 := Lib.hid hv4
    rw [← HN.out] at V4
    clear o4 b4 hv4
    rw [V4.out]
    go_wp2_with fail
    refine (ClockLeq_any _ _ xs M _ X4.out MI4.out).mono ?_
    rintro e w5 ⟨rfl, b5⟩
    rw [F1.out]
    have X5 := Lib.hid (X4.out.below (B := 0) b5)
    have Y5 := Lib.hid (Y4.out.below (B := 0) b5)
    have MI5 := Lib.hid (MI4.out.below (B := 0) b5)
    have NI5 := Lib.hid (NI4.out.below (B := 0) b5)
    have B5 := Lib.hid (B4.out.trans (b5.mono B4.out.size))
    clear b5 X4 Y4 MI4 NI4
    go_wp2_with fail
    refine (ClockLeq_any _ _ ys M _ Y5.out MI5.out).mono ?_
    rintro e w6 ⟨rfl, b6⟩
    rw [F2.out]
    have X6 := Lib.hid (X5.out.below (B := 0) b6)
    have Y6 := Lib.hid (Y5.out.below (B := 0) b6)
    have MI6 := Lib.hid (MI5.out.below (B := 0) b6)
    have NI6 := Lib.hid (NI5.out.below (B := 0) b6)
    have B6 := Lib.hid (B5.out.trans (b6.mono B5.out.size))
    clear b6 X5 Y5 MI5 NI5
    go_wp2_with fail
    refine (ClockLeq_any _ _ N xs _ NI6.out X6.out).mono ?_
    rintro e w7 ⟨rfl, b7⟩
    rw [F3.out]
    have X7 := Lib.hid (X6.out.below (B := 0) b7)
    have Y7 := Lib.hid (Y6.out.below (B := 0) b7)
    have MI7 := Lib.hid (MI6.out.below (B := 0) b7)
    have NI7 := Lib.hid (NI6.out.below (B := 0) b7)
    have B7 := Lib.hid (B6.out.trans (b7.mono B6.out.size))
    clear b7 X6 Y6 MI6 NI6
    go_wp2_with fail
    refine (ClockLeq_any _ _ N ys _ NI7.out Y7.out).mono ?_
    rintro e w8 ⟨rfl, b8⟩
    rw [F4.out]
    have X8 := Lib.hid (X7.out.below (B := 0) b8)
    have Y8 := Lib.hid (Y7.out.below (B := 0) b8)
    have MI8 := Lib.hid (MI7.out.below (B := 0) b8)
    have NI8 := Lib.hid (NI7.out.below (B := 0) b8)
    have B8 := Lib.hid (B7.out.trans (b8.mono B7.out.size))
    clear b8 X7 Y7 MI7 NI7
    go_wp2_with fail
    refine (ClockSum_any _ M _ MI8.out).mono ?_
    rintro e w9 ⟨rfl, b9⟩
    have X9 := Lib.hid (X8.out.below (B := 0) b9)
    have Y9 := Lib.hid (Y8.out.below (B := 0) b9)
    have MI9 := Lib.hid (MI8.out.below (B := 0) b9)
    have NI9 := Lib.hid (NI8.out.below (B := 0) b9)
    have B9 := Lib.hid (B8.out.trans (b9.mono B8.out.size))
    clear b9 X8 Y8 MI8 NI8
    go_wp2_with fail
    refine (ClockSum_any _ N _ NI9.out).mono ?_
    rintro e w10 ⟨rfl, b10⟩
    have X10 := Lib.hid (X9.out.below (B := 0) b10)
    have Y10 := Lib.hid (Y9.out.below (B := 0) b10)
    have MI10 := Lib.hid (MI9.out.below (B := 0) b10)
    have NI10 := Lib.hid (NI9.out.below (B := 0) b10)
    have B10 := Lib.hid (B9.out.trans (b10.mono B9.out.size))
    clear b10 X9 Y9 MI9 NI9
    go_wp2_with fail
    refine (ClockSum_any _ xs _ X10.out).mono ?_
    rintro e w11 ⟨rfl, b11⟩
    have X11 := Lib.hid (X10.out.below (B := 0) b11)
    have Y11 := Lib.hid (Y10.out.below (B := 0) b11)
    have MI11 := Lib.hid (MI10.out.below (B := 0) b11)
    have NI11 := Lib.hid (NI10.out.below (B := 0) b11)
    have B11 := Lib.hid (B10.out.trans (b11.mono B10.out.size))
    clear b11 X10 Y10 MI10 NI10
    go_wp2_with fail
    refine (ClockSum_any _ ys _ Y11.out).mono ?_
    rintro e w12 ⟨rfl, b12⟩
    have X12 := Lib.hid (X11.out.below (B := 0) b12)
    have Y12 := Lib.hid (Y11.out.below (B := 0) b12)
    have MI12 := Lib.hid (MI11.out.below (B := 0) b12)
    have NI12 := Lib.hid (NI11.out.below (B := 0) b12)
    have B12 := Lib.hid (B11.out.trans (b12.mono B11.out.size))
    clear b12 X11 Y11 MI11 NI11
    obtain ⟨⟨sx0, sx1⟩, ⟨sy0, sy1⟩, ⟨sm0, sm1⟩, ⟨sn0, sn1⟩⟩ := SS.out
    have eS : wrap64 (spSum M + spSum N) = spSum xs + spSum ys := by rw [F5.out]; unfold wrap64; omega
    clear sm0 sm1 sn0 sn1
    have eM : eqB M M = true := by simp [eqB]
    have eN : eqB N N = true := by simp [eqB]
    have EM := Lib.hid eM
    have EN := Lib.hid eN
    clear eM eN
    go_wp2_with fail
    refine (MM'.out _ _ _ Y12.out X12.out).mono ?_
    rintro e w13 ⟨g13, v13, rfl, _, o13, b13⟩
    have X13 := Lib.hid (X12.out.below (B := 0) b13)
    have Y13 := Lib.hid (Y12.out.below (B := 0) b13)
    have MI13 := Lib.hid (MI12.out.below (B := 0) b13)
    have NI13 := Lib.hid (NI12.out.below (B := 0) b13)
    have B13 := Lib.hid (B12.out.trans (b13.mono B12.out.size))
    have O13 := Lib.hid (own_ints o13)
    clear o13 b13
    go_wp2_with fail
    refine (sameInts_any _ _ M M _ MI13.out O13.out).mono ?_
    rintro e w14 ⟨rfl, q14, rfl⟩
    rw [EM.out]
    have X14 := Lib.hid (ints_drewN X13.out q14)
    have Y14 := Lib.hid (ints_drewN Y13.out q14)
    have NI14 := Lib.hid (ints_drewN NI13.out q14)
    have B14 := Lib.hid (below_drewN B13.out q14)
    generalize w13.drewN q14 = w14 at *
    go_wp2_with fail
    refine (NN'.out _ _ _ Y14.out X14.out).mono ?_
    rintro e w15 ⟨g15, v15, rfl, _, o15, b15⟩
    have NI15 := Lib.hid (NI14.out.below (B := 0) b15)
    have B15 := Lib.hid (B14.out.trans (b15.mono B14.out.size))
    have O15 := Lib.hid (own_ints o15)
    clear o15 b15
    go_wp2_with fail
    refine (sameInts_any _ _ N N _ NI15.out O15.out).mono ?_
    rintro e w16 ⟨rfl, q16, rfl⟩
    rw [EN.out]
    have B16 := Lib.hid (below_drewN B15.out q16)
    generalize w15.drewN q16 = w16 at *
    go_wp2_with fail
    refine (clocks_any _).mono ?_
    rintro e w17 ⟨rfl, b17⟩
    have B17 := Lib.hid (B16.out.trans (b17.mono B16.out.size))
    clear b17
    go_wp2
    go_ret
    exact ⟨rfl, B17.out⟩

theorem leq_eq (xs ys : List Int) (hb : bothB xs ys = true) : eqB xs ys = (leqB xs ys && leqB ys xs) := by
  simp only [bothB, Bool.and_eq_true, decide_eq_true_eq] at hb
  rw [Bool.eq_iff_iff, Bool.and_eq_true, leqB_iff, leqB_iff]
  simp only [eqB, decide_eq_true_eq]
  constructor
  · rintro rfl
    exact ⟨fun _ _ => Int.le_refl _, fun _ _ => Int.le_refl _⟩
  · rintro ⟨h1, h2⟩
    apply List.ext_getElem hb.2
    intro i hi hj
    have a1 := h1 i hi
    have a2 := h2 i hj
    simp only [List.getD, List.getElem?_eq_getElem hi, List.getElem?_eq_getElem hj, Option.getD_some] at a1 a2
    omega

/-- which of the three holds, and what the law then asks -/
def Ways (xs ys : List Int) (X Y Z : Bool) : Prop := spLeq xs ys = X ∧ spLeq ys xs = Y ∧ spBeside xs ys = Z
theorem leq_ways (xs ys : List Int) :
    (Ways xs ys false false false ∧ (okB xs = false ∨ (okB xs = true ∧ okB ys = false) ∨ (okB xs = true ∧ okB ys = true ∧ xs.length ≠ ys.length))) ∨
    (okB xs = true ∧ okB ys = true ∧ xs.length = ys.length ∧ ((Ways xs ys true true false ∧ eqB xs ys = true) ∨ (eqB xs ys = false ∧ (Ways xs ys true false false ∨ Ways xs ys false true false ∨ Ways xs ys false false true)))) := by
  cases hb : bothB xs ys with
  | false =>
    have hb' : bothB ys xs = false := by rw [bothB_symm]; exact hb
    refine .inl ⟨⟨by simp [spLeq, hb], by simp [spLeq, hb'], by simp [spBeside, hb]⟩, ?_⟩
    cases o1 : okB xs
    · exact .inl rfl
    · cases o2 : okB ys
      · exact .inr (.inl ⟨rfl, rfl⟩)
      · refine .inr (.inr ⟨rfl, rfl, ?_⟩)
        simpa [bothB, o1, o2] using hb
  | true =>
    have hb' : bothB ys xs = true := by rw [bothB_symm]; exact hb
    have he := leq_eq xs ys hb
    have hs := hb
    simp only [bothB, Bool.and_eq_true, decide_eq_true_eq] at hs
    refine .inr ⟨hs.1.1, hs.1.2, hs.2, ?_⟩
    cases x : leqB xs ys <;> cases y : leqB ys xs
    · exact .inr ⟨by rw [he, x]; rfl, .inr (.inr ⟨by simp [spLeq, x], by simp [spLeq, y], by simp [spBeside, hb, x, y]⟩)⟩
    · exact .inr ⟨by rw [he, x]; rfl, .inr (.inl ⟨by simp [spLeq, x], by simp [spLeq, hb', y], by simp [spBeside, hb, x, y]⟩)⟩
    · exact .inr ⟨by rw [he, x, y]; rfl, .inl ⟨by simp [spLeq, hb, x], by simp [spLeq, y], by simp [spBeside, hb, x]⟩⟩
    · exact .inl ⟨⟨by simp [spLeq, hb, x], by simp [spLeq, hb', y], by simp [spBeside, hb, x]⟩, by rw [he, x, y]; rfl⟩

set_option maxHeartbeats 1600000 in
theorem law_leqs (a : Option Addr) (len cap : Nat) (w : World) (hm : len ≤ 9223372036854775807) (hc : Code w w.heap.size a len) :
    Calls Try.prog 4 #[.slice a len cap] w fun e w' => e = .returned (.bool true) ∧ Below w.heap.size w w' := by
  have HD := Lib.hid (drawLeq_any a len cap w hm hc)
  clear hc
  go_enter Try.func4, Try.ntmps4
  go_wp2_with fail
  refine HD.out.mono ?_
  rintro e w1 ⟨v, v', xs, ys, rfl, h1, h2, h3⟩
  obtain ⟨av, cv1, hv⟩ := ints_len h1
  obtain ⟨av', cv2, hv'⟩ := ints_len h2
  have m1 := ints_max h1
  have m2 := ints_max h2
  have VX := Lib.hid hv
  have VY := Lib.hid hv'
  have X1 := Lib.hid h1
  have Y1 := Lib.hid h2
  have B1 := Lib.hid h3
  clear h1 h2 h3 HD hv hv'
  rcases leq_ways xs ys with ⟨hw, hk⟩ | ⟨k1, k2, hl, hk⟩
  · rcases hk with k1 | ⟨k1, k2⟩ | ⟨k1, k2, hl⟩
    · have K1 := Lib.hid k1
      clear k1
      obtain ⟨wX, wY, wZ⟩ := hw
      have WX := Lib.hid wX
      have WY := Lib.hid wY
      have WZ := Lib.hid wZ
      clear wX wY wZ
      go_wp2_with fail
      refine (ClockLeq_any _ _ xs ys _ X1.out Y1.out).mono ?_
      rintro e w2 ⟨rfl, b2⟩
      rw [WX.out]
      have X2 := Lib.hid (X1.out.below (B := 0) b2)
      have Y2 := Lib.hid (Y1.out.below (B := 0) b2)
      have B2 := Lib.hid (B1.out.trans (b2.mono B1.out.size))
      clear b2
      go_wp2_with fail
      refine (ClockLeq_any _ _ ys xs _ Y2.out X2.out).mono ?_
      rintro e w3 ⟨rfl, b3⟩
      rw [WY.out]
      have X3 := Lib.hid (X2.out.below (B := 0) b3)
      have Y3 := Lib.hid (Y2.out.below (B := 0) b3)
      have B3 := Lib.hid (B2.out.trans (b3.mono B2.out.size))
      clear b3
      go_wp2_with fail
      refine (Beside_any _ _ xs ys _ X3.out Y3.out).mono ?_
      rintro e w4 ⟨rfl, b4⟩
      rw [WZ.out]
      have X4 := Lib.hid (X3.out.below (B := 0) b4)
      have Y4 := Lib.hid (Y3.out.below (B := 0) b4)
      have B4 := Lib.hid (B3.out.trans (b4.mono B3.out.size))
      clear b4
      go_wp2_with fail
      refine (specLeq_any _ _ xs ys _ X4.out Y4.out).mono ?_
      rintro e w5 ⟨rfl, q5, rfl⟩
      rw [WX.out]
      have X5 := Lib.hid (ints_drewN X4.out q5)
      have Y5 := Lib.hid (ints_drewN Y4.out q5)
      have B5 := Lib.hid (below_drewN B4.out q5)
      generalize w4.drewN q5 = w5 at *
      go_wp2_with fail
      refine (specBeside_any _ _ xs ys _ X5.out Y5.out).mono ?_
      rintro e w6 ⟨rfl, q6, rfl⟩
      rw [WZ.out]
      have X6 := Lib.hid (ints_drewN X5.out q6)
      have Y6 := Lib.hid (ints_drewN Y5.out q6)
      have B6 := Lib.hid (below_drewN B5.out q6)
      generalize w5.drewN q6 = w6 at *
      go_wp2_with fail
      refine (ClockOk_any _ xs _ X6.out).mono ?_
      rintro e w7 ⟨rfl, b7⟩
      have X7 := Lib.hid (X6.out.below (B := 0) b7)
      have Y7 := Lib.hid (Y6.out.below (B := 0) b7)
      have B7 := Lib.hid (B6.out.trans (b7.mono B6.out.size))
      clear b7
      rw [K1.out]
      go_wp2_with fail
      refine (clocks_any _).mono ?_
      rintro e w8 ⟨rfl, b8⟩
      have B8 := Lib.hid (B7.out.trans (b8.mono B7.out.size))
      clear b8
      go_wp2
      go_ret
      exact ⟨rfl, B8.out⟩
    · have K1 := Lib.hid k1
      have K2 := Lib.hid k2
      clear k1 k2
      obtain ⟨wX, wY, wZ⟩ := hw
      have WX := Lib.hid wX
      have WY := Lib.hid wY
      have WZ := Lib.hid wZ
      clear wX wY wZ
      go_wp2_with fail
      refine (ClockLeq_any _ _ xs ys _ X1.out Y1.out).mono ?_
      rintro e w2 ⟨rfl, b2⟩
      rw [WX.out]
      have X2 := Lib.hid (X1.out.below (B := 0) b2)
      have Y2 := Lib.hid (Y1.out.below (B := 0) b2)
      have B2 := Lib.hid (B1.out.trans (b2.mono B1.out.size))
      clear b2
      go_wp2_with fail
      refine (ClockLeq_any _ _ ys xs _ Y2.out X2.out).mono ?_
      rintro e w3 ⟨rfl, b3⟩
      rw [WY.out]
      have X3 := Lib.hid (X2.out.below (B := 0) b3)
      have Y3 := Lib.hid (Y2.out.below (B := 0) b3)
      have B3 := Lib.hid (B2.out.trans (b3.mono B2.out.size))
      clear b3
      go_wp2_with fail
      refine (Beside_any _ _ xs ys _ X3.out Y3.out).mono ?_
      rintro e w4 ⟨rfl, b4⟩
      rw [WZ.out]
      have X4 := Lib.hid (X3.out.below (B := 0) b4)
      have Y4 := Lib.hid (Y3.out.below (B := 0) b4)
      have B4 := Lib.hid (B3.out.trans (b4.mono B3.out.size))
      clear b4
      go_wp2_with fail
      refine (specLeq_any _ _ xs ys _ X4.out Y4.out).mono ?_
      rintro e w5 ⟨rfl, q5, rfl⟩
      rw [WX.out]
      have X5 := Lib.hid (ints_drewN X4.out q5)
      have Y5 := Lib.hid (ints_drewN Y4.out q5)
      have B5 := Lib.hid (below_drewN B4.out q5)
      generalize w4.drewN q5 = w5 at *
      go_wp2_with fail
      refine (specBeside_any _ _ xs ys _ X5.out Y5.out).mono ?_
      rintro e w6 ⟨rfl, q6, rfl⟩
      rw [WZ.out]
      have X6 := Lib.hid (ints_drewN X5.out q6)
      have Y6 := Lib.hid (ints_drewN Y5.out q6)
      have B6 := Lib.hid (below_drewN B5.out q6)
      generalize w5.drewN q6 = w6 at *
      go_wp2_with fail
      refine (ClockOk_any _ xs _ X6.out).mono ?_
      rintro e w7 ⟨rfl, b7⟩
      have X7 := Lib.hid (X6.out.below (B := 0) b7)
      have Y7 := Lib.hid (Y6.out.below (B := 0) b7)
      have B7 := Lib.hid (B6.out.trans (b7.mono B6.out.size))
      clear b7
      rw [K1.out]
      go_wp2_with fail
      refine (ClockOk_any _ ys _ Y7.out).mono ?_
      rintro e w8 ⟨rfl, b8⟩
      have X8 := Lib.hid (X7.out.below (B := 0) b8)
      have Y8 := Lib.hid (Y7.out.below (B := 0) b8)
      have B8 := Lib.hid (B7.out.trans (b8.mono B7.out.size))
      clear b8
      rw [K2.out]
      go_wp2_with fail
      refine (clocks_any _).mono ?_
      rintro e w9 ⟨rfl, b9⟩
      have B9 := Lib.hid (B8.out.trans (b9.mono B8.out.size))
      clear b9
      go_wp2
      go_ret
      exact ⟨rfl, B9.out⟩
    · have K1 := Lib.hid k1
      have K2 := Lib.hid k2
      have e1 : ((xs.length : Int) == (ys.length : Int)) = false := by simp; omega
      have e2 : ((xs.length : Int) != (ys.length : Int)) = true := by simp; omega
      clear k1 k2 hl
      obtain ⟨wX, wY, wZ⟩ := hw
      have WX := Lib.hid wX
      have WY := Lib.hid wY
      have WZ := Lib.hid wZ
      clear wX wY wZ
      go_wp2_with fail
      refine (ClockLeq_any _ _ xs ys _ X1.out Y1.out).mono ?_
      rintro e w2 ⟨rfl, b2⟩
      rw [WX.out]
      have X2 := Lib.hid (X1.out.below (B := 0) b2)
      have Y2 := Lib.hid (Y1.out.below (B := 0) b2)
      have B2 := Lib.hid (B1.out.trans (b2.mono B1.out.size))
      clear b2
      go_wp2_with fail
      refine (ClockLeq_any _ _ ys xs _ Y2.out X2.out).mono ?_
      rintro e w3 ⟨rfl, b3⟩
      rw [WY.out]
      have X3 := Lib.hid (X2.out.below (B := 0) b3)
      have Y3 := Lib.hid (Y2.out.below (B := 0) b3)
      have B3 := Lib.hid (B2.out.trans (b3.mono B2.out.size))
      clear b3
      go_wp2_with fail
      refine (Beside_any _ _ xs ys _ X3.out Y3.out).mono ?_
      rintro e w4 ⟨rfl, b4⟩
      rw [WZ.out]
      have X4 := Lib.hid (X3.out.below (B := 0) b4)
      have Y4 := Lib.hid (Y3.out.below (B := 0) b4)
      have B4 := Lib.hid (B3.out.trans (b4.mono B3.out.size))
      clear b4
      go_wp2_with fail
      refine (specLeq_any _ _ xs ys _ X4.out Y4.out).mono ?_
      rintro e w5 ⟨rfl, q5, rfl⟩
      rw [WX.out]
      have X5 := Lib.hid (ints_drewN X4.out q5)
      have Y5 := Lib.hid (ints_drewN Y4.out q5)
      have B5 := Lib.hid (below_drewN B4.out q5)
      generalize w4.drewN q5 = w5 at *
      go_wp2_with fail
      refine (specBeside_any _ _ xs ys _ X5.out Y5.out).mono ?_
      rintro e w6 ⟨rfl, q6, rfl⟩
      rw [WZ.out]
      have X6 := Lib.hid (ints_drewN X5.out q6)
      have Y6 := Lib.hid (ints_drewN Y5.out q6)
      have B6 := Lib.hid (below_drewN B5.out q6)
      generalize w5.drewN q6 = w6 at *
      go_wp2_with fail
      refine (ClockOk_any _ xs _ X6.out).mono ?_
      rintro e w7 ⟨rfl, b7⟩
      have X7 := Lib.hid (X6.out.below (B := 0) b7)
      have Y7 := Lib.hid (Y6.out.below (B := 0) b7)
      have B7 := Lib.hid (B6.out.trans (b7.mono B6.out.size))
      clear b7
      rw [K1.out]
      go_wp2_with fail
      refine (ClockOk_any _ ys _ Y7.out).mono ?_
      rintro e w8 ⟨rfl, b8⟩
      have X8 := Lib.hid (X7.out.below (B := 0) b8)
      have Y8 := Lib.hid (Y7.out.below (B := 0) b8)
      have B8 := Lib.hid (B7.out.trans (b8.mono B7.out.size))
      clear b8
      rw [K2.out]
      rw [VX.out, VY.out]
      go_wp2_with fail
      refine (clocks_any _).mono ?_
      rintro e w9 ⟨rfl, b9⟩
      have B9 := Lib.hid (B8.out.trans (b9.mono B8.out.size))
      clear b9
      go_wp2
      go_ret
      exact ⟨rfl, B9.out⟩
  · have K1 := Lib.hid k1
    have K2 := Lib.hid k2
    rw [← hl] at VY
    clear k1 k2
    rcases hk with ⟨hw, he⟩ | ⟨he, hw | hw | hw⟩
    all_goals
      have HE := Lib.hid he
      clear he hl
      obtain ⟨wX, wY, wZ⟩ := hw
      have WX := Lib.hid wX
      have WY := Lib.hid wY
      have WZ := Lib.hid wZ
      clear wX wY wZ
      go_wp2_with fail
      refine (ClockLeq_any _ _ xs ys _ X1.out Y1.out).mono ?_
      rintro e w2 ⟨rfl, b2⟩
      rw [WX.out]
      have X2 := Lib.hid (X1.out.below (B := 0) b2)
      have Y2 := Lib.hid (Y1.out.below (B := 0) b2)
      have B2 := Lib.hid (B1.out.trans (b2.mono B1.out.size))
      clear b2
      go_wp2_with fail
      refine (ClockLeq_any _ _ ys xs _ Y2.out X2.out).mono ?_
      rintro e w3 ⟨rfl, b3⟩
      rw [WY.out]
      have X3 := Lib.hid (X2.out.below (B := 0) b3)
      have Y3 := Lib.hid (Y2.out.below (B := 0) b3)
      have B3 := Lib.hid (B2.out.trans (b3.mono B2.out.size))
      clear b3
      go_wp2_with fail
      refine (Beside_any _ _ xs ys _ X3.out Y3.out).mono ?_
      rintro e w4 ⟨rfl, b4⟩
      rw [WZ.out]
      have X4 := Lib.hid (X3.out.below (B := 0) b4)
      have Y4 := Lib.hid (Y3.out.below (B := 0) b4)
      have B4 := Lib.hid (B3.out.trans (b4.mono B3.out.size))
      clear b4
      go_wp2_with fail
      refine (specLeq_any _ _ xs ys _ X4.out Y4.out).mono ?_
      rintro e w5 ⟨rfl, q5, rfl⟩
      rw [WX.out]
      have X5 := Lib.hid (ints_drewN X4.out q5)
      have Y5 := Lib.hid (ints_drewN Y4.out q5)
      have B5 := Lib.hid (below_drewN B4.out q5)
      generalize w4.drewN q5 = w5 at *
      go_wp2_with fail
      refine (specBeside_any _ _ xs ys _ X5.out Y5.out).mono ?_
      rintro e w6 ⟨rfl, q6, rfl⟩
      rw [WZ.out]
      have X6 := Lib.hid (ints_drewN X5.out q6)
      have Y6 := Lib.hid (ints_drewN Y5.out q6)
      have B6 := Lib.hid (below_drewN B5.out q6)
      generalize w5.drewN q6 = w6 at *
      go_wp2_with fail
      refine (ClockOk_any _ xs _ X6.out).mono ?_
      rintro e w7 ⟨rfl, b7⟩
      have X7 := Lib.hid (X6.out.below (B := 0) b7)
      have Y7 := Lib.hid (Y6.out.below (B := 0) b7)
      have B7 := Lib.hid (B6.out.trans (b7.mono B6.out.size))
      clear b7
      rw [K1.out]
      go_wp2_with fail
      refine (ClockOk_any _ ys _ Y7.out).mono ?_
      rintro e w8 ⟨rfl, b8⟩
      have X8 := Lib.hid (X7.out.below (B := 0) b8)
      have Y8 := Lib.hid (Y7.out.below (B := 0) b8)
      have B8 := Lib.hid (B7.out.trans (b8.mono B7.out.size))
      clear b8
      rw [K2.out]
      rw [VX.out] at X8 ⊢
      rw [VY.out] at Y8 ⊢
      go_wp2_with fail
      refine (sameInts_any _ _ xs ys _ X8.out Y8.out).mono ?_
      rintro e w9 ⟨rfl, q9, rfl⟩
      rw [HE.out]
      have B9 := Lib.hid (below_drewN B8.out q9)
      generalize w8.drewN q9 = w9 at *
      go_wp2_with fail
      refine (clocks_any _).mono ?_
      rintro e w10 ⟨rfl, b10⟩
      have B10 := Lib.hid (B9.out.trans (b10.mono B9.out.size))
      clear b10
      go_wp2
      go_ret
      exact ⟨rfl, B10.out⟩

/-- what the shell of a law is told of a slice of bytes -/
theorem code_row (w : World) (a : Option Addr) (len cap : Nat) (zs : List Int)
    (h : (a = none ∧ len = 0 ∧ cap = 0 ∧ zs = []) ∨ ∃ x, a = some x ∧ len ≤ cap ∧ cap ≤ maxLen ∧ zs.length = cap ∧ (∀ i, i < zs.length → w.cell? (x.add i) = some (.int .u8 (zs.getD i 0))) ∧ ∀ n ∈ zs, (Lit.int .u8 n).wf = true) :
    Code w w.heap.size a len ∧ len ≤ 9223372036854775807 := by
  rcases h with ⟨rfl, rfl, rfl, rfl⟩ | ⟨x, rfl, hl, hm, hz, hc, hw⟩
  · exact ⟨fun j hj => absurd hj (by omega), by omega⟩
  · refine ⟨fun j hj => ?_, by unfold maxLen at hm; omega⟩
    have c0 := hc 0 (by omega)
    have hs := World.cell?_spot c0
    have hb := cell_lt c0
    obtain ⟨b, off, spot⟩ := x
    simp only [Addr.add] at hs hb
    subst hs
    have hj' := hc j (by omega)
    have ha : (Addr.add ⟨b, off, none⟩ j) = ⟨b, off + j, none⟩ := by
      unfold Addr.add; split
      · subst j; rfl
      · rfl
    rw [ha] at hj'
    have hmem : zs.getD j 0 ∈ zs := by
      have : j < zs.length := by omega
      simp [List.getD, this]
    have hx : 0 ≤ zs.getD j 0 ∧ zs.getD j 0 ≤ 255 := by
      simpa [Lit.wf, IntKind.min, IntKind.max, IntKind.signed, IntKind.bits] using hw _ hmem
    exact ⟨b, off, _, rfl, hb, hj', hx⟩
end Go.Proofs.Ytiacnlnibapgpaa
