/- WorldNew: the reference's, the program's. -/
import Derived.Test.YtjjgigoehgabkaaWD
import Derived.Test.YtjjgigoehgabkaaMC
import Derived.Test.YtjjgigoehgabkaaYD
import Derived.Test.YtjjgigoehgabkaaMI
import Derived.Deep.DeepCutAuto
namespace Go.Proofs.Ytjjgigoehgabkaa
open Go.RowKit
set_option linter.unusedVariables false
set_option linter.unusedSimpArgs false

def newM (n : Int) (i : Nat) : HouseM := ⟨i, n, ⟨#[]⟩, ⟨#[]⟩⟩
def newL (n : Int) (k : Nat) : List HouseM := (List.range k).map (newM n)
theorem newL_len (n : Int) (k : Nat) : (newL n k).length = k := by simp [newL]
theorem newL_succ (n : Int) (k : Nat) : vh (newL n (k + 1)) = vh (newL n k) ++ [.int .i64 k, .int .i64 n, .slice none 0 0, .slice none 0 0, .slice none 0 0, .string ⟨#[]⟩, .string ⟨#[]⟩] := by
  rw [newL, List.range_succ, List.map_append, vh_app]
  rfl
theorem Try.infoHouse : (Try.prog.info? 137).map (fun i => (i.zero, i.size, i.bytes)) = some (some (.agg #[.int .i64 0, .int .i64 0, .slice none 0 0, .slice none 0 0, .slice none 0 0, .string ⟨#[]⟩, .string ⟨#[]⟩]), 7, 120) := by kernel_rfl
theorem src_h {w : World} (cs : Array Value) (e : TypeId) (hn : cs.size = 7) : Src (w.alloc (.cells cs e)) 7 (.slice (some ⟨w.heap.size, 0, none⟩) 1 1) 1 cs.toList := by
  refine .inr ⟨⟨w.heap.size, 0, none⟩, 1, rfl, by simp [hn], fun j u hu => ?_⟩
  rw [add_flat]
  have := World.cell?_alloc_new w cs e (0 + j)
  rw [this, Nat.zero_add]
  simpa using hu
/-- a world of houses that know nothing, or none -/
def WMade (w : World) (n : Int) (e : Ending) (w' : World) : Prop := Below w.heap.size w w' ∧
  ((∃ m : Nat, n = m ∧ 1 ≤ m ∧ m ≤ 4 ∧ ∃ g cap, w.heap.size ≤ g ∧ HRow w' g m cap (newL n m) ∧ e = .returned (.tuple #[.agg #[.slice (some ⟨g, 0, none⟩) m cap, .slice none 0 0], .bool true])) ∨
   ((n < 1 ∨ 4 < n) ∧ e = .returned (.tuple #[.agg #[.slice none 0 0, .slice none 0 0], .bool false])))
theorem row_open {w : World} {B n : Nat} {v : Value} {xs : List Value} (h : w.ownsRow B 137 7 v n xs) (h1 : 1 ≤ n) : ∃ g cap, v = .slice (some ⟨g, 0, none⟩) n cap ∧ B ≤ g ∧ w.ownsRow g 137 7 (.slice (some ⟨g, 0, none⟩) n cap) n xs := by
  rcases h.2 with ⟨_, h0⟩ | ⟨g, cap, cur, rfl, hb, hh, r⟩
  · omega
  · exact ⟨g, cap, rfl, hb, (own_at h).1⟩

set_option maxRecDepth 100000 in
set_option maxHeartbeats 6400000 in
theorem specWorldNew_any (n : Int) (w : World) (hn : -9223372036854775808 ≤ n ∧ n ≤ 9223372036854775807) : Calls Try.prog 68 #[.int .i64 n] w (WMade w n) := by
  obtain ⟨i0, hi, hz0, hz1, hz2⟩ := info_parts Try.infoHouse
  unfold WMade
  by_cases hr : 1 ≤ n ∧ n ≤ 4
  · obtain ⟨m, rfl⟩ := Int.eq_ofNat_of_zero_le (show 0 ≤ n by omega)
    have m1 : 1 ≤ m := by omega
    have m4 : m ≤ 4 := by omega
    have d1 : decide ((m : Int) < 1) = false := by simp; omega
    have d2 : decide ((4 : Int) < (m : Int)) = false := by simp; omega
    have d3 : decide (m < 1) = false := by simp; omega
    have d4 : decide (4 < m) = false := by simp; omega
    have d5 : ¬ ((m : Int) < 1) := by omega
    have d6 : ¬ ((4 : Int) < (m : Int)) := by omega
    have d7 : ¬ (m = 0) := by omega
    clear hr hn
    have BW := Lib.hid (Below.refl w.heap.size w)
    go_enter Try.func68, Try.ntmps68
    have kR := (Blk.new w #[.slice none 0 0, .slice none 0 0] 81).alloc (.cells #[.slice none 0 0, .slice none 0 0] 81)
    have kW := Blk.new (w.alloc (.cells #[.slice none 0 0, .slice none 0 0] 81)) #[.slice none 0 0, .slice none 0 0] 81
    simp only [World.size_alloc] at kW
    have ba := ((Below.refl w.heap.size w).alloc (Nat.le_refl _) (.cells #[.slice none 0 0, .slice none 0 0] 81)).alloc (by simp [World.size_alloc]; try omega) (.cells #[.slice none 0 0, .slice none 0 0] 81)
    obtain ⟨pR, hpR⟩ : ∃ p, p = w.heap.size := ⟨_, rfl⟩
    obtain ⟨pW, hpW⟩ : ∃ p, p = w.heap.size + 1 := ⟨_, rfl⟩
    go_upto_region 2 with (fail)
    rw [← hpW] at kW
    try rw [← hpW]
    rw [← hpR] at kR
    try rw [← hpR]
    obtain ⟨w1, hW⟩ : ∃ W, W = (w.alloc (.cells #[.slice none 0 0, .slice none 0 0] 81)).alloc (.cells #[.slice none 0 0, .slice none 0 0] 81) := ⟨_, rfl⟩
    rw [← hW] at ba kR kW ⊢
    have KR := Lib.hid kR
    have GR := Lib.hid (show w.heap.size ≤ pR by omega)
    have KW := Lib.hid kW
    have GW := Lib.hid (show w.heap.size ≤ pW by omega)
    have NER_W := Lib.hid (show pR ≠ pW by omega)
    replace BW := Lib.hid (BW.out.trans ((ba).mono BW.out.size))
    clear ba hW kR hpR kW hpW
    go_wp2_with fail
    obtain ⟨BS, hBS⟩ : ∃ x, x = w1.heap.size := ⟨_, rfl⟩
    have PR := Lib.hid (show pR < BS by rw [hBS]; exact KR.out.lt)
    have PW := Lib.hid (show pW < BS by rw [hBS]; exact KW.out.lt)
    have SB := Lib.hid (show BS ≤ w1.heap.size by rw [hBS]; exact Nat.le_refl _)
    have GB := Lib.hid (show w.heap.size ≤ BS by rw [hBS]; exact BW.out.size)
    clear hBS
    go_loopw [5] (fun i wr => ∃ (j : Nat) (v : Value), j ≤ m ∧ i = .int .i64 j ∧ Hid (wr.ownsRow BS 137 7 v j (vh (newL m j))) ∧ Hid (Blk wr pR [.slice none 0 0, .slice none 0 0]) ∧ Hid (Blk wr pW [v, .slice none 0 0]) ∧ Hid (BS ≤ wr.heap.size) ∧ Hid (Below w.heap.size w wr)) (fun i _ => m - (intOf i).toNat)
    case atStart => exact ⟨0, .slice none 0 0, Nat.zero_le _, rfl, ⟨rfl, .inl ⟨rfl, rfl⟩⟩, KR.out, KW.out, SB.out, BW.out⟩
    case round =>
      obtain ⟨j, v, hj, rfl, ho, hkr, hkw, hsb, hbel⟩ := hrel
      clear KR KW SB BW
      have KR := hkr
      have KW := hkw
      have SB := hsb
      have BW := hbel
      clear hkr hkw hsb hbel
      by_cases hlt : j < m
      · obtain ⟨a5, c5, rfl⟩ := row_shape ho.out
        have e0 : (0 : Int) ≤ (j : Int) := by omega
        have e1 : (j : Int) < (m : Int) := by omega
        have OG := Lib.hid (own_block_ge ho.out)
        have SR := Lib.hid (src_h (w := wr) #[.int .i64 j, .int .i64 m, .slice none 0 0, .slice none 0 0, .slice none 0 0, .string ⟨#[]⟩, .string ⟨#[]⟩] 137 rfl)
        have O4 := Lib.hid (row_grown (r := none) ho.out (grown_alloc wr (.cells #[.int .i64 j, .int .i64 m, .slice none 0 0, .slice none 0 0, .slice none 0 0, .string ⟨#[]⟩, .string ⟨#[]⟩] 137) none) (fun g e => by cases e))
        have KR4 := Lib.hid (KR.out.alloc (.cells #[.int .i64 j, .int .i64 m, .slice none 0 0, .slice none 0 0, .slice none 0 0, .string ⟨#[]⟩, .string ⟨#[]⟩] 137))
        have KW4 := Lib.hid (KW.out.alloc (.cells #[.int .i64 j, .int .i64 m, .slice none 0 0, .slice none 0 0, .slice none 0 0, .string ⟨#[]⟩, .string ⟨#[]⟩] 137))
        have BW4 := Lib.hid (BW.out.alloc BW.out.size (.cells #[.int .i64 j, .int .i64 m, .slice none 0 0, .slice none 0 0, .slice none 0 0, .string ⟨#[]⟩, .string ⟨#[]⟩] 137))
        have SB4 := Lib.hid (show BS ≤ (wr.alloc (.cells #[.int .i64 j, .int .i64 m, .slice none 0 0, .slice none 0 0, .slice none 0 0, .string ⟨#[]⟩, .string ⟨#[]⟩] 137)).heap.size by have := SB.out; simp; omega)
        have c0 := KW.out.cell 0
        have c1 := KW.out.cell 1
        simp only [List.getElem?_cons_zero, List.getElem?_cons_succ] at c0 c1
        have plt := KW.out.lt
        go_wp2_with (at_builtin; refine wpList_app rfl (.tmp 19) (.tmp 24) 78 rfl BS 137 i0 _ 7 120 Try.underlying78 hi hz0 hz1 hz2 rfl (by decide) (.slice a5 j c5) (.slice (some ⟨wr.heap.size, 0, none⟩) 1 1) j 1 _ _ rfl rfl O4.out SR.out (by intro u hu; simp only [List.mem_cons, List.not_mem_nil, or_false] at hu; rcases hu with rfl | rfl | rfl | rfl | rfl | rfl | rfl <;> rfl) (by unfold maxLen; omega) (by omega) SB4.out ?_)
        intro v6 w6 hown hgrow _
        obtain ⟨a6, c6, rfl⟩ := row_shape hown
        obtain ⟨V6, hV6⟩ : ∃ V, V = Value.slice a6 (j + 1) c6 := ⟨_, rfl⟩
        have HV6 := Lib.hid hV6
        rw [← hV6] at hown
        clear c0 c1 plt hV6
        have kr : Blk w6 pR _ := KR4.out.same hgrow.size (hgrow.block pR KR4.out.lt (fun e => by have := OG.out pR e.symm; have := PR.out; omega))
        have kw : Blk w6 pW _ := KW4.out.same hgrow.size (hgrow.block pW KW4.out.lt (fun e => by have := OG.out pW e.symm; have := PW.out; omega))
        have bw := BW4.out.grown hgrow BW4.out.size (fun q hq => Nat.le_trans GB.out (OG.out q hq))
        have sb : BS ≤ w6.heap.size := Nat.le_trans SB4.out hgrow.size
        have OG6 := own_block_ge hown
        have O6 : Hid (w6.ownsRow BS 137 7 V6 (j + 1) (vh (newL m (j + 1)))) := by
          show World.ownsRow _ _ _ _ _ _ _
          rw [newL_succ]
          exact hown
        have KW6 := Lib.hid kw
        have c0 := kw.cell 0
        have c1 := kw.cell 1
        simp only [List.getElem?_cons_zero, List.getElem?_cons_succ] at c0 c1
        have f0 := kw.free 0
        go_upto_region 6 with (fail)
        clear c0 c1 f0
        obtain ⟨w7, hw7⟩ : ∃ W, W = w6.setCell ⟨pW, 0, none⟩ V6 := ⟨_, rfl⟩
        have kw7 := KW6.out.set (j := 0) (by simp) V6
        simp only [List.set_cons_zero] at kw7
        have kr7 := kr.other (p := ⟨pW, 0, none⟩) (by show pW ≠ pR; first | exact (fun e => NER_W.out e.symm) | exact NEW_R.out) V6
        have bw7 := bw.setCell (p := ⟨pW, 0, none⟩) GW.out V6
        have o7 := row_grown (r := some pW) O6.out (grown_set pW 0 V6) (fun g e => by cases e; exact PW.out)
        rw [← HV6.out, ← hw7]
        rw [← hw7] at kw7 kr7 bw7 o7
        have sb7 : BS ≤ w7.heap.size := by rw [hw7]; simpa using sb
        have KW7 := Lib.hid kw7
        have KR7 := Lib.hid kr7
        have BW7 := Lib.hid bw7
        have O7 := Lib.hid o7
        have SB7 := Lib.hid sb7
        clear kw7 kr7 bw7 o7 sb7 hw7 kr kw bw sb hown hgrow OG6 KW6 O6 KR KW BW SB KR4 KW4 BW4 SB4 O4 SR OG ho
        go_wp2_with fail
        go_roundw
        case rel => exact ⟨j + 1, V6, by omega, by go_num, O7.out, KR7.out, KW7.out, SB7.out, BW7.out⟩
        case measure => simp [intOf]; omega
      · have hjm : j = m := by omega
        subst hjm
        obtain ⟨g, cap, rfl, hgb, hrow⟩ := row_open ho.out m1
        have HR := Lib.hid hrow
        have HG := Lib.hid (Nat.le_trans GB.out hgb)
        have GLT := Lib.hid (Nat.lt_of_lt_of_le PR.out hgb)
        clear ho hrow hgb
        have r0 := KR.out.cell 0
        have r1 := KR.out.cell 1
        have v0 := KW.out.cell 0
        have v1 := KW.out.cell 1
        simp only [List.getElem?_cons_zero, List.getElem?_cons_succ] at r0 r1 v0 v1
        have fr := KR.out.free
        go_wp2
        refine bodyPost_ret (v := .tuple #[.agg #[.slice (some ⟨g, 0, none⟩) j cap, .slice none 0 0], .bool true]) (by simp [results, Try.results68, go_sem, r0, r1]) rfl ⟨?_, .inl ⟨j, rfl, m1, m4, g, cap, HG.out, ?_, rfl⟩⟩
        rotate_left
        · refine row_grown (r := some pR) (row_grown (r := some pR) HR.out (grown_set pR 0 _) (fun q e => by cases e; exact GLT.out)) (grown_set pR 1 _) (fun q e => by cases e; exact GLT.out)
        repeat (first | with_reducible refine Below.setCell ?_ ?_ _ | with_reducible refine Below.drew ?_)
        all_goals (first | exact BW.out | exact GR.out | (simp; done) | (simp; omega))
  · have hb : n < 1 ∨ 4 < n := by omega
    have HBAD := Lib.hid hb
    have dd : (decide (n < 1) || decide (4 < n)) = true := by rcases hb with h | h <;> simp [h]
    clear hr hn
    have BW := Lib.hid (Below.refl w.heap.size w)
    clear hb dd
    by_cases c1 : n < 1
    · have d1 : decide (n < 1) = true := by simp [c1]
      go_enter Try.func68, Try.ntmps68
      have kR := (Blk.new w #[.slice none 0 0, .slice none 0 0] 81).alloc (.cells #[.slice none 0 0, .slice none 0 0] 81)
      have kW := Blk.new (w.alloc (.cells #[.slice none 0 0, .slice none 0 0] 81)) #[.slice none 0 0, .slice none 0 0] 81
      simp only [World.size_alloc] at kW
      have ba := ((Below.refl w.heap.size w).alloc (Nat.le_refl _) (.cells #[.slice none 0 0, .slice none 0 0] 81)).alloc (by simp [World.size_alloc]; try omega) (.cells #[.slice none 0 0, .slice none 0 0] 81)
      obtain ⟨pR, hpR⟩ : ∃ p, p = w.heap.size := ⟨_, rfl⟩
      obtain ⟨pW, hpW⟩ : ∃ p, p = w.heap.size + 1 := ⟨_, rfl⟩
      go_upto_region 2 with (fail)
      rw [← hpW] at kW
      try rw [← hpW]
      rw [← hpR] at kR
      try rw [← hpR]
      obtain ⟨w1, hW⟩ : ∃ W, W = (w.alloc (.cells #[.slice none 0 0, .slice none 0 0] 81)).alloc (.cells #[.slice none 0 0, .slice none 0 0] 81) := ⟨_, rfl⟩
      rw [← hW] at ba kR kW ⊢
      have KR := Lib.hid kR
      have GR := Lib.hid (show w.heap.size ≤ pR by omega)
      have KW := Lib.hid kW
      have GW := Lib.hid (show w.heap.size ≤ pW by omega)
      have NER_W := Lib.hid (show pR ≠ pW by omega)
      replace BW := Lib.hid (BW.out.trans ((ba).mono BW.out.size))
      clear ba hW kR hpR kW hpW
      have r0 := KR.out.cell 0
      have r1 := KR.out.cell 1
      simp only [List.getElem?_cons_zero, List.getElem?_cons_succ] at r0 r1
      have fr := KR.out.free
      go_wp2
      refine bodyPost_ret (v := .tuple #[.agg #[.slice none 0 0, .slice none 0 0], .bool false]) (by simp [results, Try.results68, go_sem, r0, r1]) rfl ⟨?_, .inr (by first | exact ⟨HBAD.out, rfl⟩ | exact rfl)⟩
      repeat (first | with_reducible refine Below.setCell ?_ ?_ _ | with_reducible refine Below.drew ?_)
      all_goals (first | exact BW.out | exact GR.out | (simp; done) | (simp; omega))
    · have d1 : decide (n < 1) = false := by simp; omega
      have d2 : decide (4 < n) = true := by have := HBAD.out; simp; omega
      go_enter Try.func68, Try.ntmps68
      have kR := (Blk.new w #[.slice none 0 0, .slice none 0 0] 81).alloc (.cells #[.slice none 0 0, .slice none 0 0] 81)
      have kW := Blk.new (w.alloc (.cells #[.slice none 0 0, .slice none 0 0] 81)) #[.slice none 0 0, .slice none 0 0] 81
      simp only [World.size_alloc] at kW
      have ba := ((Below.refl w.heap.size w).alloc (Nat.le_refl _) (.cells #[.slice none 0 0, .slice none 0 0] 81)).alloc (by simp [World.size_alloc]; try omega) (.cells #[.slice none 0 0, .slice none 0 0] 81)
      obtain ⟨pR, hpR⟩ : ∃ p, p = w.heap.size := ⟨_, rfl⟩
      obtain ⟨pW, hpW⟩ : ∃ p, p = w.heap.size + 1 := ⟨_, rfl⟩
      go_upto_region 2 with (fail)
      rw [← hpW] at kW
      try rw [← hpW]
      rw [← hpR] at kR
      try rw [← hpR]
      obtain ⟨w1, hW⟩ : ∃ W, W = (w.alloc (.cells #[.slice none 0 0, .slice none 0 0] 81)).alloc (.cells #[.slice none 0 0, .slice none 0 0] 81) := ⟨_, rfl⟩
      rw [← hW] at ba kR kW ⊢
      have KR := Lib.hid kR
      have GR := Lib.hid (show w.heap.size ≤ pR by omega)
      have KW := Lib.hid kW
      have GW := Lib.hid (show w.heap.size ≤ pW by omega)
      have NER_W := Lib.hid (show pR ≠ pW by omega)
      replace BW := Lib.hid (BW.out.trans ((ba).mono BW.out.size))
      clear ba hW kR hpR kW hpW
      have r0 := KR.out.cell 0
      have r1 := KR.out.cell 1
      simp only [List.getElem?_cons_zero, List.getElem?_cons_succ] at r0 r1
      have fr := KR.out.free
      go_wp2
      refine bodyPost_ret (v := .tuple #[.agg #[.slice none 0 0, .slice none 0 0], .bool false]) (by simp [results, Try.results68, go_sem, r0, r1]) rfl ⟨?_, .inr (by first | exact ⟨HBAD.out, rfl⟩ | exact rfl)⟩
      repeat (first | with_reducible refine Below.setCell ?_ ?_ _ | with_reducible refine Below.drew ?_)
      all_goals (first | exact BW.out | exact GR.out | (simp; done) | (simp; omega))

set_option maxRecDepth 100000 in
set_option maxHeartbeats 6400000 in
theorem implWorldNew_any (n : Int) (w : World) (hn : -9223372036854775808 ≤ n ∧ n ≤ 9223372036854775807) : Calls Try.prog 69 #[.int .i64 n] w (WMade w n) := by
  obtain ⟨i0, hi, hz0, hz1, hz2⟩ := info_parts Try.infoHouse
  unfold WMade
  by_cases hr : 1 ≤ n ∧ n ≤ 4
  · obtain ⟨m, rfl⟩ := Int.eq_ofNat_of_zero_le (show 0 ≤ n by omega)
    have m1 : 1 ≤ m := by omega
    have m4 : m ≤ 4 := by omega
    have II := Lib.hid (fun W => isIn_any (m : Int) 1 4 W)
    have hin : inB (m : Int) 1 4 = true := by simp [inB]; omega
    rw [hin] at II
    clear hr hn
    have BW := Lib.hid (Below.refl w.heap.size w)
    go_enter Try.func69, Try.ntmps69
    have kR := Blk.new w #[.slice none 0 0, .slice none 0 0] 81
    have ba := (Below.refl w.heap.size w).alloc (Nat.le_refl _) (.cells #[.slice none 0 0, .slice none 0 0] 81)
    obtain ⟨pR, hpR⟩ : ∃ p, p = w.heap.size := ⟨_, rfl⟩
    go_upto_region 1 with (fail)
    rw [← hpR] at kR
    try rw [← hpR]
    obtain ⟨w0, hW⟩ : ∃ W, W = w.alloc (.cells #[.slice none 0 0, .slice none 0 0] 81) := ⟨_, rfl⟩
    rw [← hW] at ba kR ⊢
    have KR := Lib.hid kR
    have GR := Lib.hid (show w.heap.size ≤ pR by omega)
    replace BW := Lib.hid (BW.out.trans ((ba).mono BW.out.size))
    clear ba hW kR hpR
    go_wp2_with fail
    refine (II.out _).mono ?_
    rintro e w0' ⟨rfl, rfl⟩
    have BSZ := Lib.hid BW.out.size
    go_upto_region 4 with (fail)
    have kW := Blk.new w0' #[.slice none 0 0, .slice none 0 0] 81
    have ba := (Below.refl w0'.heap.size w0').alloc (Nat.le_refl _) (.cells #[.slice none 0 0, .slice none 0 0] 81)
    obtain ⟨pW, hpW⟩ : ∃ p, p = w0'.heap.size := ⟨_, rfl⟩
    rw [← hpW] at kW
    try rw [← hpW]
    obtain ⟨w1, hW⟩ : ∃ W, W = w0'.alloc (.cells #[.slice none 0 0, .slice none 0 0] 81) := ⟨_, rfl⟩
    rw [← hW] at ba kW ⊢
    have KW := Lib.hid kW
    have GW := Lib.hid (show w0'.heap.size ≤ pW by omega)
    have NER_W := Lib.hid (show pR ≠ pW by have := KR.out.lt; omega)
    replace BW := Lib.hid (BW.out.trans ((ba).mono BW.out.size))
    replace KR := Lib.hid (KR.out.below (ba) KR.out.lt)
    clear ba hW kW hpW
    replace GW := Lib.hid (Nat.le_trans BSZ.out GW.out)
    go_wp2_with fail
    obtain ⟨BS, hBS⟩ : ∃ x, x = w1.heap.size := ⟨_, rfl⟩
    have PR := Lib.hid (show pR < BS by rw [hBS]; exact KR.out.lt)
    have PW := Lib.hid (show pW < BS by rw [hBS]; exact KW.out.lt)
    have SB := Lib.hid (show BS ≤ w1.heap.size by rw [hBS]; exact Nat.le_refl _)
    have GB := Lib.hid (show w.heap.size ≤ BS by rw [hBS]; exact BW.out.size)
    clear hBS
    go_loopw [11] (fun i wr => ∃ (j : Nat) (v : Value), j ≤ m ∧ i = .int .i64 j ∧ Hid (wr.ownsRow BS 137 7 v j (vh (newL m j))) ∧ Hid (Blk wr pR [.slice none 0 0, .slice none 0 0]) ∧ Hid (Blk wr pW [v, .slice none 0 0]) ∧ Hid (BS ≤ wr.heap.size) ∧ Hid (Below w.heap.size w wr)) (fun i _ => m - (intOf i).toNat)
    case atStart => exact ⟨0, .slice none 0 0, Nat.zero_le _, rfl, ⟨rfl, .inl ⟨rfl, rfl⟩⟩, KR.out, KW.out, SB.out, BW.out⟩
    case round =>
      obtain ⟨j, v, hj, rfl, ho, hkr, hkw, hsb, hbel⟩ := hrel
      clear KR KW SB BW
      have KR := hkr
      have KW := hkw
      have SB := hsb
      have BW := hbel
      clear hkr hkw hsb hbel
      by_cases hlt : j < m
      · obtain ⟨a5, c5, rfl⟩ := row_shape ho.out
        have e0 : (0 : Int) ≤ (j : Int) := by omega
        have e1 : (j : Int) < (m : Int) := by omega
        have OG := Lib.hid (own_block_ge ho.out)
        have SR := Lib.hid (src_h (w := wr) #[.int .i64 j, .int .i64 m, .slice none 0 0, .slice none 0 0, .slice none 0 0, .string ⟨#[]⟩, .string ⟨#[]⟩] 137 rfl)
        have O4 := Lib.hid (row_grown (r := none) ho.out (grown_alloc wr (.cells #[.int .i64 j, .int .i64 m, .slice none 0 0, .slice none 0 0, .slice none 0 0, .string ⟨#[]⟩, .string ⟨#[]⟩] 137) none) (fun g e => by cases e))
        have KR4 := Lib.hid (KR.out.alloc (.cells #[.int .i64 j, .int .i64 m, .slice none 0 0, .slice none 0 0, .slice none 0 0, .string ⟨#[]⟩, .string ⟨#[]⟩] 137))
        have KW4 := Lib.hid (KW.out.alloc (.cells #[.int .i64 j, .int .i64 m, .slice none 0 0, .slice none 0 0, .slice none 0 0, .string ⟨#[]⟩, .string ⟨#[]⟩] 137))
        have BW4 := Lib.hid (BW.out.alloc BW.out.size (.cells #[.int .i64 j, .int .i64 m, .slice none 0 0, .slice none 0 0, .slice none 0 0, .string ⟨#[]⟩, .string ⟨#[]⟩] 137))
        have SB4 := Lib.hid (show BS ≤ (wr.alloc (.cells #[.int .i64 j, .int .i64 m, .slice none 0 0, .slice none 0 0, .slice none 0 0, .string ⟨#[]⟩, .string ⟨#[]⟩] 137)).heap.size by have := SB.out; simp; omega)
        have c0 := KW.out.cell 0
        have c1 := KW.out.cell 1
        simp only [List.getElem?_cons_zero, List.getElem?_cons_succ] at c0 c1
        have plt := KW.out.lt
        go_wp2_with (at_builtin; refine wpList_app rfl (.tmp 15) (.tmp 20) 78 rfl BS 137 i0 _ 7 120 Try.underlying78 hi hz0 hz1 hz2 rfl (by decide) (.slice a5 j c5) (.slice (some ⟨wr.heap.size, 0, none⟩) 1 1) j 1 _ _ rfl rfl O4.out SR.out (by intro u hu; simp only [List.mem_cons, List.not_mem_nil, or_false] at hu; rcases hu with rfl | rfl | rfl | rfl | rfl | rfl | rfl <;> rfl) (by unfold maxLen; omega) (by omega) SB4.out ?_)
        intro v6 w6 hown hgrow _
        obtain ⟨a6, c6, rfl⟩ := row_shape hown
        obtain ⟨V6, hV6⟩ : ∃ V, V = Value.slice a6 (j + 1) c6 := ⟨_, rfl⟩
        have HV6 := Lib.hid hV6
        rw [← hV6] at hown
        clear c0 c1 plt hV6
        have kr : Blk w6 pR _ := KR4.out.same hgrow.size (hgrow.block pR KR4.out.lt (fun e => by have := OG.out pR e.symm; have := PR.out; omega))
        have kw : Blk w6 pW _ := KW4.out.same hgrow.size (hgrow.block pW KW4.out.lt (fun e => by have := OG.out pW e.symm; have := PW.out; omega))
        have bw := BW4.out.grown hgrow BW4.out.size (fun q hq => Nat.le_trans GB.out (OG.out q hq))
        have sb : BS ≤ w6.heap.size := Nat.le_trans SB4.out hgrow.size
        have OG6 := own_block_ge hown
        have O6 : Hid (w6.ownsRow BS 137 7 V6 (j + 1) (vh (newL m (j + 1)))) := by
          show World.ownsRow _ _ _ _ _ _ _
          rw [newL_succ]
          exact hown
        have KW6 := Lib.hid kw
        have c0 := kw.cell 0
        have c1 := kw.cell 1
        simp only [List.getElem?_cons_zero, List.getElem?_cons_succ] at c0 c1
        have f0 := kw.free 0
        go_upto_region 8 with (fail)
        clear c0 c1 f0
        obtain ⟨w7, hw7⟩ : ∃ W, W = w6.setCell ⟨pW, 0, none⟩ V6 := ⟨_, rfl⟩
        have kw7 := KW6.out.set (j := 0) (by simp) V6
        simp only [List.set_cons_zero] at kw7
        have kr7 := kr.other (p := ⟨pW, 0, none⟩) (by show pW ≠ pR; first | exact (fun e => NER_W.out e.symm) | exact NEW_R.out) V6
        have bw7 := bw.setCell (p := ⟨pW, 0, none⟩) GW.out V6
        have o7 := row_grown (r := some pW) O6.out (grown_set pW 0 V6) (fun g e => by cases e; exact PW.out)
        rw [← HV6.out, ← hw7]
        rw [← hw7] at kw7 kr7 bw7 o7
        have sb7 : BS ≤ w7.heap.size := by rw [hw7]; simpa using sb
        have KW7 := Lib.hid kw7
        have KR7 := Lib.hid kr7
        have BW7 := Lib.hid bw7
        have O7 := Lib.hid o7
        have SB7 := Lib.hid sb7
        clear kw7 kr7 bw7 o7 sb7 hw7 kr kw bw sb hown hgrow OG6 KW6 O6 KR KW BW SB KR4 KW4 BW4 SB4 O4 SR OG ho
        go_wp2_with fail
        go_roundw
        case rel => exact ⟨j + 1, V6, by omega, by go_num, O7.out, KR7.out, KW7.out, SB7.out, BW7.out⟩
        case measure => simp [intOf]; omega
      · have hjm : j = m := by omega
        subst hjm
        obtain ⟨g, cap, rfl, hgb, hrow⟩ := row_open ho.out m1
        have HR := Lib.hid hrow
        have HG := Lib.hid (Nat.le_trans GB.out hgb)
        have GLT := Lib.hid (Nat.lt_of_lt_of_le PR.out hgb)
        clear ho hrow hgb
        have r0 := KR.out.cell 0
        have r1 := KR.out.cell 1
        have v0 := KW.out.cell 0
        have v1 := KW.out.cell 1
        simp only [List.getElem?_cons_zero, List.getElem?_cons_succ] at r0 r1 v0 v1
        have fr := KR.out.free
        go_wp2
        refine bodyPost_ret (v := .tuple #[.agg #[.slice (some ⟨g, 0, none⟩) j cap, .slice none 0 0], .bool true]) (by simp [results, Try.results69, go_sem, r0, r1]) rfl ⟨?_, .inl ⟨j, rfl, m1, m4, g, cap, HG.out, ?_, rfl⟩⟩
        rotate_left
        · refine row_grown (r := some pR) (row_grown (r := some pR) HR.out (grown_set pR 0 _) (fun q e => by cases e; exact GLT.out)) (grown_set pR 1 _) (fun q e => by cases e; exact GLT.out)
        repeat (first | with_reducible refine Below.setCell ?_ ?_ _ | with_reducible refine Below.drew ?_)
        all_goals (first | exact BW.out | exact GR.out | (simp; done) | (simp; omega))
  · have hb : n < 1 ∨ 4 < n := by omega
    have HBAD := Lib.hid hb
    have II := Lib.hid (fun W => isIn_any n 1 4 W)
    have hin : inB n 1 4 = false := by simp [inB]; omega
    rw [hin] at II
    clear hr hn
    have BW := Lib.hid (Below.refl w.heap.size w)
    clear hb hin
    go_enter Try.func69, Try.ntmps69
    have kR := Blk.new w #[.slice none 0 0, .slice none 0 0] 81
    have ba := (Below.refl w.heap.size w).alloc (Nat.le_refl _) (.cells #[.slice none 0 0, .slice none 0 0] 81)
    obtain ⟨pR, hpR⟩ : ∃ p, p = w.heap.size := ⟨_, rfl⟩
    go_upto_region 1 with (fail)
    rw [← hpR] at kR
    try rw [← hpR]
    obtain ⟨w0, hW⟩ : ∃ W, W = w.alloc (.cells #[.slice none 0 0, .slice none 0 0] 81) := ⟨_, rfl⟩
    rw [← hW] at ba kR ⊢
    have KR := Lib.hid kR
    have GR := Lib.hid (show w.heap.size ≤ pR by omega)
    replace BW := Lib.hid (BW.out.trans ((ba).mono BW.out.size))
    clear ba hW kR hpR
    go_wp2_with fail
    refine (II.out _).mono ?_
    rintro e w0' ⟨rfl, rfl⟩
    have r0 := KR.out.cell 0
    have r1 := KR.out.cell 1
    simp only [List.getElem?_cons_zero, List.getElem?_cons_succ] at r0 r1
    have fr := KR.out.free
    go_wp2
    refine bodyPost_ret (v := .tuple #[.agg #[.slice none 0 0, .slice none 0 0], .bool false]) (by simp [results, Try.results69, go_sem, r0, r1]) rfl ⟨?_, .inr (by first | exact ⟨HBAD.out, rfl⟩ | exact rfl)⟩
    repeat (first | with_reducible refine Below.setCell ?_ ?_ _ | with_reducible refine Below.drew ?_)
    all_goals (first | exact BW.out | exact GR.out | (simp; done) | (simp; omega))
end Go.Proofs.Ytjjgigoehgabkaa
