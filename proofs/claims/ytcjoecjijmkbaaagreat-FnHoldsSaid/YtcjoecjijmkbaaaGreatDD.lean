/- The reference's l3grow. -/
import Derived.Test.YtcjoecjijmkbaaaGreatDC

namespace Go.Proofs.YtcjoecjijmkbaaaGreat
open Go.RowKit
set_option linter.unusedVariables false
theorem Tryz.infoActs : (Tryz.prog.info? 23).map (fun i => (i.zero, i.size, i.bytes)) = some (some (.slice none 0 0), 1, 24) := by kernel_rfl
theorem made_nil (n : Nat) : madeCells (Value.slice none 0 0).cells (n * 1) = (List.replicate n (Value.slice none 0 0)).toArray := by
 apply Array.ext
 ·simp [size_madeCells]
 ·intro i h1 h2
  simp [madeCells, Value.cells, Nat.mod_one]
def DrawnActs (w : World) (B n : Nat) (e : Ending) (w' : World) : Prop := ∃ v l, e = .returned v ∧ OwnActs w' w.heap.size v l ∧ setOkM l n = true ∧ Cur w' B ∧ w.grownBy w' (some B)
theorem All.fin {w W : World} {B A n : Nat} {vs : List Value} (h : All w B A n W vs) {v : Value} {l : List ActM} (ho : OwnActs W (A + 1) v l) (hs : setOkM l n = true) : DrawnActs w B n (.returned v) W :=
 ⟨v, l, rfl, ho.less (by have := h.wa; omega), hs, h.c, h.g⟩
set_option maxRecDepth 100000 in
set_option maxHeartbeats 6400000 in
theorem l3grow_any (B n : Nat) (most : Int) (w : World) (h : Cur w B) (hn : 1 ≤ n) (hn4 : n ≤ 4) (hm : -1 ≤ most) (hm2 : most ≤ 200) : Calls Tryz.prog 77 #[.pointer (some ⟨B, 0, none⟩), .int .i64 n, .int .i64 most] w (DrawnActs w B n) := by
 obtain ⟨i0, hi, hz0, hz1, hz2⟩ := info_parts Tryz.infoActs
 have hmk : (Instr.makeSlice 120 (.int .i64 (n : Int)) (.int .i64 (n : Int))).run Tryz.prog w = .ok (.slice (some ⟨w.heap.size, 0, none⟩) n n) (w.alloc (.cells (List.replicate n (Value.slice none 0 0)).toArray 23)) := by
  have h := run_make (P := Tryz.prog) w 120 23 i0 (.slice none 0 0) Tryz.underlying120 hi hz0 .i64 .i64 n n (by omega) (by omega) (by rw [hz2]; omega) (by omega)
  rw [hz1] at h
  simp only [Int.toNat_natCast] at h
  rw [made_nil] at h
  exact h
 have A0 : All w B w.heap.size n (w.alloc (.cells (List.replicate n (Value.slice none 0 0)).toArray 23)) (List.replicate n (Value.slice none 0 0)) := by
  refine ⟨h.lt, Nat.le_refl _, h.grown (grown_alloc w _ none) (fun g e => by cases e), Blk.new w _ _, by simp, fun i hi => ⟨[], ?_, setOk_empty hn hn4⟩, grown_alloc w _ _⟩
  have : (List.replicate n (Value.slice none 0 0)).getD i undef = Value.slice none 0 0 := by simp [List.getD, hi]
  rw [this]
  exact ownActs_nil _ _
 obtain ⟨A, hA⟩ : ∃ A, A = w.heap.size := ⟨_, rfl⟩
 obtain ⟨W0, hW0⟩ : ∃ W0, W0 = (w.alloc (.cells (List.replicate n (Value.slice none 0 0)).toArray 23)) := ⟨_, rfl⟩
 rw [← hW0] at hmk A0
 rw [← hA] at hmk A0
 have A0 := Lib.hid A0
 have HA := Lib.hid hA
 have hB := Lib.hid h.lt
 have hnI : (1 : Int) ≤ (n : Int) := by omega
 clear hi hz0 hz1 hz2 i0 hW0 hA h
 go_enter Tryz.func77, Tryz.ntmps77
 go_wp2_with fail
 refine (below_any B (most + 1) _ A0.out.c (by omega)).mono ?_
 rintro e w1 ⟨x, rfl, x0, x1, x2, hc, hg⟩
 have A1 := Lib.hid (A0.out.since hc hg)
 have hx : x ≤ 201 := by
  by_cases e : most + 1 ≤ 0
  ·have := x1 e; omega
  ·have := x2 (by omega); omega
 obtain ⟨k0, rfl⟩ := Int.eq_ofNat_of_zero_le x0
 clear hc hg A0 hmk x1 x2
 go_wp2_with fail
 go_loopw [8] (fun i wr => ∃ (k : Nat) (vs : List Value), i = .int .i64 k ∧ k ≤ 201 ∧ Hid (All w B A n wr vs)) (fun i _ => (intOf i).toNat)
 case atStart => exact ⟨k0, _, rfl, by omega, A1.out⟩
 case round =>
  obtain ⟨k, vs, rfl, hk, ha⟩ := hrel
  clear A1
  by_cases hlt : 0 < k
  ·go_wp2_with fail
   refine (below_any B n _ ha.out.c (by omega)).mono ?_
   rintro e w2 ⟨x, rfl, x0, _, x2, hc, hg⟩
   have A2 := Lib.hid (ha.out.since hc hg)
   have hx := x2 (by omega)
   obtain ⟨r, rfl⟩ := Int.eq_ofNat_of_zero_le x0
   clear hc hg ha x2
   go_wp2_with fail
   refine (once_any B 4 _ A2.out.c (by omega)).mono ?_
   rintro e w3 ⟨b, rfl, hc, hg⟩
   have A3 := Lib.hid (A2.out.since hc hg)
   clear hc hg A2
   cases b
   ·go_wp2_with fail
    refine (l2say_any B _ A3.out.c).mono ?_
    rintro e w4 ⟨t, rfl, td, tvd, tow, tsm, hc, hg⟩
    have A4 := A3.out.since hc hg
    have hr : r < n := by omega
    obtain ⟨P, hP⟩ : ∃ P, P = w4.heap.size := ⟨_, rfl⟩
    obtain ⟨W, hW⟩ : ∃ W, W = w4.alloc (.cells t.cells.toArray 33) := ⟨_, rfl⟩
    have Q0 := Lib.hid (show Cand w B A n w4 vs P W t from by
     have hk := A3.out.k.lt
     have hs := hg.size
     have hu := tow.2
     rw [hW, hP]
     exact ⟨A4, rfl, grown_alloc w4 _ _, A4.c.grown (grown_alloc w4 _ none) (fun g e => by cases e), Blk.new w4 _ _, row_less hu (by omega), ⟨w4.heap.size + 1, by omega, .inl ⟨_, _, tvd, td⟩⟩, by rw [td]; exact ⟨by simp, by omega⟩⟩)
    have A4 := Lib.hid A4
    obtain ⟨⟨q0, q1, q2, q3, q4, q5, q6, q7, q8, q9, q10⟩, vd, vs'⟩ := t
    have hvd : vd = .slice none 0 0 := tvd
    subst hvd
    have hsh := ups_len (ActT.Owns.reads tow).2
    simp only at hsh
    obtain ⟨ua, uc, rfl⟩ := hsh
    have TD : q2 = [] := td
    subst TD
    clear tow td tvd hc hg A3
    simp only [ActT.cells] at hW
    simp only [ActT.val]
    go_upto_region 12 with (fail)
    rw [← hP, ← hW]
    have hPW : P < W.heap.size := Q0.out.k.lt
    clear hP hW
    have c := Q0.out.k.cell
    have f := Q0.out.k.free
    simp only [ActT.cells] at c
    have q1 := Q0.out.store 0 (.int .i64 r) ⟨⟨r, q1, [], q3, q4, q5, q6, q7, q8, q9, q10⟩, .slice none 0 0, .slice ua q10.length uc⟩ (by omega) rfl rfl rfl rfl rfl
    have c1 := q1.now.cell r hr
    obtain ⟨l1, o1, s1⟩ := q1.now.r r hr
    obtain ⟨a1, p1, e1⟩ := acts_len (ownActs_acts o1)
    rw [e1] at c1 o1
    have O1 := Lib.hid (ownActs_acts o1)
    have S1 := Lib.hid (setOk_r s1)
    have Q1 := Lib.hid q1
    clear q1 o1 s1 e1
    go_wp2_with fail
    refine ((l3clock_any _ l1 n _ hn4 O1.out S1.out).mono (R' := ClockOwn (W.setCell ⟨P, 0, none⟩ (.int .i64 r)) l1 n) (fun e w' h => clockOwn h hn)).mono ?_
    rintro e w5 ⟨H, hH, rfl, o5, b5⟩
    have q2 := Q1.out.below b5
    have hPH : P < H := by simp at hH; omega
    have hxl := clockM_length l1 n
    generalize clockM l1 n = xs at *
    have q3' := q2.dep (.slice (some ⟨H, 0, none⟩) n n) xs ⟨⟨r, q1, xs, q3, q4, q5, q6, q7, q8, q9, q10⟩, .slice (some ⟨H, 0, none⟩) n n, .slice ua q10.length uc⟩ rfl rfl rfl rfl rfl (by omega) H hPH o5
    have d1 := ints_cell q3'.reads.1 r hr
    simp only at d1
    generalize xs.getD r 0 = x at *
    clear c f c1
    have c := q2.k.cell
    have f := q2.k.free
    simp only [ActT.cells] at c
    have Q3 := Lib.hid q3'
    have XL := Lib.hid hxl
    clear q2 q3' o5 b5 Q1 O1 S1 hxl hH
    go_upto_region 15 with (fail)
    have Q4 := Lib.hid (Q3.out.store 1 (.int .i64 (wrap64 (x + 1))) ⟨⟨r, wrap64 (x + 1), xs, q3, q4, q5, q6, q7, q8, q9, q10⟩, .slice (some ⟨H, 0, none⟩) n n, .slice ua q10.length uc⟩ (by omega) rfl rfl rfl rfl rfl)
    obtain ⟨W7, hW7⟩ : ∃ W7, W7 = ((w5.setCell ⟨P, 2, none⟩ (.slice (some ⟨H, 0, none⟩) n n)).setCell ⟨P, 1, none⟩ (.int .i64 (wrap64 (x + 1)))) := ⟨_, rfl⟩
    rw [← hW7] at Q4 ⊢
    clear hW7 Q3 c f d1 Q0 A4 hPW hPH
    have c := Q4.out.k.cell
    have f := Q4.out.k.free
    simp only [ActT.cells] at c
    by_cases hk2 : q4 = 2
    ·subst hk2
     have c1 := Q4.out.now.cell r hr
     obtain ⟨l1, o1, s1⟩ := Q4.out.now.r r hr
     have hot := o1
     obtain ⟨ts, hts, hot⟩ := hot
     obtain ⟨a1, p1, e1⟩ := acts_len (ownActs_acts o1)
     rw [e1] at c1 o1 hot
     have HOT := Lib.hid hot
     have hl60 : l1.length ≤ 60 := (setOk_all s1).2.2.1
     have HTS := Lib.hid (show l1.length = ts.length by rw [hts]; simp)
     clear hts
     clear o1 s1 e1 hot
     by_cases hl0 : l1.length = 0
     ·rw [hl0] at c1
      go_wp2_with fail
      go_roundw
      case rel => exact ⟨k - 1, vs, by go_num, by omega, Q4.out.now⟩
      case measure => simp [intOf]; omega
     ·obtain ⟨hln, b, off, rfl, hb, hc2⟩ := actsT_at (ownT_acts HOT.out) (by omega)
      have HC2 := Lib.hid hc2
      have hlI : 0 < (l1.length : Int) := by omega
      have hlI2 : l1.length ≤ 256 := by omega
      have HLN := Lib.hid hln
      clear hc2 hln
      have SP0 := Lib.hid (SP.start Q4.out.c)
      have SPB := Lib.hid (SP.base Q4.out.c)
      have SPA := Lib.hid ((SPB.out.alloc (.cells #[.int .i64 0, .int .i64 0, .slice none 0 0, .int .i64 0, .int .i64 0, .int .i64 0, .int .i64 0, .int .i64 0, .int .i64 0, .int .i64 0, .slice none 0 0] 33)).drew)
      have KG := Lib.hid ((Blk.new W7 #[.int .i64 0, .int .i64 0, .slice none 0 0, .int .i64 0, .int .i64 0, .int .i64 0, .int .i64 0, .int .i64 0, .int .i64 0, .int .i64 0, .slice none 0 0] 33).drew)
      have hneG : Hid (W7.heap.size ≠ B) := (by have := Q4.out.c.lt; show _ ≠ _; omega)
      have KB := Lib.hid (fun W' (h : SP B W7 W') => (show SP B W7 W' ∧ W'.cell? ⟨A, r, none⟩ = some (.slice (some ⟨b, off, none⟩) l1.length p1) from ⟨h, by rw [← c1, Q4.out.now.cell r hr]; exact (Q4.out.now.since h.cur h.g).cell r hr⟩))
      have hBW : B < W7.heap.size := Q4.out.c.lt
      have hbB : b ≠ B := by
       have h1 := Q4.out.all.ba
       have h2 := own_block_ge HOT.out.1 b rfl
       omega
      have EL := Lib.hid (el_all hb hbB HLN.out (fun t ht => (HOT.out.2 t ht).reads) HC2.out)
      go_wp2_with fail
      go_region_held3 (fun w' => SP B W7 w' ∧ w'.cell? ⟨A, r, none⟩ = some (.slice (some ⟨b, off, none⟩) l1.length p1))
       (first | (with_reducible exact KB.out _ SP0.out) | (go_split_ands; refine KB.out _ ?_; (repeat (first | with_reducible refine SP.drew ?_ | with_reducible refine SP.alloc ?_ _ | with_reducible refine SP.set ?_ hBW (Nat.le_refl _) _ _)); first | with_reducible assumption | (with_reducible exact SPB.out) | (with_reducible exact SP.call SP0.out hc8 hg8) | (with_reducible exact SP.call SPA.out hc8 hg8)))
       (first | ((go_at_call 26; (with_reducible refine (below_any B l1.length W7.drew SP0.out.cur (by omega)).mono ?_); rintro e w8 ⟨y, rfl, y0, _, y2, hc8, hg8⟩; have hy := y2 (by omega); obtain ⟨jj, rfl⟩ := Int.eq_ofNat_of_zero_le y0; obtain ⟨g0, g1, g3, g4, g5, g6, g7, g8, g9, da, nd, dc, ua2, nu, uc2, e0, e1, e2, e3, e4, e5, e6, e7, e8, e9, e10⟩ := EL.out jj (by omega); clear y2)) | ((go_at_call 26; (with_reducible refine (below_any B l1.length (W7.alloc (.cells #[.int .i64 0, .int .i64 0, .slice none 0 0, .int .i64 0, .int .i64 0, .int .i64 0, .int .i64 0, .int .i64 0, .int .i64 0, .int .i64 0, .slice none 0 0] 33)).drew SPA.out.cur (by omega)).mono ?_); rintro e w8 ⟨y, rfl, y0, _, y2, hc8, hg8⟩; have hy := y2 (by omega); obtain ⟨jj, rfl⟩ := Int.eq_ofNat_of_zero_le y0; obtain ⟨g0, g1, g3, g4, g5, g6, g7, g8, g9, da, nd, dc, ua2, nu, uc2, e0, e1, e2, e3, e4, e5, e6, e7, e8, e9, e10⟩ := EL.out jj (by omega); clear y2; have kg := KG.out.grown hg8 hneG.out; have cg := kg.cell; have fg := kg.free; have KG8 := Lib.hid kg; clear kg)))
      ·clear e0 e1 e2 e3 e4 e5 e6 e7 e8 e9 e10
       have hGG := Lib.hid (show W7.heap.size ≤ w8.heap.size from hg8.size)
       have sp8 := Lib.hid (SP.call SP0.out hc8 hg8)
       clear c f hc8 hg8 c1
       go_upto_region 18 with (fail)
       refine wp_gen (fun W9 hW9 => ?_)
       have sp9 : SP B W7 W9 := by rw [hW9]; exact SP.alloc sp8.out _
       have d0 : W9.cell? ⟨w8.heap.size, 0, none⟩ = some (.int .i64 g0) := by rw [hW9]; exact (Blk.new w8 _ _).cell 0
       have d1 : W9.cell? ⟨w8.heap.size, 1, none⟩ = some (.int .i64 g1) := by rw [hW9]; exact (Blk.new w8 _ _).cell 1
       have d3 : W9.cell? ⟨w8.heap.size, 3, none⟩ = some (.int .i64 g3) := by rw [hW9]; exact (Blk.new w8 _ _).cell 3
       have hGlt := Lib.hid (show w8.heap.size < W9.heap.size by rw [hW9]; simp)
       clear hW9
       have c1 := True.intro
       generalize w8.heap.size = G at *
       have Q5 := Lib.hid (Q4.out.sp sp9)
       have hPG : P < G := by have := Q4.out.k.lt; have := hGG.out; omega
       have hPG1 : G ≠ P := by omega
       have hPG2 : P ≠ G := by omega
       have hGB : G ≠ B := by have := hGG.out; omega
       have c := Q5.out.k.cell
       have f := Q5.out.k.free
       simp only [ActT.cells] at c
       have q7 := (Q5.out.store 8 (.int .i64 g0) ⟨⟨r, wrap64 (x + 1), xs, q3, 2, q5, q6, q7, g0, q9, q10⟩, .slice (some ⟨H, 0, none⟩) n n, .slice ua q10.length uc⟩ (by omega) rfl rfl rfl rfl rfl).store 9 (.int .i64 g1) ⟨⟨r, wrap64 (x + 1), xs, q3, 2, q5, q6, q7, g0, g1, q10⟩, .slice (some ⟨H, 0, none⟩) n n, .slice ua q10.length uc⟩ (by omega) rfl rfl rfl rfl rfl
       have Q7 := Lib.hid q7
       have d3s : ((W9.setCell ⟨P, 8, none⟩ (.int .i64 g0)).setCell ⟨P, 9, none⟩ (.int .i64 g1)).cell? ⟨G, 3, none⟩ = some (.int .i64 g3) := (World.cell?_setCell_other (h := by intro e; injection e with e _ _; omega) ..).trans ((World.cell?_setCell_other (h := by intro e; injection e with e _ _; omega) ..).trans d3)
       have D3 := Lib.hid d3s
       clear q7 d3s d3
       go_wp2_with fail
       refine (once_any B 2 _ Q7.out.c (by omega)).mono ?_
       rintro e w11 ⟨b1, rfl, hc, hg⟩
       have q8 := Q7.out.call hc hg
       have d3 := (World.cell?_of_block (a := ⟨G, 3, none⟩) (hg.block G (by have := hGlt.out; simpa [World.setCell] using this) (by intro e; cases e; exact hGB rfl))).trans D3.out
       have Q8 := Lib.hid q8
       clear q8 hc hg Q7 Q5 D3 c f d0 d1 c1
       have c := Q8.out.k.cell
       have f := Q8.out.k.free
       simp only [ActT.cells] at c
       cases b1
       ·have c1 := Q8.out.now.cell r hr
        obtain ⟨l1, o1, s1⟩ := Q8.out.now.r r hr
        obtain ⟨a1, p1, e1⟩ := acts_len (ownActs_acts o1)
        rw [e1] at c1 o1
        have hlA := Q8.out.now.k.lt
        have hlP := Q8.out.k.lt
        have hD : Below w11.heap.size w11 w11.drew := (Below.refl _ _).drew
        have AC := Lib.hid (addAct_any (.slice a1 l1.length p1) l1 n ⟨⟨r, wrap64 (x + 1), xs, q3, 2, q5, q6, q7, g0, g1, q10⟩, .slice (some ⟨H, 0, none⟩) n n, .slice ua q10.length uc⟩ w11.drew ((ownActs_acts o1).below hD) (by omega) (Q8.out.reads.below hD) Q8.out.small)
        simp only [ActT.val] at AC
        clear o1 s1 e1
        go_wp2_with fail
        go_region_held3 (fun w' => w'.cell? ⟨A, r, none⟩ = some (.slice a1 l1.length p1) ∧ ∀ j, w'.cell? ⟨P, j, none⟩ = ([.int .i64 (r), .int .i64 (wrap64 (x + 1)), .slice (some ⟨H, 0, none⟩) n n, .int .i64 (q3), .int .i64 (2), .int .i64 (q5), .int .i64 (q6), .int .i64 (q7), .int .i64 (g0), .int .i64 (g1), .slice ua q10.length uc] : List Value)[j]?)
         (first | exact ⟨c1, c⟩ | exact ⟨(b10.out.cell (p := ⟨A, r, none⟩) hlA).trans c1, fun j => (b10.out.cell (p := ⟨P, j, none⟩) hlP).trans (c j)⟩)
         ((go_at_call 20; refine (AC.out.mono (R' := AddedB w11.drew n) (fun e w' h => addedB h (fun l hl => addM_ok hl))).mono ?_; rintro e w10 ⟨a3, m3, p3, b, rfl, hb5, hv5⟩; have b10 := Lib.hid hb5; clear hb5))
        have A5 := Lib.hid ((Q8.out.now.below hD).below b10.out)
        have hA5 : A + 1 ≤ w11.heap.size := hlA
        clear AC c1
        cases b
        ·go_wp2_with fail
         go_roundw
         case rel => exact ⟨k - 1, vs, by go_num, by omega, A5.out⟩
         case measure => simp [intOf]; omega
        ·obtain ⟨l, hl, hs⟩ := hv5.out rfl
         have A6 := Lib.hid (A5.out.put r hr _ l (hl.less hA5) hs)
         have cA := A5.out.cell r hr
         have fA := A5.out.k.free
         clear hl hs hv5 c f
         go_wp2_with fail
         go_roundw
         case rel => exact ⟨k - 1, _, by go_num, by omega, A6.out⟩
         case measure => simp [intOf]; omega
       ·have Q9 := Lib.hid (Q8.out.store 3 (.int .i64 g3) ⟨⟨r, wrap64 (x + 1), xs, g3, 2, q5, q6, q7, g0, g1, q10⟩, .slice (some ⟨H, 0, none⟩) n n, .slice ua q10.length uc⟩ (by omega) rfl rfl rfl rfl rfl)
        go_upto_region 22 with (fail)
        obtain ⟨W12, hW12⟩ : ∃ W12, W12 = w11.setCell ⟨P, 3, none⟩ (.int .i64 g3) := ⟨_, rfl⟩
        rw [← hW12] at Q9 ⊢
        clear hW12 c f d3 Q8
        have c := Q9.out.k.cell
        have f := Q9.out.k.free
        simp only [ActT.cells] at c
        have c1 := Q9.out.now.cell r hr
        obtain ⟨l1, o1, s1⟩ := Q9.out.now.r r hr
        obtain ⟨a1, p1, e1⟩ := acts_len (ownActs_acts o1)
        rw [e1] at c1 o1
        have hlA := Q9.out.now.k.lt
        have hlP := Q9.out.k.lt
        have hD : Below W12.heap.size W12 W12.drew := (Below.refl _ _).drew
        have AC := Lib.hid (addAct_any (.slice a1 l1.length p1) l1 n ⟨⟨r, wrap64 (x + 1), xs, g3, 2, q5, q6, q7, g0, g1, q10⟩, .slice (some ⟨H, 0, none⟩) n n, .slice ua q10.length uc⟩ W12.drew ((ownActs_acts o1).below hD) (by omega) (Q9.out.reads.below hD) Q9.out.small)
        simp only [ActT.val] at AC
        clear o1 s1 e1
        go_wp2_with fail
        go_region_held3 (fun w' => w'.cell? ⟨A, r, none⟩ = some (.slice a1 l1.length p1) ∧ ∀ j, w'.cell? ⟨P, j, none⟩ = ([.int .i64 (r), .int .i64 (wrap64 (x + 1)), .slice (some ⟨H, 0, none⟩) n n, .int .i64 (g3), .int .i64 (2), .int .i64 (q5), .int .i64 (q6), .int .i64 (q7), .int .i64 (g0), .int .i64 (g1), .slice ua q10.length uc] : List Value)[j]?)
         (first | exact ⟨c1, c⟩ | exact ⟨(b10.out.cell (p := ⟨A, r, none⟩) hlA).trans c1, fun j => (b10.out.cell (p := ⟨P, j, none⟩) hlP).trans (c j)⟩)
         ((go_at_call 20; refine (AC.out.mono (R' := AddedB W12.drew n) (fun e w' h => addedB h (fun l hl => addM_ok hl))).mono ?_; rintro e w10 ⟨a3, m3, p3, b, rfl, hb5, hv5⟩; have b10 := Lib.hid hb5; clear hb5))
        have A5 := Lib.hid ((Q9.out.now.below hD).below b10.out)
        have hA5 : A + 1 ≤ W12.heap.size := hlA
        clear AC c1
        cases b
        ·go_wp2_with fail
         go_roundw
         case rel => exact ⟨k - 1, vs, by go_num, by omega, A5.out⟩
         case measure => simp [intOf]; omega
        ·obtain ⟨l, hl, hs⟩ := hv5.out rfl
         have A6 := Lib.hid (A5.out.put r hr _ l (hl.less hA5) hs)
         have cA := A5.out.cell r hr
         have fA := A5.out.k.free
         clear hl hs hv5 c f
         go_wp2_with fail
         go_roundw
         case rel => exact ⟨k - 1, _, by go_num, by omega, A6.out⟩
         case measure => simp [intOf]; omega
      ·clear e0 e1 e2 e3 e4 e5 e6 e7 e8 e9 e10
       have hGG := Lib.hid (Nat.le_refl W7.heap.size)
       have sp8 := Lib.hid (SP.call SPA.out hc8 hg8)
       clear c f hc8 hg8 c1 cg fg
       go_upto_region 18 with (fail)
       refine wp_gen (fun W9 hW9 => ?_)
       have sp9 : SP B W7 W9 := by
        rw [hW9]
        repeat (with_reducible refine SP.set ?_ hBW (Nat.le_refl _) _ _)
        exact sp8.out
       have k9 := Lib.hid (((((((((((KG8.out.set (j := 0) (by simp) (.int .i64 g0)).set (j := 1) (by simp) (.int .i64 g1)).set (j := 2) (by simp) (.slice da nd dc)).set (j := 3) (by simp) (.int .i64 g3)).set (j := 4) (by simp) (.int .i64 g4)).set (j := 5) (by simp) (.int .i64 g5)).set (j := 6) (by simp) (.int .i64 g6)).set (j := 7) (by simp) (.int .i64 g7)).set (j := 8) (by simp) (.int .i64 g8)).set (j := 9) (by simp) (.int .i64 g9)).set (j := 10) (by simp) (.slice ua2 nu uc2))
       rw [← hW9] at k9
       have d0 : W9.cell? ⟨W7.heap.size, 0, none⟩ = some (.int .i64 g0) := k9.out.cell 0
       have d1 : W9.cell? ⟨W7.heap.size, 1, none⟩ = some (.int .i64 g1) := k9.out.cell 1
       have d3 : W9.cell? ⟨W7.heap.size, 3, none⟩ = some (.int .i64 g3) := k9.out.cell 3
       have hGlt := Lib.hid k9.out.lt
       clear hW9 k9
       have c1 := True.intro
       have hP7 := Q4.out.k.lt
       generalize W7.heap.size = G at *
       have Q5 := Lib.hid (Q4.out.sp sp9)
       have hPG : P < G := by have := Q4.out.k.lt; have := hGG.out; omega
       have hPG1 : G ≠ P := by omega
       have hPG2 : P ≠ G := by omega
       have hGB : G ≠ B := by have := hGG.out; omega
       have c := Q5.out.k.cell
       have f := Q5.out.k.free
       simp only [ActT.cells] at c
       have q7 := (Q5.out.store 8 (.int .i64 g0) ⟨⟨r, wrap64 (x + 1), xs, q3, 2, q5, q6, q7, g0, q9, q10⟩, .slice (some ⟨H, 0, none⟩) n n, .slice ua q10.length uc⟩ (by omega) rfl rfl rfl rfl rfl).store 9 (.int .i64 g1) ⟨⟨r, wrap64 (x + 1), xs, q3, 2, q5, q6, q7, g0, g1, q10⟩, .slice (some ⟨H, 0, none⟩) n n, .slice ua q10.length uc⟩ (by omega) rfl rfl rfl rfl rfl
       have Q7 := Lib.hid q7
       have d3s : ((W9.setCell ⟨P, 8, none⟩ (.int .i64 g0)).setCell ⟨P, 9, none⟩ (.int .i64 g1)).cell? ⟨G, 3, none⟩ = some (.int .i64 g3) := (World.cell?_setCell_other (h := by intro e; injection e with e _ _; omega) ..).trans ((World.cell?_setCell_other (h := by intro e; injection e with e _ _; omega) ..).trans d3)
       have D3 := Lib.hid d3s
       clear q7 d3s d3
       go_wp2_with fail
       refine (once_any B 2 _ Q7.out.c (by omega)).mono ?_
       rintro e w11 ⟨b1, rfl, hc, hg⟩
       have q8 := Q7.out.call hc hg
       have d3 := (World.cell?_of_block (a := ⟨G, 3, none⟩) (hg.block G (by have := hGlt.out; simpa [World.setCell] using this) (by intro e; cases e; exact hGB rfl))).trans D3.out
       have Q8 := Lib.hid q8
       clear q8 hc hg Q7 Q5 D3 c f d0 d1 c1
       have c := Q8.out.k.cell
       have f := Q8.out.k.free
       simp only [ActT.cells] at c
       cases b1
       ·have c1 := Q8.out.now.cell r hr
        obtain ⟨l1, o1, s1⟩ := Q8.out.now.r r hr
        obtain ⟨a1, p1, e1⟩ := acts_len (ownActs_acts o1)
        rw [e1] at c1 o1
        have hlA := Q8.out.now.k.lt
        have hlP := Q8.out.k.lt
        have hD : Below w11.heap.size w11 w11.drew := (Below.refl _ _).drew
        have AC := Lib.hid (addAct_any (.slice a1 l1.length p1) l1 n ⟨⟨r, wrap64 (x + 1), xs, q3, 2, q5, q6, q7, g0, g1, q10⟩, .slice (some ⟨H, 0, none⟩) n n, .slice ua q10.length uc⟩ w11.drew ((ownActs_acts o1).below hD) (by omega) (Q8.out.reads.below hD) Q8.out.small)
        simp only [ActT.val] at AC
        clear o1 s1 e1
        go_wp2_with fail
        go_region_held3 (fun w' => w'.cell? ⟨A, r, none⟩ = some (.slice a1 l1.length p1) ∧ ∀ j, w'.cell? ⟨P, j, none⟩ = ([.int .i64 (r), .int .i64 (wrap64 (x + 1)), .slice (some ⟨H, 0, none⟩) n n, .int .i64 (q3), .int .i64 (2), .int .i64 (q5), .int .i64 (q6), .int .i64 (q7), .int .i64 (g0), .int .i64 (g1), .slice ua q10.length uc] : List Value)[j]?)
         (first | exact ⟨c1, c⟩ | exact ⟨(b10.out.cell (p := ⟨A, r, none⟩) hlA).trans c1, fun j => (b10.out.cell (p := ⟨P, j, none⟩) hlP).trans (c j)⟩)
         ((go_at_call 20; refine (AC.out.mono (R' := AddedB w11.drew n) (fun e w' h => addedB h (fun l hl => addM_ok hl))).mono ?_; rintro e w10 ⟨a3, m3, p3, b, rfl, hb5, hv5⟩; have b10 := Lib.hid hb5; clear hb5))
        have A5 := Lib.hid ((Q8.out.now.below hD).below b10.out)
        have hA5 : A + 1 ≤ w11.heap.size := hlA
        clear AC c1
        cases b
        ·go_wp2_with fail
         go_roundw
         case rel => exact ⟨k - 1, vs, by go_num, by omega, A5.out⟩
         case measure => simp [intOf]; omega
        ·obtain ⟨l, hl, hs⟩ := hv5.out rfl
         have A6 := Lib.hid (A5.out.put r hr _ l (hl.less hA5) hs)
         have cA := A5.out.cell r hr
         have fA := A5.out.k.free
         clear hl hs hv5 c f
         go_wp2_with fail
         go_roundw
         case rel => exact ⟨k - 1, _, by go_num, by omega, A6.out⟩
         case measure => simp [intOf]; omega
       ·have Q9 := Lib.hid (Q8.out.store 3 (.int .i64 g3) ⟨⟨r, wrap64 (x + 1), xs, g3, 2, q5, q6, q7, g0, g1, q10⟩, .slice (some ⟨H, 0, none⟩) n n, .slice ua q10.length uc⟩ (by omega) rfl rfl rfl rfl rfl)
        go_upto_region 22 with (fail)
        obtain ⟨W12, hW12⟩ : ∃ W12, W12 = w11.setCell ⟨P, 3, none⟩ (.int .i64 g3) := ⟨_, rfl⟩
        rw [← hW12] at Q9 ⊢
        clear hW12 c f d3 Q8
        have c := Q9.out.k.cell
        have f := Q9.out.k.free
        simp only [ActT.cells] at c
        have c1 := Q9.out.now.cell r hr
        obtain ⟨l1, o1, s1⟩ := Q9.out.now.r r hr
        obtain ⟨a1, p1, e1⟩ := acts_len (ownActs_acts o1)
        rw [e1] at c1 o1
        have hlA := Q9.out.now.k.lt
        have hlP := Q9.out.k.lt
        have hD : Below W12.heap.size W12 W12.drew := (Below.refl _ _).drew
        have AC := Lib.hid (addAct_any (.slice a1 l1.length p1) l1 n ⟨⟨r, wrap64 (x + 1), xs, g3, 2, q5, q6, q7, g0, g1, q10⟩, .slice (some ⟨H, 0, none⟩) n n, .slice ua q10.length uc⟩ W12.drew ((ownActs_acts o1).below hD) (by omega) (Q9.out.reads.below hD) Q9.out.small)
        simp only [ActT.val] at AC
        clear o1 s1 e1
        go_wp2_with fail
        go_region_held3 (fun w' => w'.cell? ⟨A, r, none⟩ = some (.slice a1 l1.length p1) ∧ ∀ j, w'.cell? ⟨P, j, none⟩ = ([.int .i64 (r), .int .i64 (wrap64 (x + 1)), .slice (some ⟨H, 0, none⟩) n n, .int .i64 (g3), .int .i64 (2), .int .i64 (q5), .int .i64 (q6), .int .i64 (q7), .int .i64 (g0), .int .i64 (g1), .slice ua q10.length uc] : List Value)[j]?)
         (first | exact ⟨c1, c⟩ | exact ⟨(b10.out.cell (p := ⟨A, r, none⟩) hlA).trans c1, fun j => (b10.out.cell (p := ⟨P, j, none⟩) hlP).trans (c j)⟩)
         ((go_at_call 20; refine (AC.out.mono (R' := AddedB W12.drew n) (fun e w' h => addedB h (fun l hl => addM_ok hl))).mono ?_; rintro e w10 ⟨a3, m3, p3, b, rfl, hb5, hv5⟩; have b10 := Lib.hid hb5; clear hb5))
        have A5 := Lib.hid ((Q9.out.now.below hD).below b10.out)
        have hA5 : A + 1 ≤ W12.heap.size := hlA
        clear AC c1
        cases b
        ·go_wp2_with fail
         go_roundw
         case rel => exact ⟨k - 1, vs, by go_num, by omega, A5.out⟩
         case measure => simp [intOf]; omega
        ·obtain ⟨l, hl, hs⟩ := hv5.out rfl
         have A6 := Lib.hid (A5.out.put r hr _ l (hl.less hA5) hs)
         have cA := A5.out.cell r hr
         have fA := A5.out.k.free
         clear hl hs hv5 c f
         go_wp2_with fail
         go_roundw
         case rel => exact ⟨k - 1, _, by go_num, by omega, A6.out⟩
         case measure => simp [intOf]; omega
    ·have e2 : (q4 == 2) = false := by simpa using hk2
     clear hk2
     have c1 := Q4.out.now.cell r hr
     obtain ⟨l1, o1, s1⟩ := Q4.out.now.r r hr
     obtain ⟨a1, p1, e1⟩ := acts_len (ownActs_acts o1)
     rw [e1] at c1 o1
     have hlA := Q4.out.now.k.lt
     have hlP := Q4.out.k.lt
     have hD : Below W7.heap.size W7 W7.drew := (Below.refl _ _).drew
     have AC := Lib.hid (addAct_any (.slice a1 l1.length p1) l1 n ⟨⟨r, wrap64 (x + 1), xs, q3, q4, q5, q6, q7, q8, q9, q10⟩, .slice (some ⟨H, 0, none⟩) n n, .slice ua q10.length uc⟩ W7.drew ((ownActs_acts o1).below hD) (by omega) (Q4.out.reads.below hD) Q4.out.small)
     simp only [ActT.val] at AC
     clear o1 s1 e1
     go_wp2_with fail
     go_region_held3 (fun w' => w'.cell? ⟨A, r, none⟩ = some (.slice a1 l1.length p1) ∧ ∀ j, w'.cell? ⟨P, j, none⟩ = ([.int .i64 (r), .int .i64 (wrap64 (x + 1)), .slice (some ⟨H, 0, none⟩) n n, .int .i64 (q3), .int .i64 (q4), .int .i64 (q5), .int .i64 (q6), .int .i64 (q7), .int .i64 (q8), .int .i64 (q9), .slice ua q10.length uc] : List Value)[j]?)
      (first | exact ⟨c1, c⟩ | exact ⟨(b10.out.cell (p := ⟨A, r, none⟩) hlA).trans c1, fun j => (b10.out.cell (p := ⟨P, j, none⟩) hlP).trans (c j)⟩)
      ((go_at_call 20; refine (AC.out.mono (R' := AddedB W7.drew n) (fun e w' h => addedB h (fun l hl => addM_ok hl))).mono ?_; rintro e w10 ⟨a3, m3, p3, b, rfl, hb5, hv5⟩; have b10 := Lib.hid hb5; clear hb5))
     have A5 := Lib.hid ((Q4.out.now.below hD).below b10.out)
     have hA5 : A + 1 ≤ W7.heap.size := hlA
     clear AC c1
     cases b
     ·go_wp2_with fail
      go_roundw
      case rel => exact ⟨k - 1, vs, by go_num, by omega, A5.out⟩
      case measure => simp [intOf]; omega
     ·obtain ⟨l, hl, hs⟩ := hv5.out rfl
      have A6 := Lib.hid (A5.out.put r hr _ l (hl.less hA5) hs)
      have cA := A5.out.cell r hr
      have fA := A5.out.k.free
      clear hl hs hv5 c f
      go_wp2_with fail
      go_roundw
      case rel => exact ⟨k - 1, _, by go_num, by omega, A6.out⟩
      case measure => simp [intOf]; omega
   ·go_wp2_with fail
    refine (below_any B n _ A3.out.c (by omega)).mono ?_
    rintro e w4 ⟨x, rfl, x0, _, x2, hc, hg⟩
    have A4 := Lib.hid (A3.out.since hc hg)
    have hx := x2 (by omega)
    obtain ⟨f, rfl⟩ := Int.eq_ofNat_of_zero_le x0
    clear hc hg A3 x2
    have hr : r < n := by omega
    have hf : f < n := by omega
    have c1 := A4.out.cell r hr
    have c2 := A4.out.cell f hf
    obtain ⟨l1, o1, s1⟩ := A4.out.r r hr
    obtain ⟨l2, o2, s2⟩ := A4.out.r f hf
    obtain ⟨a1, p1, e1⟩ := acts_len (ownActs_acts o1)
    obtain ⟨a2, p2, e2⟩ := acts_len (ownActs_acts o2)
    rw [e1] at c1 o1
    rw [e2] at c2 o2
    have O1 := Lib.hid (ownActs_acts o1)
    have O2 := Lib.hid (ownActs_acts o2)
    have hlA := A4.out.k.lt
    have hD : Below w4.heap.size w4 w4.drew := (Below.refl _ _).drew
    clear o1 o2 e1 e2 s1 s2
    go_wp2_with fail
    go_region_held3 (fun w' => w'.cell? ⟨A, r, none⟩ = some (.slice a1 l1.length p1) ∧ w'.cell? ⟨A, f, none⟩ = some (.slice a2 l2.length p2))
     (first | go_keep | (exact ⟨(b5.out.cell (p := ⟨A, r, none⟩) hlA).trans c1, (b5.out.cell (p := ⟨A, f, none⟩) hlA).trans c2⟩))
     ((go_at_call 96; refine ((union_any _ _ l1 l2 n w4.drew (O1.out.below hD) (O2.out.below hD) (by omega)).mono (R' := AddedB w4.drew n) (fun e w' h => addedB h (fun l hl => unionM_ok hl))).mono ?_; rintro e w5 ⟨a3, m3, p3, b, rfl, hb5, hv5⟩; have b5 := Lib.hid hb5; clear hb5))
    have A5 := Lib.hid ((A4.out.below hD).below b5.out)
    have hA5 : A + 1 ≤ w4.heap.size := hlA
    clear O1 O2 c1 c2
    cases b
    ·go_wp2_with fail
     go_roundw
     case rel => exact ⟨k - 1, vs, by go_num, by omega, A5.out⟩
     case measure => simp [intOf]; omega
    ·obtain ⟨l, hl, hs⟩ := hv5.out rfl
     have A6 := Lib.hid (A5.out.put r hr _ l (hl.less hA5) hs)
     have cA := A5.out.cell r hr
     have fA := A5.out.k.free
     clear hl hs hv5
     go_wp2_with fail
     go_roundw
     case rel => exact ⟨k - 1, _, by go_num, by omega, A6.out⟩
     case measure => simp [intOf]; omega
  ·have hn0 : 0 < n := by omega
   have c0 := ha.out.cell 0 hn0
   obtain ⟨l0, o0, s0⟩ := ha.out.r 0 hn0
   obtain ⟨a0, p0, e0⟩ := acts_len (ownActs_acts o0)
   rw [e0] at c0 o0
   have O0 := Lib.hid o0
   have S0 := Lib.hid s0
   clear o0 s0 e0
   go_wp2_with fail
   go_loopw [17, 18] (fun sv i wr => ∃ (k : Nat) (l : List ActM) (v : Value), v = sv ∧ i = .int .i64 k ∧ 1 ≤ k ∧ k ≤ n ∧ Hid (All w B A n wr vs) ∧ Hid (OwnActs wr (A + 1) v l) ∧ Hid (setOkM l n = true)) (fun _ i _ => n - (intOf i).toNat)
   case atStart => exact ⟨1, l0, _, rfl, rfl, by omega, by omega, ha.out, O0.out, S0.out⟩
   case round =>
    clear c0 O0 S0 ha
    obtain ⟨k, l, v, hv, rfl, hk1, hkn, ha, ho, hs⟩ := hrel
    subst hv
    obtain ⟨a1, p1, rfl⟩ := acts_len (ownActs_acts ho.out)
    by_cases hlt : k < n
    ·have c1 := ha.out.cell k hlt
     obtain ⟨l2, o2, s2⟩ := ha.out.r k hlt
     obtain ⟨a2, p2, e2⟩ := acts_len (ownActs_acts o2)
     rw [e2] at c1 o2
     have O1 := Lib.hid (ownActs_acts ho.out)
     have O2 := Lib.hid (ownActs_acts o2)
     have hlA := ha.out.k.lt
     clear o2 s2 e2
     go_wp2_with fail
     refine ((union_any _ _ l l2 n wr O1.out O2.out (by omega)).mono (R' := AddedB wr n) (fun e w' h => addedB h (fun l hl => unionM_ok hl))).mono ?_
     rintro e w5 ⟨a3, m3, p3, b, rfl, hb5, hv5⟩
     have b5 := Lib.hid hb5
     clear hb5
     have A5 := Lib.hid (ha.out.below b5.out)
     have O5 := Lib.hid (ho.out.below b5.out)
     have hA5 : A + 1 ≤ wr.heap.size := hlA
     clear O1 O2 c1 ha ho
     cases b
     ·go_wp2_with fail
      go_roundw
      case rel => exact ⟨k + 1, l, _, rfl, by go_num, by omega, by omega, A5.out, O5.out, hs.out⟩
      case measure => simp [intOf]; omega
     ·obtain ⟨l3, hl, hs3⟩ := hv5.out rfl
      have O6 := Lib.hid (hl.less hA5)
      have HS3 := Lib.hid hs3
      clear hl hs3 hv5
      go_wp2_with fail
      go_roundw
      case rel => exact ⟨k + 1, l3, _, rfl, by go_num, by omega, by omega, A5.out, O6.out, HS3.out⟩
      case measure => simp [intOf]; omega
    ·go_wp2_with fail
     go_ret
     exact ha.out.fin ho.out hs.out
end Go.Proofs.YtcjoecjijmkbaaaGreat
