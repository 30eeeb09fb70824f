/- DrawRights. -/
import Derived.Test.YtcjoecjijmkbaaaGreatVC

namespace Go.Proofs.YtcjoecjijmkbaaaGreat
open Go.RowKit
set_option linter.unusedVariables false
set_option linter.unusedSimpArgs false
/-- acts, how many places, who, where, an eye -/
def DrawnR (w : World) (e : Ending) (w' : World) : Prop := ∃ (v u : Value) (l : List ActM) (n a b er en : Int) (xs : List Int), e = .returned (.tuple #[v, .int .i64 n, .int .i64 a, .int .i64 b, .agg #[.int .i64 er, .int .i64 en, u]]) ∧ Acts w' v l ∧ SmallL l ∧ l.length ≤ 61 ∧ 0 ≤ n ∧ n ≤ 5 ∧ Ints w' u xs ∧ Below w.heap.size w w'
set_option maxRecDepth 100000 in
set_option maxHeartbeats 3200000 in
theorem drawRights_any (a : Option Addr) (len cap : Nat) (w : World) (hm : len ≤ 9223372036854775807) (hc : Code w w.heap.size a len) : Calls Tryz.prog 12 #[.slice a len cap] w (DrawnR w) := by
  obtain ⟨R, hR⟩ : ∃ R, R = w.heap.size := ⟨_, rfl⟩
  obtain ⟨W0, hW0⟩ : ∃ W0, W0 = w.alloc (.cells #[.int .i64 0, .int .i64 0, .slice none 0 0] 26) := ⟨_, rfl⟩
  have k1 := Blk.new w #[.int .i64 0, .int .i64 0, .slice none 0 0] 26
  have b0 := (Below.refl w.heap.size w).alloc (Nat.le_refl _) (.cells #[.int .i64 0, .int .i64 0, .slice none 0 0] 26)
  have hsz : W0.heap.size = w.heap.size + 1 := by rw [hW0]; simp
  rw [← hW0] at k1 b0
  have hc0 : Code W0 W0.heap.size a len := by
    have h1 : Code W0 w.heap.size a len := hc.other (fun b o hb => b0.cell (p := ⟨b, o, none⟩) hb)
    intro j hj
    obtain ⟨b, off, x, e, hb, r⟩ := h1 j hj
    exact ⟨b, off, x, e, by omega, r⟩
  have K0 := Lib.hid k1
  have B0 := Lib.hid b0
  have HC := Lib.hid hc0
  have HSZ := Lib.hid hsz
  have HR := Lib.hid hR
  clear k1 b0 hc0 hsz hR hc
  go_enter Tryz.func12, Tryz.ntmps12
  go_upto_region 1 with (fail)
  rw [← HR.out, ← hW0]
  clear hW0
  go_wp2_with fail
  refine (new_any a len cap _ hm HC.out).mono ?_
  rintro e w1 ⟨B, rfl, hB, hcu, hb1⟩
  have hBl := Lib.hid hcu.lt
  have HB := Lib.hid (show R < B from by have := HSZ.out; have := HR.out; omega)
  have HRW := Lib.hid (show w.heap.size ≤ R from by rw [HR.out]; exact Nat.le_refl _)
  have K1 := K0.out.below hb1 (by rw [HSZ.out]; omega)
  rw [← HR.out] at K1
  have B1 := Lib.hid (B0.out.trans (hb1.mono (by rw [HSZ.out]; omega)))
  have C1 := Lib.hid hcu
  have S1 := Lib.hid (show R + 1 ≤ w1.heap.size from by have := hb1.size; have := HSZ.out; have := HR.out; omega)
  have KR1 := Lib.hid K1
  clear hcu hb1 hB K0 B0 K1
  go_wp2_with fail
  refine (l3bent_any B _ C1.out).mono ?_
  rintro e w2 ⟨v, ts, n, rfl, hst, hs, hl, h0, h5, hc, hg⟩
  obtain ⟨n, rfl⟩ := Int.eq_ofNat_of_zero_le h0
  have hn5 : n ≤ 5 := by omega
  obtain ⟨x, c, rfl⟩ := actsT_len hst.now
  obtain ⟨m, hmm⟩ : ∃ m, m = ts.length := ⟨_, rfl⟩
  rw [← hmm] at hst ⊢
  have B2 := Lib.hid (B1.out.grown hg B1.out.size (fun g e => by cases e; have := HB.out; have := HRW.out; omega))
  have KR2 := Lib.hid (KR1.out.grown hg (by have := HB.out; omega))
  have S2 := Lib.hid hst
  have SM := Lib.hid hs
  have HM := Lib.hid hmm
  have hm61 : m ≤ 61 := by omega
  have Z2 := Lib.hid (show w1.heap.size ≤ w2.heap.size from hg.size)
  have C2 := Lib.hid hc
  clear hst hs hl hc hg hmm KR1 B1 C1 h0 h5
  go_wp2_with fail
  refine (below_any B 7 _ C2.out (by omega)).mono ?_
  rintro e w3 ⟨y, rfl, y0, y1, _, hc, hg⟩
  have B3 := Lib.hid (B2.out.grown hg B2.out.size (fun g e => by cases e; have := HB.out; have := HRW.out; omega))
  have KR3 := Lib.hid (KR2.out.grown hg (by have := HB.out; omega))
  have S3 := Lib.hid (S2.out.cur hg hBl.out)
  have Z3 := Lib.hid (Nat.le_trans Z2.out hg.size)
  have C3 := Lib.hid hc
  clear hc hg B2 KR2 S2 Z2 C2
  have ew : IntKind.i64.wrap (y - 1) = y - 1 := by rw [IntWalk.i64_in _ (by omega)]
  go_wp2_with fail
  refine (below_any B 4 _ C3.out (by omega)).mono ?_
  rintro e w4 ⟨z, rfl, z0, z1, _, hc, hg⟩
  have B4 := Lib.hid (B3.out.grown hg B3.out.size (fun g e => by cases e; have := HB.out; have := HRW.out; omega))
  have KR4 := Lib.hid (KR3.out.grown hg (by have := HB.out; omega))
  have S4 := Lib.hid (S3.out.cur hg hBl.out)
  have Z4 := Lib.hid (Nat.le_trans Z3.out hg.size)
  have C4 := Lib.hid hc
  clear hc hg B3 KR3 S3 Z3 C3
  have ez : IntKind.i64.wrap (z - 1) = z - 1 := by rw [IntWalk.i64_in _ (by omega)]
  go_wp2_with fail
  refine (l4eye_any B w1.heap.size n _ ts w4 C4.out S4.out hBl.out Z4.out SM.out (by have := HM.out; omega) hn5).mono ?_
  rintro e w5 ⟨er, en, u, xs, rfl, hi, hc, hg⟩
  have B5 := Lib.hid (B4.out.grown hg B4.out.size (fun g e => by cases e; have := HB.out; have := HRW.out; omega))
  have KR5 := Lib.hid (KR4.out.grown hg (by have := HB.out; omega))
  have S5 := Lib.hid (S4.out.cur hg hBl.out)
  have Z5 := Lib.hid (Nat.le_trans Z4.out hg.size)
  have C5 := Lib.hid hc
  clear hc hg B4 KR4 S4 Z4 C4
  obtain ⟨ua, uc, hu⟩ := ints_len hi.now
  generalize xs.length = uk at hu
  subst hu
  have DR := Lib.hid hi
  have d := KR5.out.cell
  have f := KR5.out.free
  have FN : Hid (DrawnR w (.returned (.tuple #[.slice x m c, .int .i64 n, .int .i64 (y - 1), .int .i64 (z - 1), .agg #[.int .i64 er, .int .i64 en, .slice ua uk uc]])) (((w5.setCell ⟨R, 0, none⟩ (.int .i64 er)).setCell ⟨R, 1, none⟩ (.int .i64 en)).setCell ⟨R, 2, none⟩ (.slice ua uk uc))) := by
    have s1 := ((S5.out.cur (grown_set R 0 (.int .i64 er)) S1.out).cur (grown_set R 1 (.int .i64 en)) S1.out).cur (grown_set R 2 (.slice ua uk uc)) S1.out
    exact ⟨_, _, ts.map ActT.a, n, y - 1, z - 1, er, en, xs, rfl, ⟨ts, rfl, s1.now⟩, SM.out, by rw [List.length_map]; have := HM.out; omega, by omega, by omega, (((DR.out.grown (grown_set R 0 _) S1.out).grown (grown_set R 1 _) S1.out).grown (grown_set R 2 _) S1.out).now, ((B5.out.setCell HRW.out _).setCell HRW.out _).setCell HRW.out _⟩
  clear hi DR KR5 S5 B5 C5 Z5
  go_wp2_with fail
  exact bodyPost_ret (v := .tuple #[.slice x m c, .int .i64 n, .int .i64 (y - 1), .int .i64 (z - 1), .agg #[.int .i64 er, .int .i64 en, .slice ua uk uc]]) (by simp [results, Tryz.results12, go_sem, d]) rfl FN.out
end Go.Proofs.YtcjoecjijmkbaaaGreat
