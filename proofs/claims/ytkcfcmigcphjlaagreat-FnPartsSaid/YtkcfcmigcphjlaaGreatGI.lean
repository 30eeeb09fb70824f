/- UF, UQ, UG, UH, UI, UJ. -/
import Derived.Test.YtkcfcmigcphjlaaGreatGH
import Derived.Test.YtkcfcmigcphjlaaGreatGE
import Derived.Test.YtkcfcmigcphjlaaGreatLA
import Derived.Test.YtkcfcmigcphjlaaGreatGF
import Derived.Test.YtkcfcmigcphjlaaGreatGD
import Derived.RangeFuncNested
import Derived.Deep.DeepCutAuto

namespace Go.Proofs.YtkcfcmigcphjlaaGreat
open Go.RowKit
set_option linter.unusedVariables false
set_option linter.unusedSimpArgs false

theorem heap_new (w : World) (cs : Array Value) (e : TypeId) : (w.alloc (.cells cs e)).heap[w.heap.size]? = some (.cells cs e (0, 0)) := by
  rw [World.alloc]
  exact Array.getElem?_push_size
theorem nodup_mid {α : Type} {a b m : List α} (h : (a ++ b).Nodup) (hm : m.Nodup) (hd : ∀ x ∈ m, x ∉ a ++ b) : (a ++ (m ++ b)).Nodup := by
  have hp : (a ++ (m ++ b)).Perm (m ++ (a ++ b)) := by
    rw [← List.append_assoc, ← List.append_assoc]
    exact List.perm_append_comm.append_right b
  rw [hp.nodup_iff]
  refine List.nodup_append.2 ⟨hm, h, fun x hx y hy e => ?_⟩
  subst e
  exact hd x hx hy
/-- where an act is put -/
def insM (l : List ActM) (p : ActM) : List ActM := l.take (l.findIdx fun b => aheadM p b) ++ p :: l.drop (l.findIdx fun b => aheadM p b)
theorem insM_put {l : List ActM} {p : ActM} (hp : l.Pairwise (fun a b => aheadM a b = true)) : insM l p = putM l p := by
  unfold insM putM
  rw [putJ_idx hp]
def PutMade (lo : Nat) (w : World) (l : List ActM) (e : Ending) (w' : World) : Prop := ∃ v, e = .returned v ∧ Row w' lo v l ∧ Below lo w w'
theorem Row.acts {w : World} {lo : Nat} {v : Value} {ts : List ActT} {cs : List Nat} (ho : w.ownsRow lo 33 11 v ts.length (va ts)) (hl : Lists w ts cs) : ActsT w v ts := by
  refine ⟨fun t ht => hl.reads t ht, ?_⟩
  rcases row_own ho with ⟨rfl, h0⟩ | ⟨g, cap, rfl, hg, hlt, ht, ho2⟩
  · exact .inl ⟨_, _, rfl, List.eq_nil_of_length_eq_zero h0⟩
  · obtain ⟨hcl, (⟨hv, _⟩ | ⟨g', cap', cur, hv, _, hh, hnc, hcm, hcs, hct⟩)⟩ := ho2
    · cases hv
    · cases hv
      have hn : ts.length ≤ 9223372036854775807 := Nat.le_trans hnc hcm
      refine .inr ⟨g, 0, cap, rfl, hlt, hnc, hcm, fun i hi => ?_⟩
      have hc : ∀ r, r < 11 → w.cell? ⟨g, 0 + i * 11 + r, none⟩ = (ts.getD i t0).cells[r]? := fun r hr => by
        rw [Nat.zero_add, cell_of_row w g _ cur _ _ hh, ← va_at ts i r hi hr, ← hct, List.getElem?_take, if_pos (by omega), Array.getElem?_toList]
      exact ⟨by simpa [ActT.cells] using hc 0 (by omega), by simpa [ActT.cells] using hc 1 (by omega), by simpa [ActT.cells] using hc 2 (by omega), by simpa [ActT.cells] using hc 3 (by omega), by simpa [ActT.cells] using hc 4 (by omega), by simpa [ActT.cells] using hc 5 (by omega), by simpa [ActT.cells] using hc 6 (by omega), by simpa [ActT.cells] using hc 7 (by omega), by simpa [ActT.cells] using hc 8 (by omega), by simpa [ActT.cells] using hc 9 (by omega), by simpa [ActT.cells] using hc 10 (by omega)⟩

set_option maxRecDepth 100000 in
set_option maxHeartbeats 1600000 in
theorem put_any (lo : Nat) (v u : Value) (l : List ActM) (p : ActM) (w : World) (h : Row w lo v l) (hlo : lo ≤ w.heap.size) (hl : l.length ≤ 120) (hp : ActIs w u p) (hs : p.Small) :
    Calls Tryz.prog 61 #[v, u] w (PutMade lo w (insM l p)) := by
  obtain ⟨ts, cs, hla, hrow, hli, hnd, hge⟩ := h
  obtain ⟨n, hn⟩ : ∃ n, n = ts.length := ⟨_, rfl⟩
  have hn60 : n ≤ 120 := by rw [hn, ← List.length_map (f := ActT.a), hla]; exact hl
  obtain ⟨pa, pc, qa, qc, hpv⟩ := act_shape hp
  obtain ⟨⟨pr, pn, pdep, pactor, pkind, pdst, pbucket, pmask, pgr, pgn, pups⟩, hpp⟩ : ∃ x, p = x := ⟨_, rfl⟩
  simp only [hpp] at hpv
  obtain ⟨pl, hpl⟩ : ∃ x, x = pdep.length := ⟨_, rfl⟩
  obtain ⟨ql, hql⟩ : ∃ x, x = pups.length := ⟨_, rfl⟩
  rw [← hpl, ← hql] at hpv
  subst hpv
  obtain ⟨va0, vc0, hv0⟩ := row_shape hrow
  rw [← hn] at hv0
  have kC := Blk.new w #[.int .i64 pr, .int .i64 pn, .slice pa pl pc, .int .i64 pactor, .int .i64 pkind, .int .i64 pdst, .int .i64 pbucket, .int .i64 pmask, .int .i64 pgr, .int .i64 pgn, .slice qa ql qc] 33
  have b0 := (Below.refl w.heap.size w).alloc (Nat.le_refl _) (.cells #[.int .i64 pr, .int .i64 pn, .slice pa pl pc, .int .i64 pactor, .int .i64 pkind, .int .i64 pdst, .int .i64 pbucket, .int .i64 pmask, .int .i64 pgr, .int .i64 pgn, .slice qa ql qc] 33)
  obtain ⟨C, hC⟩ : ∃ C, C = w.heap.size := ⟨_, rfl⟩
  obtain ⟨J, hJ⟩ : ∃ J, J = l.findIdx fun b => aheadM p b := ⟨_, rfl⟩
  have hins : insM l p = l.take J ++ p :: l.drop J := by rw [insM, ← hJ]
  have hJl : J ≤ n := by rw [hJ, hn, ← List.length_map (f := ActT.a), hla]; exact List.findIdx_le_length
  obtain ⟨RI, hRI⟩ : ∃ RI, RI = idxF p (ts.map ActT.a) 0 := ⟨_, rfl⟩
  have hRJ : RI = if J < n then (J : Int) else -1 := by
    rw [hRI, idxF_find, hla, ← hJ, hn, ← List.length_map (f := ActT.a), hla, Nat.zero_add]
  rw [hins]
  have hact := Row.acts hrow hli
  have IX := Lib.hid (fun W (hW : Below w.heap.size w W) (k : Blk W C [.int .i64 pr, .int .i64 pn, .slice pa pl pc, .int .i64 pactor, .int .i64 pkind, .int .i64 pdst, .int .i64 pbucket, .int .i64 pmask, .int .i64 pgr, .int .i64 pgn, .slice qa ql qc]) => idxFunc_any v C pr pn pactor pkind pdst pbucket pmask pgr pgn pa qa pl pc ql qc p ts W (hact.below hW) (by rw [← hn]; omega) k (hp.below hW))
  have CA := Lib.hid (fun W (hW : Below w.heap.size w W) => copyA_any (.agg #[.int .i64 pr, .int .i64 pn, .slice pa pl pc, .int .i64 pactor, .int .i64 pkind, .int .i64 pdst, .int .i64 pbucket, .int .i64 pmask, .int .i64 pgr, .int .i64 pgn, .slice qa ql qc]) p W (hp.below hW) hs)
  rw [← hRI] at IX
  rw [hv0] at IX ⊢
  have HV0 := Lib.hid hv0
  have HPP := Lib.hid hpp
  have HJ := Lib.hid hRJ
  have HN := Lib.hid hn
  have HLA := Lib.hid hla
  have HROW := Lib.hid hrow
  have HLI := Lib.hid hli
  have HND := Lib.hid hnd
  have HGE := Lib.hid hge
  clear hins hRI hJ hpl hql hact hp hs hv0 hpp hRJ hl hn hla hrow hli hnd hge
  go_enter Tryz.func61, Tryz.ntmps61
  go_upto_region 1 with (fail)
  rw [← hC] at kC ⊢
  generalize w.alloc (.cells #[.int .i64 pr, .int .i64 pn, .slice pa pl pc, .int .i64 pactor, .int .i64 pkind, .int .i64 pdst, .int .i64 pbucket, .int .i64 pmask, .int .i64 pgr, .int .i64 pgn, .slice qa ql qc] 33) = W0 at b0 kC ⊢
  have HC := Lib.hid hC
  clear hC
  go_wp2_with fail
  refine (IX.out W0 b0 kC).mono ?_
  rintro e w1 ⟨rfl, b1⟩
  have B1 := Lib.hid (b0.trans (b1.mono b0.size))
  have K1 := Lib.hid (kC.below b1 kC.lt)
  clear b0 b1 kC IX
  have c0 := K1.out.cell 0
  have c1 := K1.out.cell 1
  have c2 := K1.out.cell 2
  have c3 := K1.out.cell 3
  have c4 := K1.out.cell 4
  have c5 := K1.out.cell 5
  have c6 := K1.out.cell 6
  have c7 := K1.out.cell 7
  have c8 := K1.out.cell 8
  have c9 := K1.out.cell 9
  have c10 := K1.out.cell 10
  simp only [List.getElem?_cons_zero, List.getElem?_cons_succ] at c0 c1 c2 c3 c4 c5 c6 c7 c8 c9 c10
  have key : ∀ (J2 : Int), J2 = (J : Int) → True := fun _ _ => trivial
  clear key
  by_cases hJn : J < n
  · have hRI := HJ.out
    rw [if_pos hJn] at hRI
    subst hRI
    go_wp2_with fail
    refine (CA.out w1 B1.out).mono ?_
    rintro e w2 ⟨u2, bs, rfl, o2, g2, b2⟩
    have hn := HN.out
    have hla := HLA.out
    have hrow := HROW.out
    have hli := HLI.out
    obtain ⟨t, ds, us, he, hta, hbs, hI, hP⟩ := o2
    rw [HPP.out] at hta
    obtain ⟨⟨r', n', dep', actor', kind', dst', bucket', mask', gr', gn', ups'⟩, vd, vs⟩ := t
    simp only at hta
    cases hta
    simp only at hI hP
    obtain ⟨pa2, pc2, rfl⟩ := ints_len hI.ints
    obtain ⟨qa2, qc2, rfl⟩ := ups_len hP.ups
    subst he
    simp only [ActT.val]
    have B2 := Lib.hid (B1.out.trans (b2.mono B1.out.size))
    have hnd2 := own_nodup hI hP
    have HI := Lib.hid hI
    have HP2 := Lib.hid hP
    have hge2 : ∀ b ∈ ds ++ us, w.heap.size ≤ b := fun b hb => Nat.le_trans B1.out.size (g2 b (by rw [hbs]; exact hb))
    have hrow2 := row_past hrow B2.out
    have hli2 := hli.keep fun b hb => B2.out.block b (hli.lt b hb)
    have h2one := cells_one (t := (⟨⟨pr, pn, pdep, pactor, pkind, pdst, pbucket, pmask, pgr, pgn, pups⟩, .slice pa2 pdep.length pc2, .slice qa2 pups.length qc2⟩ : ActT)) (w := w2) ⟨hI.ints, hP.ups⟩
    have h1one : ∀ u ∈ va ts, u.oneCell' = true := va_one fun t ht => ⟨ints_one (hli.reads t ht).1, ups_one (hli.reads t ht).2⟩
    have hvb : ∀ g, v.ownBlock = some g → lo ≤ g ∧ g < w.heap.size := fun g hg => by
      rcases row_own hrow with ⟨rfl, _⟩ | ⟨g', cap, rfl, h1, h2, _, _⟩
      · cases hg
      · cases hg; exact ⟨h1, h2⟩
    have hB := heap_new w2 #[.int .i64 pr, .int .i64 pn, .slice pa2 pdep.length pc2, .int .i64 pactor, .int .i64 pkind, .int .i64 pdst, .int .i64 pbucket, .int .i64 pmask, .int .i64 pgr, .int .i64 pgn, .slice qa2 pups.length qc2] 33
    have hsz := B2.out.size
    have INS := Lib.hid (insert_any lo w2.heap.size n J v ts (⟨⟨pr, pn, pdep, pactor, pkind, pdst, pbucket, pmask, pgr, pgn, pups⟩, .slice pa2 pdep.length pc2, .slice qa2 pups.length qc2⟩ : ActT) (w2.alloc (.cells #[.int .i64 pr, .int .i64 pn, .slice pa2 pdep.length pc2, .int .i64 pactor, .int .i64 pkind, .int .i64 pdst, .int .i64 pbucket, .int .i64 pmask, .int .i64 pgr, .int .i64 pgn, .slice qa2 pups.length qc2] 33)) hn.symm hJl (by omega) (by rw [World.size_alloc]; omega) (by rw [hn]; exact row_past hrow2 ((Below.refl _ _).alloc (Nat.le_refl _) _)) hB (fun e => by have := (hvb _ e).2; omega) h1one h2one)
    rw [HV0.out] at INS
    have HVB := Lib.hid hvb
    have HLI2 := Lib.hid hli2
    have HND2 := Lib.hid hnd2
    have HGE2 := Lib.hid hge2
    clear h2one h1one hB b2 c0 c1 c2 c3 c4 c5 c6 c7 c8 c9 c10 hrow2 hI hP hn hla hrow hli hvb hli2 hnd2 hge2 hbs g2
    go_wp2_with fail
    refine INS.out.mono ?_
    rintro e w4 ⟨v4, rfl, o4, g4⟩
    have G4 := Lib.hid g4
    have O4 := Lib.hid o4
    clear INS g4 o4
    go_wp2
    go_ret
    have hn := HN.out
    have hla := HLA.out
    have hrow := HROW.out
    have hli := HLI.out
    have hnd := HND.out
    have hge := HGE.out
    have hvb := HVB.out
    have hli2 := HLI2.out
    have hnd2 := HND2.out
    have hge2 := HGE2.out
    have hk4 : ∀ b, b < w2.heap.size → v.ownBlock ≠ some b → w4.heap[b]? = w2.heap[b]? := fun b hb hne => by
      rw [G4.out.block b (by rw [World.size_alloc]; omega) (by rw [← HV0.out]; exact fun e => hne e.symm)]
      exact Below.heap_alloc _ _ _ hb
    obtain ⟨c1', c2', hcs, hl1, hl2⟩ := Lists.split (t1 := ts.take J) (t2 := ts.drop J) (by rw [List.take_append_drop]; exact hli2)
    have hty : ∀ b, NoRow w b → v.ownBlock ≠ some b := fun b hb e => by
      rcases row_own hrow with ⟨rfl, _⟩ | ⟨g', cap, rfl, h1, h2, h3, _⟩
      · cases e
      · cases e; exact hb.ne h3 (by decide) (by decide) rfl
    have hkc : ∀ b ∈ cs, w4.heap[b]? = w2.heap[b]? := fun b hb => hk4 b (by have := hli.lt b hb; omega) (hty b (hli.type b hb))
    have hkd : ∀ b ∈ ds ++ us, w4.heap[b]? = w2.heap[b]? := fun b hb => hk4 b (by rcases List.mem_append.1 hb with hb | hb; exact HI.out.lt b hb; exact HP2.out.lt b hb) (fun e => by have := (hvb b e).2; have := hge2 b hb; omega)
    have hLt : Lists w4 ((⟨⟨pr, pn, pdep, pactor, pkind, pdst, pbucket, pmask, pgr, pgn, pups⟩, .slice pa2 pdep.length pc2, .slice qa2 pups.length qc2⟩ : ActT) :: ts.drop J) (ds ++ us ++ c2') :=
      ⟨ds, us, c2', rfl, HI.out.keep fun b hb => hkd b (List.mem_append_left _ hb), HP2.out.keep fun b hb => hkd b (List.mem_append_right _ hb), hl2.keep fun b hb => hkc b (by rw [hcs]; exact List.mem_append_right _ hb)⟩
    have hL4 := Lists.join (hl1.keep fun b hb => hkc b (by rw [hcs]; exact List.mem_append_left _ hb)) hLt
    refine ⟨v4, rfl, ⟨ts.take J ++ (⟨⟨pr, pn, pdep, pactor, pkind, pdst, pbucket, pmask, pgr, pgn, pups⟩, .slice pa2 pdep.length pc2, .slice qa2 pups.length qc2⟩ : ActT) :: ts.drop J, c1' ++ (ds ++ us ++ c2'), ?_, ?_, hL4, ?_, ?_⟩, ?_⟩
    · rw [List.map_append, List.map_cons, List.map_take, List.map_drop, hla, HPP.out]
    · have e : (ts.take J ++ (⟨⟨pr, pn, pdep, pactor, pkind, pdst, pbucket, pmask, pgr, pgn, pups⟩, .slice pa2 pdep.length pc2, .slice qa2 pups.length qc2⟩ : ActT) :: ts.drop J).length = n + 1 := by rw [List.length_append, List.length_cons, List.length_take, List.length_drop, ← hn]; omega
      rw [e]
      exact O4.out
    · have hdis : ∀ b ∈ ds ++ us, b ∉ cs := fun b hb hc => by have h1 := hge2 b hb; have h2 := hli.lt b hc; omega
      rw [hcs] at hnd hdis
      exact nodup_mid hnd hnd2 hdis
    · intro b hb
      rw [← List.append_assoc] at hb
      rcases List.mem_append.1 hb with hb | hb
      · rcases List.mem_append.1 hb with hb | hb
        · exact hge b (by rw [hcs]; exact List.mem_append_left _ hb)
        · exact Nat.le_trans hlo (hge2 b hb)
      · exact hge b (by rw [hcs]; exact List.mem_append_right _ hb)
    · have hb3 : Below lo w (w2.alloc (.cells #[.int .i64 pr, .int .i64 pn, .slice pa2 pdep.length pc2, .int .i64 pactor, .int .i64 pkind, .int .i64 pdst, .int .i64 pbucket, .int .i64 pmask, .int .i64 pgr, .int .i64 pgn, .slice qa2 pups.length qc2] 33)) := (B2.out.mono hlo).alloc (by omega) _
      exact hb3.grown G4.out (by rw [World.size_alloc]; omega) (fun k hk => by rw [← HV0.out] at hk; exact (hvb k hk).1)
  · have hRI := HJ.out
    rw [if_neg hJn] at hRI
    subst hRI
    obtain rfl : n = J := by omega
    go_wp2_with fail
    refine (CA.out w1 B1.out).mono ?_
    rintro e w2 ⟨u2, bs, rfl, o2, g2, b2⟩
    have hn := HN.out
    have hla := HLA.out
    have hrow := HROW.out
    have hli := HLI.out
    obtain ⟨t, ds, us, he, hta, hbs, hI, hP⟩ := o2
    rw [HPP.out] at hta
    obtain ⟨⟨r', n', dep', actor', kind', dst', bucket', mask', gr', gn', ups'⟩, vd, vs⟩ := t
    simp only at hta
    cases hta
    simp only at hI hP
    obtain ⟨pa2, pc2, rfl⟩ := ints_len hI.ints
    obtain ⟨qa2, qc2, rfl⟩ := ups_len hP.ups
    subst he
    simp only [ActT.val]
    have B2 := Lib.hid (B1.out.trans (b2.mono B1.out.size))
    have hnd2 := own_nodup hI hP
    have HI := Lib.hid hI
    have HP2 := Lib.hid hP
    have hge2 : ∀ b ∈ ds ++ us, w.heap.size ≤ b := fun b hb => Nat.le_trans B1.out.size (g2 b (by rw [hbs]; exact hb))
    have hrow2 := row_past hrow B2.out
    have hli2 := hli.keep fun b hb => B2.out.block b (hli.lt b hb)
    have h2one := cells_one (t := (⟨⟨pr, pn, pdep, pactor, pkind, pdst, pbucket, pmask, pgr, pgn, pups⟩, .slice pa2 pdep.length pc2, .slice qa2 pups.length qc2⟩ : ActT)) (w := w2) ⟨hI.ints, hP.ups⟩
    have h1one : ∀ u ∈ va ts, u.oneCell' = true := va_one fun t ht => ⟨ints_one (hli.reads t ht).1, ups_one (hli.reads t ht).2⟩
    have hvb : ∀ g, v.ownBlock = some g → lo ≤ g ∧ g < w.heap.size := fun g hg => by
      rcases row_own hrow with ⟨rfl, _⟩ | ⟨g', cap, rfl, h1, h2, _, _⟩
      · cases hg
      · cases hg; exact ⟨h1, h2⟩
    have hB := heap_new w2 #[.int .i64 pr, .int .i64 pn, .slice pa2 pdep.length pc2, .int .i64 pactor, .int .i64 pkind, .int .i64 pdst, .int .i64 pbucket, .int .i64 pmask, .int .i64 pgr, .int .i64 pgn, .slice qa2 pups.length qc2] 33
    have hsz := B2.out.size
    have INS := Lib.hid (insert_any lo w2.heap.size n n v ts (⟨⟨pr, pn, pdep, pactor, pkind, pdst, pbucket, pmask, pgr, pgn, pups⟩, .slice pa2 pdep.length pc2, .slice qa2 pups.length qc2⟩ : ActT) (w2.alloc (.cells #[.int .i64 pr, .int .i64 pn, .slice pa2 pdep.length pc2, .int .i64 pactor, .int .i64 pkind, .int .i64 pdst, .int .i64 pbucket, .int .i64 pmask, .int .i64 pgr, .int .i64 pgn, .slice qa2 pups.length qc2] 33)) hn.symm hJl (by omega) (by rw [World.size_alloc]; omega) (by rw [hn]; exact row_past hrow2 ((Below.refl _ _).alloc (Nat.le_refl _) _)) hB (fun e => by have := (hvb _ e).2; omega) h1one h2one)
    rw [HV0.out] at INS
    have HVB := Lib.hid hvb
    have HLI2 := Lib.hid hli2
    have HND2 := Lib.hid hnd2
    have HGE2 := Lib.hid hge2
    clear h2one h1one hB b2 c0 c1 c2 c3 c4 c5 c6 c7 c8 c9 c10 hrow2 hI hP hn hla hrow hli hvb hli2 hnd2 hge2 hbs g2
    go_wp2_with fail
    refine INS.out.mono ?_
    rintro e w4 ⟨v4, rfl, o4, g4⟩
    have G4 := Lib.hid g4
    have O4 := Lib.hid o4
    clear INS g4 o4
    go_wp2
    go_ret
    have hn := HN.out
    have hla := HLA.out
    have hrow := HROW.out
    have hli := HLI.out
    have hnd := HND.out
    have hge := HGE.out
    have hvb := HVB.out
    have hli2 := HLI2.out
    have hnd2 := HND2.out
    have hge2 := HGE2.out
    have hk4 : ∀ b, b < w2.heap.size → v.ownBlock ≠ some b → w4.heap[b]? = w2.heap[b]? := fun b hb hne => by
      rw [G4.out.block b (by rw [World.size_alloc]; omega) (by rw [← HV0.out]; exact fun e => hne e.symm)]
      exact Below.heap_alloc _ _ _ hb
    obtain ⟨c1', c2', hcs, hl1, hl2⟩ := Lists.split (t1 := ts.take n) (t2 := ts.drop n) (by rw [List.take_append_drop]; exact hli2)
    have hty : ∀ b, NoRow w b → v.ownBlock ≠ some b := fun b hb e => by
      rcases row_own hrow with ⟨rfl, _⟩ | ⟨g', cap, rfl, h1, h2, h3, _⟩
      · cases e
      · cases e; exact hb.ne h3 (by decide) (by decide) rfl
    have hkc : ∀ b ∈ cs, w4.heap[b]? = w2.heap[b]? := fun b hb => hk4 b (by have := hli.lt b hb; omega) (hty b (hli.type b hb))
    have hkd : ∀ b ∈ ds ++ us, w4.heap[b]? = w2.heap[b]? := fun b hb => hk4 b (by rcases List.mem_append.1 hb with hb | hb; exact HI.out.lt b hb; exact HP2.out.lt b hb) (fun e => by have := (hvb b e).2; have := hge2 b hb; omega)
    have hLt : Lists w4 ((⟨⟨pr, pn, pdep, pactor, pkind, pdst, pbucket, pmask, pgr, pgn, pups⟩, .slice pa2 pdep.length pc2, .slice qa2 pups.length qc2⟩ : ActT) :: ts.drop n) (ds ++ us ++ c2') :=
      ⟨ds, us, c2', rfl, HI.out.keep fun b hb => hkd b (List.mem_append_left _ hb), HP2.out.keep fun b hb => hkd b (List.mem_append_right _ hb), hl2.keep fun b hb => hkc b (by rw [hcs]; exact List.mem_append_right _ hb)⟩
    have hL4 := Lists.join (hl1.keep fun b hb => hkc b (by rw [hcs]; exact List.mem_append_left _ hb)) hLt
    refine ⟨v4, rfl, ⟨ts.take n ++ (⟨⟨pr, pn, pdep, pactor, pkind, pdst, pbucket, pmask, pgr, pgn, pups⟩, .slice pa2 pdep.length pc2, .slice qa2 pups.length qc2⟩ : ActT) :: ts.drop n, c1' ++ (ds ++ us ++ c2'), ?_, ?_, hL4, ?_, ?_⟩, ?_⟩
    · rw [List.map_append, List.map_cons, List.map_take, List.map_drop, hla, HPP.out]
    · have e : (ts.take n ++ (⟨⟨pr, pn, pdep, pactor, pkind, pdst, pbucket, pmask, pgr, pgn, pups⟩, .slice pa2 pdep.length pc2, .slice qa2 pups.length qc2⟩ : ActT) :: ts.drop n).length = n + 1 := by rw [List.length_append, List.length_cons, List.length_take, List.length_drop, ← hn]; omega
      rw [e]
      exact O4.out
    · have hdis : ∀ b ∈ ds ++ us, b ∉ cs := fun b hb hc => by have h1 := hge2 b hb; have h2 := hli.lt b hc; omega
      rw [hcs] at hnd hdis
      exact nodup_mid hnd hnd2 hdis
    · intro b hb
      rw [← List.append_assoc] at hb
      rcases List.mem_append.1 hb with hb | hb
      · rcases List.mem_append.1 hb with hb | hb
        · exact hge b (by rw [hcs]; exact List.mem_append_left _ hb)
        · exact Nat.le_trans hlo (hge2 b hb)
      · exact hge b (by rw [hcs]; exact List.mem_append_right _ hb)
    · have hb3 : Below lo w (w2.alloc (.cells #[.int .i64 pr, .int .i64 pn, .slice pa2 pdep.length pc2, .int .i64 pactor, .int .i64 pkind, .int .i64 pdst, .int .i64 pbucket, .int .i64 pmask, .int .i64 pgr, .int .i64 pgn, .slice qa2 pups.length qc2] 33)) := (B2.out.mono hlo).alloc (by omega) _
      exact hb3.grown G4.out (by rw [World.size_alloc]; omega) (fun k hk => by rw [← HV0.out] at hk; exact (hvb k hk).1)
end Go.Proofs.YtkcfcmigcphjlaaGreat


namespace Go.Proofs.YtkcfcmigcphjlaaGreat
open Go.RowKit
set_option linter.unusedVariables false
set_option linter.unusedSimpArgs false

theorem Row.below {w w' : World} {lo : Nat} {v : Value} {l : List ActM} (h : Row w lo v l) (hb : Below w.heap.size w w') : Row w' lo v l := by
  obtain ⟨ts, cs, h1, h2, h3, h4, h5⟩ := h
  exact ⟨ts, cs, h1, row_past h2 hb, h3.keep fun b hm => hb.block b (h3.lt b hm), h4, h5⟩
theorem Row.less {w : World} {lo lo' : Nat} {v : Value} {l : List ActM} (h : Row w lo v l) (hl : lo' ≤ lo) : Row w lo' v l := by
  obtain ⟨ts, cs, h1, h2, h3, h4, h5⟩ := h
  exact ⟨ts, cs, h1, row_less h2 hl, h3, h4, fun b hb => Nat.le_trans hl (h5 b hb)⟩
theorem setCell_row {w : World} {lo R : Nat} {v : Value} {l : List ActM} (h : Row w lo v l) (hR : R < lo) (o : Nat) (u : Value) : Row (w.setCell ⟨R, o, none⟩ u) lo v l := by
  obtain ⟨ts, cs, h1, h2, h3, h4, h5⟩ := h
  have hk : ∀ b, lo ≤ b → (w.setCell ⟨R, o, none⟩ u).heap[b]? = w.heap[b]? := fun b hb => Below.heap_setCell _ _ _ _ (by simp; omega)
  refine ⟨ts, cs, h1, ?_, h3.keep fun b hm => hk b (h5 b hm), h4, h5⟩
  exact row_grown h2 (grown_set R o u) (fun g e => by cases e; exact hR)
theorem insM_len (l : List ActM) (p : ActM) : (insM l p).length = l.length + 1 := by
  unfold insM
  rw [List.length_append, List.length_cons, List.length_take, List.length_drop]
  have := List.findIdx_le_length (p := fun b => aheadM p b) (xs := l)
  omega
theorem insM_mem (l : List ActM) (p b : ActM) (h : b ∈ insM l p) : b = p ∨ b ∈ l := by
  unfold insM at h
  rcases List.mem_append.1 h with h | h
  · exact .inr (List.mem_of_mem_take h)
  · rcases List.mem_cons.1 h with h | h
    · exact .inl h
    · exact .inr (List.mem_of_mem_drop h)

def RetSB (w : World) (l : List ActM) (B : Bool) (e : Ending) (w' : World) : Prop := ∃ v, e = .returned (.tuple #[v, .bool B]) ∧ Acts w' v l ∧ Below w.heap.size w w'
theorem acts_nil (w : World) : Acts w (.slice none 0 0) [] := ⟨[], rfl, (fun t ht => by cases ht), .inl ⟨none, 0, rfl, rfl⟩⟩
set_option maxHeartbeats 800000 in
theorem setOnly2_any (v : Value) (l : List ActM) (n : Int) (w : World) (h : Acts w v l) (hn : I64 n) :
    Calls Tryz.prog 62 #[v, .int .i64 n] w fun e w' => ((setOkM l n = true ∧ e = .returned (.tuple #[v, .bool true])) ∨ (setOkM l n = false ∧ e = .returned (.tuple #[.slice none 0 0, .bool false]))) ∧ Below w.heap.size w w' := by
  obtain ⟨a, cap, rfl⟩ := acts_len h
  have CS := Lib.hid (implSetOk_any _ l n w h hn)
  clear h
  generalize l.length = K at *
  obtain ⟨T, hT⟩ : ∃ T, T = setOkM l n := ⟨_, rfl⟩
  rw [← hT] at CS ⊢
  clear hT
  cases T
  · go_enter Tryz.func62, Tryz.ntmps62
    go_wp2_with fail
    refine CS.out.mono ?_
    rintro e w1 ⟨rfl, b1⟩
    have B1 := Lib.hid b1
    clear b1
    go_wp2
    go_ret2
    exact ⟨.inr ⟨(by first | rfl | trivial), rfl⟩, B1.out⟩
  · go_enter Tryz.func62, Tryz.ntmps62
    go_wp2_with fail
    refine CS.out.mono ?_
    rintro e w1 ⟨rfl, b1⟩
    have B1 := Lib.hid b1
    clear b1
    go_wp2
    go_ret2
    exact ⟨.inl ⟨(by first | rfl | trivial), rfl⟩, B1.out⟩
end Go.Proofs.YtkcfcmigcphjlaaGreat





namespace Go.Proofs.YtkcfcmigcphjlaaGreat
open Go.RowKit Go.Shelf
set_option linter.unusedVariables false
set_option linter.unusedSimpArgs false
attribute [local go_sem] Oper.semAt_some

set_option maxRecDepth 100000 in
set_option maxHeartbeats 6400000 in
theorem hasAllFor_nil (a : Option Addr) (cap mb n : Nat) (ys : List Int) (t : ActT) (w : World) (hn : n ≤ 4)
    (hys : okB ys = true) (hyl : ys.length = n) (ht : GoodT w n t) :
    Calls Tryz.prog 101 #[.agg #[.slice a 0 cap, .map (some mb), .int .i64 n, .int .i64 (cx ys 0), .int .i64 (cx ys 1), .int .i64 (cx ys 2), .int .i64 (cx ys 3)], t.val] w fun e w' =>
      e = .returned (.bool (leqB t.a.dep ys && clIn [] t.a.dep)) ∧ Below w.heap.size w w' := by
  refine (callsIn_wide (n := 6)).1 ?_
  refine callsIn_of_wp_marks Tryz.func101 rfl trivial ?_ rfl
  simp only [Tryz.ntmps101, List.size_toArray, List.length_cons, List.length_nil, Nat.reduceAdd, Nat.reduceSub, Array.replicate_succ, Array.replicate_zero, List.push_toArray, List.append_toArray, List.nil_append, List.cons_append]
  obtain ⟨⟨r, nn, dep, actor, kind, dst, bucket, mask, gr, gn, ups⟩, vd, vs⟩ := t
  have hsd := ints_len ht.1.1
  have hsu := ups_len ht.1.2
  simp only at hsd hsu
  obtain ⟨da, dc, rfl⟩ := hsd
  obtain ⟨ua, uc, rfl⟩ := hsu
  simp only [ActT.val]
  obtain ⟨x0, hx0⟩ : ∃ x, x = cx ys 0 := ⟨_, rfl⟩
  obtain ⟨x1, hx1⟩ : ∃ x, x = cx ys 1 := ⟨_, rfl⟩
  obtain ⟨x2, hx2⟩ : ∃ x, x = cx ys 2 := ⟨_, rfl⟩
  obtain ⟨x3, hx3⟩ : ∃ x, x = cx ys 3 := ⟨_, rfl⟩
  rw [← hx0, ← hx1, ← hx2, ← hx3]
  have HX := Lib.hid (⟨hx0, hx1, hx2, hx3⟩ : x0 = cx ys 0 ∧ x1 = cx ys 1 ∧ x2 = cx ys 2 ∧ x3 = cx ys 3)
  have HYS := Lib.hid hys
  have HYL := Lib.hid hyl
  have kS : Blk (((w.alloc (.cells #[.slice a 0 cap, .map (some mb), .int .i64 n, .int .i64 x0, .int .i64 x1, .int .i64 x2, .int .i64 x3] 57)).alloc (.cells #[.int .i64 r, .int .i64 nn, .slice da dep.length dc, .int .i64 actor, .int .i64 kind, .int .i64 dst, .int .i64 bucket, .int .i64 mask, .int .i64 gr, .int .i64 gn, .slice ua ups.length uc] 33)).alloc (.cells #[.bool false] 4)) w.heap.size [.slice a 0 cap, .map (some mb), .int .i64 n, .int .i64 x0, .int .i64 x1, .int .i64 x2, .int .i64 x3] := ((Blk.new w _ _).alloc _).alloc _
  have kA : Blk (((w.alloc (.cells #[.slice a 0 cap, .map (some mb), .int .i64 n, .int .i64 x0, .int .i64 x1, .int .i64 x2, .int .i64 x3] 57)).alloc (.cells #[.int .i64 r, .int .i64 nn, .slice da dep.length dc, .int .i64 actor, .int .i64 kind, .int .i64 dst, .int .i64 bucket, .int .i64 mask, .int .i64 gr, .int .i64 gn, .slice ua ups.length uc] 33)).alloc (.cells #[.bool false] 4)) (w.heap.size + 1) [.int .i64 r, .int .i64 nn, .slice da dep.length dc, .int .i64 actor, .int .i64 kind, .int .i64 dst, .int .i64 bucket, .int .i64 mask, .int .i64 gr, .int .i64 gn, .slice ua ups.length uc] := by
    have := (Blk.new (w.alloc (.cells #[.slice a 0 cap, .map (some mb), .int .i64 n, .int .i64 x0, .int .i64 x1, .int .i64 x2, .int .i64 x3] 57)) #[.int .i64 r, .int .i64 nn, .slice da dep.length dc, .int .i64 actor, .int .i64 kind, .int .i64 dst, .int .i64 bucket, .int .i64 mask, .int .i64 gr, .int .i64 gn, .slice ua ups.length uc] 33).alloc (.cells #[.bool false] 4)
    rw [World.size_alloc] at this
    exact this
  have kR : Blk (((w.alloc (.cells #[.slice a 0 cap, .map (some mb), .int .i64 n, .int .i64 x0, .int .i64 x1, .int .i64 x2, .int .i64 x3] 57)).alloc (.cells #[.int .i64 r, .int .i64 nn, .slice da dep.length dc, .int .i64 actor, .int .i64 kind, .int .i64 dst, .int .i64 bucket, .int .i64 mask, .int .i64 gr, .int .i64 gn, .slice ua ups.length uc] 33)).alloc (.cells #[.bool false] 4)) (w.heap.size + 1 + 1) [.bool false] := by
    have := Blk.new ((w.alloc (.cells #[.slice a 0 cap, .map (some mb), .int .i64 n, .int .i64 x0, .int .i64 x1, .int .i64 x2, .int .i64 x3] 57)).alloc (.cells #[.int .i64 r, .int .i64 nn, .slice da dep.length dc, .int .i64 actor, .int .i64 kind, .int .i64 dst, .int .i64 bucket, .int .i64 mask, .int .i64 gr, .int .i64 gn, .slice ua ups.length uc] 33)) #[.bool false] 4
    rw [World.size_alloc, World.size_alloc] at this
    exact this
  have b0 := (((Below.refl w.heap.size w).alloc (Nat.le_refl _) (.cells #[.slice a 0 cap, .map (some mb), .int .i64 n, .int .i64 x0, .int .i64 x1, .int .i64 x2, .int .i64 x3] 57)).alloc (by simp) (.cells #[.int .i64 r, .int .i64 nn, .slice da dep.length dc, .int .i64 actor, .int .i64 kind, .int .i64 dst, .int .i64 bucket, .int .i64 mask, .int .i64 gr, .int .i64 gn, .slice ua ups.length uc] 33)).alloc (by simp <;> omega) (.cells #[.bool false] 4)
  have HT := Lib.hid ht
  have a2 := kA.cell 2
  simp only [List.getElem?_cons_zero, List.getElem?_cons_succ] at a2
  clear hx0 hx1 hx2 hx3 hys hyl ht
  obtain ⟨B, hB⟩ : ∃ B, B = w.heap.size := ⟨_, rfl⟩
  have HB := Lib.hid hB
  obtain ⟨R, hR⟩ : ∃ R, R = (leqB dep ys && clIn [] dep) := ⟨_, rfl⟩
  rw [← hR]
  have HRR := Lib.hid hR
  gi_wp2_with fail
  refine ⟨trivial, ?_⟩
  rw [← hB] at kS kA kR b0 ⊢
  generalize (((w.alloc (.cells #[.slice a 0 cap, .map (some mb), .int .i64 n, .int .i64 x0, .int .i64 x1, .int .i64 x2, .int .i64 x3] 57)).alloc (.cells #[.int .i64 r, .int .i64 nn, .slice da dep.length dc, .int .i64 actor, .int .i64 kind, .int .i64 dst, .int .i64 bucket, .int .i64 mask, .int .i64 gr, .int .i64 gn, .slice ua ups.length uc] 33)).alloc (.cells #[.bool false] 4)) = W1 at kS kA kR b0 ⊢
  have KS := Lib.hid kS
  have KA := Lib.hid kA
  have KR := Lib.hid kR
  have B0 := Lib.hid b0
  have HT1 : Hid (ActT.Reads W1 _) := Lib.hid (HT.out.1.below (by rw [← HB.out]; exact b0))
  clear kS kA kR b0 a2 hR hB
  obtain ⟨y0, hy0⟩ : ∃ x, x = cx dep 0 := ⟨_, rfl⟩
  obtain ⟨y1, hy1⟩ : ∃ x, x = cx dep 1 := ⟨_, rfl⟩
  obtain ⟨y2, hy2⟩ : ∃ x, x = cx dep 2 := ⟨_, rfl⟩
  obtain ⟨y3, hy3⟩ : ∃ x, x = cx dep 3 := ⟨_, rfl⟩
  have hokd : okB dep = true := (ok_dep HT.out.2).1
  have hld : dep.length = n := (ok_parts HT.out.2).2.2
  have hcn : cn dep = n := by rw [cn, if_pos hokd, hld]
  have RC : CallsIn Fence.wide 5 Tryz.prog 47 #[.slice da dep.length dc] W1 fun e w' => e = .returned (.tuple #[.agg #[.int .i64 n, .int .i64 y0, .int .i64 y1, .int .i64 y2, .int .i64 y3], .bool true]) ∧ Below W1.heap.size W1 w' := by
    have := readClock_any (.slice da dep.length dc) dep W1 HT1.out.1
    rw [hcn, ← hy0, ← hy1, ← hy2, ← hy3, hokd] at this
    exact callsIn_wide.2 this
  have HY := Lib.hid (⟨hy0, hy1, hy2, hy3⟩ : y0 = cx dep 0 ∧ y1 = cx dep 1 ∧ y2 = cx dep 2 ∧ y3 = cx dep 3)
  have hlq : eqB ((mxk n y0 y1 y2 y3 x0 x1 x2 x3 n).drop 1) [x0, x1, x2, x3] = leqB dep ys := by
    have := leq_math dep ys (by simp [bothB, hokd, HYS.out, hld, HYL.out])
    rw [hcn, ← hy0, ← hy1, ← hy2, ← hy3, ← HX.out.1, ← HX.out.2.1, ← HX.out.2.2.1, ← HX.out.2.2.2] at this
    simpa using this
  obtain ⟨X, hX⟩ : ∃ X, X = leqB dep ys := ⟨_, rfl⟩
  have LQ := fun W => leq_any (n : Int) y0 y1 y2 y3 x0 x1 x2 x3 (n : Int) W (by omega) (by omega)
  rw [Int.toNat_natCast, hlq, ← hX] at LQ
  have hst := HRR.out
  rw [← hX] at hst
  have HST := Lib.hid hst
  have HLQ := Lib.hid LQ
  have HOD := Lib.hid hokd
  have HLD := Lib.hid hld
  clear hst LQ hy0 hy1 hy2 hy3 hokd hld hcn hlq hX HRR
  have lW : B + 3 ≤ W1.heap.size := KR.out.lt
  refine RC.mono ?_
  clear RC
  rintro e w2 ⟨rfl, b2⟩
  have B2 := Lib.hid (B0.out.trans (b2.mono (by omega)))
  have ks2 := Lib.hid (KS.out.below b2 (by omega))
  have ka2 := Lib.hid (KA.out.below b2 (by omega))
  have kr2 := Lib.hid (KR.out.below b2 (by omega))
  have s0 := ks2.out.cell 0
  have s1 := ks2.out.cell 1
  have s2 := ks2.out.cell 2
  have s3 := ks2.out.cell 3
  have s4 := ks2.out.cell 4
  have s5 := ks2.out.cell 5
  have s6 := ks2.out.cell 6
  have r0 := kr2.out.cell 0
  have f0 := kr2.out.free 0
  have lR := kr2.out.lt
  have lS := ks2.out.lt
  have lA := ka2.out.lt
  simp only [List.getElem?_cons_zero, List.getElem?_cons_succ] at s0 s1 s2 s3 s4 s5 s6 r0
  clear b2 lW
  gi_wp2_with fail
  refine ⟨trivial, ?_⟩
  have kC : Blk (w2.alloc (.cells #[.int .i64 n, .int .i64 y0, .int .i64 y1, .int .i64 y2, .int .i64 y3] 55)) w2.heap.size [.int .i64 n, .int .i64 y0, .int .i64 y1, .int .i64 y2, .int .i64 y3] := Blk.new w2 _ _
  have b3 := (Below.refl w2.heap.size w2).alloc (Nat.le_refl _) (.cells #[.int .i64 n, .int .i64 y0, .int .i64 y1, .int .i64 y2, .int .i64 y3] 55)
  obtain ⟨P, hP⟩ : ∃ P, P = w2.heap.size := ⟨_, rfl⟩
  rw [← hP] at kC b3 lR lS lA ⊢
  generalize w2.alloc (.cells #[.int .i64 n, .int .i64 y0, .int .i64 y1, .int .i64 y2, .int .i64 y3] 55) = W3 at kC b3 ⊢
  clear s0 s1 s2 s3 s4 s5 s6 r0 f0
  refine (callsIn_wide.2 (HLQ.out W3)).mono ?_
  rintro e w4 ⟨rfl, b4⟩
  have kC4 := Lib.hid (kC.below b4 kC.lt)
  have b34 := b3.trans (b4.mono (Nat.le_of_lt kC.lt))
  have B4 := Lib.hid (B2.out.trans (b34.mono (by omega)))
  have ks4 := Lib.hid (ks2.out.below b34 (by omega))
  have ka4 := Lib.hid (ka2.out.below b34 (by omega))
  have kr4 := Lib.hid (kr2.out.below b34 (by omega))
  clear kC b3 b4 b34 ks2 kr2 ka2 B2 lR lS lA hP
  have s0 := ks4.out.cell 0
  have s1 := ks4.out.cell 1
  have s2 := ks4.out.cell 2
  have s3 := ks4.out.cell 3
  have s4 := ks4.out.cell 4
  have s5 := ks4.out.cell 5
  have s6 := ks4.out.cell 6
  have q0 := kC4.out.cell 0
  have q1 := kC4.out.cell 1
  have q2 := kC4.out.cell 2
  have q3 := kC4.out.cell 3
  have q4 := kC4.out.cell 4
  have r0 := kr4.out.cell 0
  have f0 := kr4.out.free 0
  simp only [List.getElem?_cons_zero, List.getElem?_cons_succ] at s0 s1 s2 s3 s4 s5 s6 q0 q1 q2 q3 q4 r0
  cases X
  · have hRF : R = false := by rw [HST.out]; simp
    gi_wp2_with fail
    subst hRF
    refine leaves_marks [] _ List.nodup_nil (fun D hD => nomatch hD) (fun W' hW' => ?_)
    have hc5 := hW'.cell (fun D hD => nomatch hD) (World.cell?_setCell_same' w4 ⟨B + 1 + 1, 0, none⟩ (.bool false) (by rw [r0]; rfl))
    refine ⟨.bool false, by simp [results, Tryz.f101, go_sem, hc5], rfl, ?_⟩
    rw [← HB.out]
    exact (B4.out.setCell (p := ⟨B + 1 + 1, 0, none⟩) (by simp <;> omega) _).trans (hW'.below (fun D hD => nomatch hD))
  · have hRS : R = clIn [] dep := by rw [HST.out]; simp
    have HRS := Lib.hid hRS
    clear hRS HST
    gi_wp2_with fail
    refine ⟨trivial, (callsIn_wide.2 (upTo_any _ _ _ _ _ _ _ _ _ _ _ _ _ _ w4)).mono ?_⟩
    rintro e w6 ⟨SB, FB, rfl, hSB, hFB, kS6, kF6, b6⟩
    have l4 := kr4.out.lt
    have B6 := Lib.hid (B4.out.trans (b6.mono (by omega)))
    have kC6 := Lib.hid (kC4.out.below b6 kC4.out.lt)
    have ks6 := Lib.hid (ks4.out.below b6 ks4.out.lt)
    have ka6 := Lib.hid (ka4.out.below b6 ka4.out.lt)
    have kr6 := Lib.hid (kr4.out.below b6 kr4.out.lt)
    have lSB := kS6.lt
    have lFB := kF6.lt
    clear kC4 ks4 ka4 kr4 B4 s0 s1 s2 s3 s4 s5 s6 q0 q1 q2 q3 q4 r0 f0 b6 hSB hFB l4
    gi_wp2_with fail
    have hBw6 : Below w.heap.size w w6 := by have := B6.out; rw [HB.out] at this; exact this
    have h3 : B + 3 ≤ w6.heap.size := kr6.out.lt
    have hws : w.heap.size ≤ w6.heap.size := by rw [← HB.out]; omega
    refine wpIn_rangeFunc_ownH rfl (by omega) (gf := 111) (lb := #[.pointer (some ⟨SB, 0, none⟩), .pointer (some ⟨FB, 0, none⟩)]) rfl trivial (enters_of Tryz.func111 (by kernel_rfl) rfl)
      (those0_stops 5 0 (by omega) SB FB cap a (.map (some mb)) n x0 x1 x2 x3 (GoodT w6 n) w6 lSB kS6)
      belowK_t (belowK_b (Nat.le_refl _)) (Below.refl _ _) (fun _ => rfl)
      (fun pre W => (∀ y ∈ pre, leqB y.1.a.dep dep = true) ∧ Below w6.heap.size w6 W)
      (fun c pre W => (c = .ret ∧ ∃ y ∈ pre, leqB y.1.a.dep dep = false) ∧ Below B w W ∧ Blk W (B + 1 + 1) [.bool false])
      ?hI ?hIx ⟨by simp, Below.refl _ _⟩
      (fun x a' W => ∃ Bx, w6.heap.size ≤ Bx ∧ Blk W Bx (.int .i64 x.1.a.r :: [.int .i64 x.1.a.n, x.1.vd, .int .i64 x.1.a.actor, .int .i64 x.1.a.kind, .int .i64 x.1.a.to, .int .i64 x.1.a.bucket, .int .i64 x.1.a.mask, .int .i64 x.1.a.gr, .int .i64 x.1.a.gn, x.1.vs]) ∧ a' = { tmps := List.toArray (.agg #[.slice a 0 cap, .map (some mb), .int .i64 n, .int .i64 x0, .int .i64 x1, .int .i64 x2, .int .i64 x3] :: .agg #[.int .i64 r, .int .i64 nn, .slice da dep.length dc, .int .i64 actor, .int .i64 kind, .int .i64 dst, .int .i64 bucket, .int .i64 mask, .int .i64 gr, .int .i64 gn, .slice ua ups.length uc] :: .pointer (some ⟨B, 0, none⟩) :: .pointer (some ⟨B + 1, 0, none⟩) :: .pointer (some ⟨B + 1 + 1, 0, none⟩) :: .pointer (some ⟨P, 0, none⟩) :: .bool true :: .pointer (some ⟨Bx, 0, none⟩) :: .tuple #[.agg #[.int .i64 n, .int .i64 y0, .int .i64 y1, .int .i64 y2, .int .i64 y3], .bool true] :: .pointer (some ⟨B + 1, 2, none⟩) :: .slice da dep.length dc :: .tuple #[.agg #[.int .i64 n, .int .i64 y0, .int .i64 y1, .int .i64 y2, .int .i64 y3], .bool true] :: .agg #[.int .i64 n, .int .i64 y0, .int .i64 y1, .int .i64 y2, .int .i64 y3] :: .bool true :: .agg #[.int .i64 n, .int .i64 y0, .int .i64 y1, .int .i64 y2, .int .i64 y3] :: .pointer (some ⟨B, 2, none⟩) :: .agg #[.int .i64 n, .int .i64 x0, .int .i64 x1, .int .i64 x2, .int .i64 x3] :: .bool true :: .bool false :: .agg #[.slice a 0 cap, .map (some mb), .int .i64 n, .int .i64 x0, .int .i64 x1, .int .i64 x2, .int .i64 x3] :: .agg #[.int .i64 n, .int .i64 y0, .int .i64 y1, .int .i64 y2, .int .i64 y3] :: .func (.func 111) #[] #[.pointer (some ⟨SB, 0, none⟩), .pointer (some ⟨FB, 0, none⟩)] :: x.1.val :: undef :: undef :: undef :: undef :: undef :: undef :: []), defers := [] })
      ?hAx ?assign ?body ?done ?stop
    case hI => exact OwnFrom.and (fun _ _ _ _ h _ _ => h) (ownFrom_below (Nat.le_refl _) (Nat.le_refl _))
    case hIx =>
      intro c
      refine OwnFrom.and (fun _ _ _ _ h _ _ => h) (OwnFrom.and (ownFrom_below (Nat.le_of_eq HB.out) (by rw [HB.out]; exact hws)) (Blk.ownFrom kr6.out.lt))
    case hAx =>
      rintro x a' _ V V' row ⟨Bx, h1, h2, h3⟩ hg hr
      exact ⟨Bx, h1, Blk.cellsOwn (K := w6.heap.size) () V V' row h2 hg hr, h3⟩
    case assign =>
      rintro l pre ⟨⟨⟨r', n', dep', actor', kind', dst', bucket', mask', gr', gn', ups'⟩, vd', vs'⟩, hx⟩ V K hi hK
      obtain ⟨da', dc', hvd⟩ := ints_len hx.1.1
      obtain ⟨ua', uc', hvs⟩ := ups_len hx.1.2
      simp only at hvd hvs
      subst hvd
      subst hvs
      simp only [ActT.val]
      gi_wp2
      exact hK _ _ ((KeepsOthers.alloc _ _).from _) ((Below.refl _ V).alloc hi.2.size _) ⟨hi.1, hi.2.alloc hi.2.size _⟩ ⟨V.heap.size, hi.2.size, Blk.new V _ _, rfl⟩
    case body =>
      rintro l pre x a' V hl _ _ _ hlt'
      exact absurd hlt' (Nat.not_lt_zero _)
    case done =>
      rintro D zs V hD hS ⟨hpre, hbV⟩ hK
      have hcl : clIn [] dep = true := rfl
      have krV := kr6.out.below hbV kr6.out.lt
      have hwV := B6.out.trans (hbV.mono (by omega))
      have hRV : R = true := by rw [HRS.out, hcl]
      have r0 := krV.cell 0
      have f0 := krV.free 0
      simp only [List.getElem?_cons_zero] at r0
      gi_wp2_with fail
      subst hRV
      have hmk : ∀ E ∈ [D], (V.setCell ⟨B + 1 + 1, 0, none⟩ (.bool true)).heap[E]? = some (.deferred (some [])) := fun E hE => (KeepsOthers.setCell V ⟨B + 1 + 1, 0, none⟩ (.bool true)).same E _ (List.mem_singleton.1 hE ▸ hK) rfl
      refine leaves_marks [D] _ (List.nodup_cons.2 ⟨List.not_mem_nil, List.nodup_nil⟩) hmk (fun W' hW' => ?_)
      have hc5 := hW'.cell hmk (World.cell?_setCell_same' V ⟨B + 1 + 1, 0, none⟩ (.bool true) (by rw [r0]; rfl))
      refine ⟨.bool true, by simp [results, Tryz.f101, go_sem, hc5], rfl, ?_⟩
      rw [← HB.out]
      exact (hwV.setCell (p := ⟨B + 1 + 1, 0, none⟩) (by simp <;> omega) _).trans (hW'.below (fun E hE => by rw [List.mem_singleton.1 hE]; omega))
    case stop =>
      rintro D c pre V hD hSp ⟨⟨rfl, y, hy, hyf⟩, hbV, kV⟩ hK
      have hRF : R = false := by
        rw [HRS.out, clIn, ← HY.out.1, ← HY.out.2.1, ← HY.out.2.2.1, ← HY.out.2.2.2]
        refine List.all_eq_false.2 ⟨y.1, hSp.subset (List.mem_map_of_mem hy), by simp [hyf]⟩
      gi_wp2_with fail
      subst hRF
      have hmk : ∀ E ∈ [D], V.heap[E]? = some (.deferred (some [])) := fun E hE => List.mem_singleton.1 hE ▸ hK
      refine leaves_marks [D] _ (List.nodup_cons.2 ⟨List.not_mem_nil, List.nodup_nil⟩) hmk (fun W' hW' => ?_)
      have hc5 := hW'.cell hmk (kV.cell 0)
      refine ⟨.bool false, by simp [results, Tryz.f101, go_sem, hc5], rfl, ?_⟩
      rw [← HB.out]
      exact hbV.trans (hW'.below (fun E hE => by rw [List.mem_singleton.1 hE]; omega))

theorem clIn_has (ts : List ActT) (n : Nat) (p : ActM) (hok : ∀ t ∈ ts, actOkM t.a n = true) (hp : actOkM p n = true) : (leqB p.dep (clockM (ts.map ActT.a) n) && clIn ts p.dep) = hasAllM (ts.map ActT.a) n p := by
  unfold hasAllM
  congr 1
  have hd := ok_dep hp
  have hl := (okB_iff _).1 hd.1
  rw [clIn, List.all_filter, List.all_map]
  congr 1
  funext b
  simp only [Function.comp, knowsT, cx_ok hd.1]
  rw [four_getD p.dep hl.2.1]
theorem hasAllFor_any (v : Value) (ts : List ActT) (mb n : Nat) (w : World) (h : ActsT w v ts) (hlen : ts.length ≤ 60) (hn : n ≤ 4) (hok : ∀ t ∈ ts, actOkM t.a n = true)
    (hys : okB (clockM (ts.map ActT.a) n) = true) (x0 x1 x2 x3 : Int) (e0 : x0 = cx (clockM (ts.map ActT.a) n) 0) (e1 : x1 = cx (clockM (ts.map ActT.a) n) 1) (e2 : x2 = cx (clockM (ts.map ActT.a) n) 2) (e3 : x3 = cx (clockM (ts.map ActT.a) n) 3)
    (u : Value) (p : ActM) (hp : ActIs w u p) (hpo : actOkM p n = true) :
    Calls Tryz.prog 101 #[.agg #[v, .map (some mb), .int .i64 n, .int .i64 x0, .int .i64 x1, .int .i64 x2, .int .i64 x3], u] w fun e w' =>
      e = .returned (.bool (hasAllM (ts.map ActT.a) n p)) ∧ Below w.heap.size w w' := by
  obtain ⟨vd, vs, rfl, hd, hu⟩ := hp
  subst e0
  subst e1
  subst e2
  subst e3
  rw [← clIn_has ts n p hok hpo]
  rcases h.2 with ⟨a, cap, rfl, rfl⟩ | ⟨b, off, cap, rfl, q1, q2, q3, q4⟩
  · exact hasAllFor_nil a cap mb n _ ⟨p, vd, vs⟩ w hn hys (clockM_len _ _) ⟨⟨hd, hu⟩, hpo⟩
  · exact hasAllFor_some b off cap _ mb n _ ts ⟨p, vd, vs⟩ w rfl hlen hn q1 (fun t ht => ⟨h.1 t ht, hok t ht⟩) q4 hys (clockM_len _ _) ⟨⟨hd, hu⟩, hpo⟩
end Go.Proofs.YtkcfcmigcphjlaaGreat



namespace Go.Proofs.YtkcfcmigcphjlaaGreat
open Go.RowKit
set_option linter.unusedVariables false
set_option linter.unusedSimpArgs false

set_option maxRecDepth 100000 in
set_option maxHeartbeats 12800000 in
theorem takes_any (a : Option Addr) (cap mb m : Nat) (ts : List ActT) (L : Nat) (u : Value) (p : ActM) (w : World) (h : ActsT w (.slice a L cap) ts) (hL : ts.length = L) (hL60 : L ≤ 60) (hm1 : 1 ≤ m) (hm4 : m ≤ 4) (hok : ∀ t ∈ ts, actOkM t.a m = true)
    (hown : w.ownsMap Tryz.prog 91 (plainElem Tryz.prog 3) mb L (atD (ts.map ActT.a) 0 (.map []))) (hp : ActIs w u p) :
    Calls Tryz.prog 84 #[.agg #[.slice a L cap, .map (some mb), .int .i64 m, .int .i64 (cntM (ts.map ActT.a) 0), .int .i64 (cntM (ts.map ActT.a) 1), .int .i64 (cntM (ts.map ActT.a) 2), .int .i64 (cntM (ts.map ActT.a) 3)], u] w fun e w' => e = .returned (.bool (takesM (ts.map ActT.a) m p)) ∧ Below w.heap.size w w' := by
  have hokA : ∀ b ∈ ts.map ActT.a, actOkM b m = true := fun b hb => by obtain ⟨t, ht, rfl⟩ := List.mem_map.1 hb; exact hok t ht
  have hml : (ts.map ActT.a).length = L := by rw [List.length_map, hL]
  obtain ⟨hys, hx0, hx1, hx2, hx3⟩ := clock_counts (ts.map ActT.a) m hm1 hm4 (by omega) hokA
  obtain ⟨R, hR⟩ : ∃ R, R = takesM (ts.map ActT.a) m p := ⟨_, rfl⟩
  rw [← hR]
  have HT := Lib.hid hR
  have HLM := Lib.hid hml
  obtain ⟨da, dc, ua, uc, hu⟩ := act_shape hp
  obtain ⟨X, hX⟩ : ∃ X, X = actOkM p m := ⟨_, rfl⟩
  obtain ⟨Y, hY⟩ : ∃ Y, Y = hasM (ts.map ActT.a) p.r p.n := ⟨_, rfl⟩
  obtain ⟨Z, hZ⟩ : ∃ Z, Z = hasAllM (ts.map ActT.a) m p := ⟨_, rfl⟩
  have HX := Lib.hid hX
  have HY := Lib.hid hY
  have HZ := Lib.hid hZ
  have hb64 : X = true → I64 p.r ∧ I64 p.n := fun h => name_bounds (by rw [← hX]; exact h : actOkM p m = true)
  have AK := Lib.hid (fun W (hW : Below w.heap.size w W) => implActOk_any u p (m : Int) W (hp.below hW) (by omega))
  have NM := Lib.hid (fun W (hW : Below w.heap.size w W) => (show Calls Tryz.prog 60 #[u] W (NameMade W p) by
    obtain ⟨vd, vs, rfl, hd, hs⟩ := hp.below hW
    exact nameOf_any ⟨p, vd, vs⟩ W ⟨hd, hs⟩))
  have HS := Lib.hid (fun (hx : X = true) W (hW : Below w.heap.size w W) => has_any a L cap mb L m (cntM (ts.map ActT.a) 0) (cntM (ts.map ActT.a) 1) (cntM (ts.map ActT.a) 2) (cntM (ts.map ActT.a) 3) p.r p.n _ W (hown.kept (below_grown hW none) (by simp)) (hb64 hx).1 (hb64 hx).2)
  have hhas : ∀ hx : X = true, Maps.has (atD (ts.map ActT.a) 0 (.map [])) (nameL p.r p.n) = Y := fun hx => by
    rw [has_atD _ _ _ _ _ Maps.isMap_empty (fun b hb => name_bounds (hokA b hb)) (hb64 hx).1 (hb64 hx).2, hY]
    have : Maps.has (.map [] : DataW Unit) (nameL p.r p.n) = false := rfl
    rw [this, Bool.or_false]
    rfl
  have HA := Lib.hid (fun (hx : X = true) W (hW : Below w.heap.size w W) => hasAllFor_any (.slice a L cap) ts mb m W (h.below hW) (by omega) hm4 hok hys (cntM (ts.map ActT.a) 0) (cntM (ts.map ActT.a) 1) (cntM (ts.map ActT.a) 2) (cntM (ts.map ActT.a) 3) hx0 hx1 hx2 hx3 u p (hp.below hW) (by rw [← hX]; exact hx))
  obtain ⟨⟨r, nn, dep, actor, kind, dst, bucket, mask, gr, gn, ups⟩, hpp⟩ : ∃ x, p = x := ⟨_, rfl⟩
  simp only [hpp] at hu
  obtain ⟨dl, hdl⟩ : ∃ x, x = dep.length := ⟨_, rfl⟩
  obtain ⟨ul, hul⟩ : ∃ x, x = ups.length := ⟨_, rfl⟩
  rw [← hdl, ← hul] at hu
  subst hu
  simp only [← hX] at AK
  simp only [← hZ] at HA
  clear hR hY hZ hX hdl hul hys hx0 hx1 hx2 hx3 h hp hown hok hokA hml hL
  generalize (cntM (ts.map ActT.a) 0 : Int) = x0 at *
  generalize (cntM (ts.map ActT.a) 1 : Int) = x1 at *
  generalize (cntM (ts.map ActT.a) 2 : Int) = x2 at *
  generalize (cntM (ts.map ActT.a) 3 : Int) = x3 at *
  have kS : Blk ((w.alloc (.cells #[.slice a L cap, .map (some mb), .int .i64 m, .int .i64 x0, .int .i64 x1, .int .i64 x2, .int .i64 x3] 57)).alloc (.cells #[.int .i64 r, .int .i64 nn, .slice da dl dc, .int .i64 actor, .int .i64 kind, .int .i64 dst, .int .i64 bucket, .int .i64 mask, .int .i64 gr, .int .i64 gn, .slice ua ul uc] 33)) w.heap.size [.slice a L cap, .map (some mb), .int .i64 m, .int .i64 x0, .int .i64 x1, .int .i64 x2, .int .i64 x3] := (Blk.new w _ _).alloc _
  have kA : Blk ((w.alloc (.cells #[.slice a L cap, .map (some mb), .int .i64 m, .int .i64 x0, .int .i64 x1, .int .i64 x2, .int .i64 x3] 57)).alloc (.cells #[.int .i64 r, .int .i64 nn, .slice da dl dc, .int .i64 actor, .int .i64 kind, .int .i64 dst, .int .i64 bucket, .int .i64 mask, .int .i64 gr, .int .i64 gn, .slice ua ul uc] 33)) (w.heap.size + 1) [.int .i64 r, .int .i64 nn, .slice da dl dc, .int .i64 actor, .int .i64 kind, .int .i64 dst, .int .i64 bucket, .int .i64 mask, .int .i64 gr, .int .i64 gn, .slice ua ul uc] := by
    have := Blk.new (w.alloc (.cells #[.slice a L cap, .map (some mb), .int .i64 m, .int .i64 x0, .int .i64 x1, .int .i64 x2, .int .i64 x3] 57)) #[.int .i64 r, .int .i64 nn, .slice da dl dc, .int .i64 actor, .int .i64 kind, .int .i64 dst, .int .i64 bucket, .int .i64 mask, .int .i64 gr, .int .i64 gn, .slice ua ul uc] 33
    rw [World.size_alloc] at this
    exact this
  have b0 := ((Below.refl w.heap.size w).alloc (Nat.le_refl _) (.cells #[.slice a L cap, .map (some mb), .int .i64 m, .int .i64 x0, .int .i64 x1, .int .i64 x2, .int .i64 x3] 57)).alloc (by simp) (.cells #[.int .i64 r, .int .i64 nn, .slice da dl dc, .int .i64 actor, .int .i64 kind, .int .i64 dst, .int .i64 bucket, .int .i64 mask, .int .i64 gr, .int .i64 gn, .slice ua ul uc] 33)
  obtain ⟨AB, hAB⟩ : ∃ q, q = w.heap.size + 1 := ⟨_, rfl⟩
  obtain ⟨SB, hSB⟩ : ∃ q, q = w.heap.size := ⟨_, rfl⟩
  have HPN := Lib.hid (show nameV p.r p.n = nameV r nn by rw [hpp])
  go_enter Tryz.func84, Tryz.ntmps84
  go_upto_region 1 with (fail)
  rw [← hAB] at kA ⊢
  rw [← hSB] at kS ⊢
  generalize ((w.alloc (.cells #[.slice a L cap, .map (some mb), .int .i64 m, .int .i64 x0, .int .i64 x1, .int .i64 x2, .int .i64 x3] 57)).alloc (.cells #[.int .i64 r, .int .i64 nn, .slice da dl dc, .int .i64 actor, .int .i64 kind, .int .i64 dst, .int .i64 bucket, .int .i64 mask, .int .i64 gr, .int .i64 gn, .slice ua ul uc] 33)) = W0 at kS kA b0 ⊢
  clear hAB hSB
  have NM2 := Lib.hid (fun W (hW : Below w.heap.size w W) => (NM.out W hW).mono (R' := fun e w' => e = .returned (nameV r nn) ∧ Below W.heap.size W w') (fun e w' hh => by obtain ⟨h1, h2⟩ := hh; exact ⟨by rw [h1, HPN.out], h2⟩))
  clear NM
  have NM := NM2
  clear NM2
  by_cases h60 : L < 60
  rotate_left
  · have h60i : ¬ (L : Int) < 60 := by omega
    rw [← HLM.out] at h60
    have HR := Lib.hid (show R = false by rw [HT.out, takesM, decide_eq_false h60]; simp)
    refine wp_region_held_drew (S := fun w' => Below W0.heap.size W0 w') (by kernel_rfl) ((Below.refl W0.heap.size W0).drew) (fun hHeld => ?_)
    refine held_take (i := 0) (d := some 5) (v := ?_) rfl (by kernel_rfl) (by kernel_rfl) (by kernel_rfl) (by kernel_rfl) (fun _ _ _ h => h) (by kernel_rfl) ?_ hHeld ?_
    rotate_left
    · intro w' hSw
      go_simp
      first | done | with_reducible rfl
    simp only [Act.put, List.setIfInBounds_toArray, List.set_cons_zero, List.set_cons_succ]
    refine held_take (i := 1) (d := some 6) (v := ?_) rfl (by kernel_rfl) (by kernel_rfl) (by kernel_rfl) (by kernel_rfl) (fun _ _ _ h => h) (by kernel_rfl) ?_ hHeld ?_
    rotate_left
    · intro w' hSw
      have gS := kS.below hSw kS.lt
      have s0 := gS.cell 0
      have s1 := gS.cell 1
      have s2 := gS.cell 2
      have s3 := gS.cell 3
      have s4 := gS.cell 4
      have s5 := gS.cell 5
      have s6 := gS.cell 6
      simp only [List.getElem?_cons_zero, List.getElem?_cons_succ] at s0 s1 s2 s3 s4 s5 s6
      go_simp
      first | done | with_reducible rfl
    simp only [Act.put, List.setIfInBounds_toArray, List.set_cons_zero, List.set_cons_succ]
    refine held_take (i := 2) (d := some 7) (v := ?_) rfl (by kernel_rfl) (by kernel_rfl) (by kernel_rfl) (by kernel_rfl) (fun _ _ _ h => h) (by kernel_rfl) ?_ hHeld ?_
    rotate_left
    · intro w' hSw
      go_simp
      first | done | with_reducible rfl
    simp only [Act.put, List.setIfInBounds_toArray, List.set_cons_zero, List.set_cons_succ]
    refine held_take (i := 3) (d := some 8) (v := ?_) rfl (by kernel_rfl) (by kernel_rfl) (by kernel_rfl) (by kernel_rfl) (fun _ _ _ h => h) (by kernel_rfl) ?_ hHeld ?_
    rotate_left
    · intro w' hSw
      go_simp
      first | done | with_reducible rfl
    simp only [Act.put, List.setIfInBounds_toArray, List.set_cons_zero, List.set_cons_succ]
    refine held_take (i := 4) (d := some 9) (v := ?_) rfl (by kernel_rfl) (by kernel_rfl) (by kernel_rfl) (by kernel_rfl) (fun _ _ _ h => h) (by kernel_rfl) ?_ hHeld ?_
    rotate_left
    · intro w' hSw
      go_simp
      first | done | with_reducible rfl
    simp only [Act.put, List.setIfInBounds_toArray, List.set_cons_zero, List.set_cons_succ]
    refine held_skip (i := 5) (d := some 10) rfl (by kernel_rfl) (by kernel_rfl) (by kernel_rfl) (by kernel_rfl) (fun _ _ _ h => h) (by kernel_rfl) hHeld ?_
    simp only [Act.put, List.setIfInBounds_toArray, List.set_cons_zero, List.set_cons_succ]
    refine held_skip (i := 6) (d := some 11) rfl (by kernel_rfl) (by kernel_rfl) (by kernel_rfl) (by kernel_rfl) (fun _ _ _ h => h) (by kernel_rfl) hHeld ?_
    simp only [Act.put, List.setIfInBounds_toArray, List.set_cons_zero, List.set_cons_succ]
    refine held_skip (i := 7) (d := some 12) rfl (by kernel_rfl) (by kernel_rfl) (by kernel_rfl) (by kernel_rfl) (fun _ _ _ h => h) (by kernel_rfl) hHeld ?_
    simp only [Act.put, List.setIfInBounds_toArray, List.set_cons_zero, List.set_cons_succ]
    refine held_skip (i := 8) (d := some 13) rfl (by kernel_rfl) (by kernel_rfl) (by kernel_rfl) (by kernel_rfl) (fun _ _ _ h => h) (by kernel_rfl) hHeld ?_
    simp only [Act.put, List.setIfInBounds_toArray, List.set_cons_zero, List.set_cons_succ]
    refine held_skip (i := 9) (d := some 14) rfl (by kernel_rfl) (by kernel_rfl) (by kernel_rfl) (by kernel_rfl) (fun _ _ _ h => h) (by kernel_rfl) hHeld ?_
    simp only [Act.put, List.setIfInBounds_toArray, List.set_cons_zero, List.set_cons_succ]
    refine held_take (i := 10) (d := some 15) (v := ?_) rfl (by kernel_rfl) (by kernel_rfl) (by kernel_rfl) (by kernel_rfl) (fun _ _ _ h => h) (by kernel_rfl) ?_ hHeld ?_
    rotate_left
    · intro w' hSw
      go_simp
      first | done | with_reducible rfl
    simp only [Act.put, List.setIfInBounds_toArray, List.set_cons_zero, List.set_cons_succ]
    refine held_take (i := 11) (d := some 16) (v := ?_) rfl (by kernel_rfl) (by kernel_rfl) (by kernel_rfl) (by kernel_rfl) (fun _ _ _ h => h) (by kernel_rfl) ?_ hHeld ?_
    rotate_left
    · intro w' hSw
      go_simp
      first | done | with_reducible rfl
    simp only [Act.put, List.setIfInBounds_toArray, List.set_cons_zero, List.set_cons_succ]
    refine held_skip (i := 12) (d := some 17) rfl (by kernel_rfl) (by kernel_rfl) (by kernel_rfl) (by kernel_rfl) (fun _ _ _ h => h) (by kernel_rfl) hHeld ?_
    simp only [Act.put, List.setIfInBounds_toArray, List.set_cons_zero, List.set_cons_succ]
    refine held_skip (i := 13) (d := some 18) rfl (by kernel_rfl) (by kernel_rfl) (by kernel_rfl) (by kernel_rfl) (fun _ _ _ h => h) (by kernel_rfl) hHeld ?_
    simp only [Act.put, List.setIfInBounds_toArray, List.set_cons_zero, List.set_cons_succ]
    refine held_skip (i := 14) (d := some 19) rfl (by kernel_rfl) (by kernel_rfl) (by kernel_rfl) (by kernel_rfl) (fun _ _ _ h => h) (by kernel_rfl) hHeld ?_
    simp only [Act.put, List.setIfInBounds_toArray, List.set_cons_zero, List.set_cons_succ]
    refine held_skip (i := 15) (d := some 20) rfl (by kernel_rfl) (by kernel_rfl) (by kernel_rfl) (by kernel_rfl) (fun _ _ _ h => h) (by kernel_rfl) hHeld ?_
    simp only [Act.put, List.setIfInBounds_toArray, List.set_cons_zero, List.set_cons_succ]
    refine held_skip (i := 16) (d := some 21) rfl (by kernel_rfl) (by kernel_rfl) (by kernel_rfl) (by kernel_rfl) (fun _ _ _ h => h) (by kernel_rfl) hHeld ?_
    simp only [Act.put, List.setIfInBounds_toArray, List.set_cons_zero, List.set_cons_succ]
    refine held_take (i := 17) (d := some 22) (v := ?_) rfl (by kernel_rfl) (by kernel_rfl) (by kernel_rfl) (by kernel_rfl) (fun _ _ _ h => h) (by kernel_rfl) ?_ hHeld ?_
    rotate_left
    · intro w' hSw
      go_simp
      first | done | with_reducible rfl
    simp only [Act.put, List.setIfInBounds_toArray, List.set_cons_zero, List.set_cons_succ]
    refine held_take (i := 18) (d := some 23) (v := ?_) rfl (by kernel_rfl) (by kernel_rfl) (by kernel_rfl) (by kernel_rfl) (fun _ _ _ h => h) (by kernel_rfl) ?_ hHeld ?_
    rotate_left
    · intro w' hSw
      go_simp
      first | done | with_reducible rfl
    simp only [Act.put, List.setIfInBounds_toArray, List.set_cons_zero, List.set_cons_succ]
    refine held_skip (i := 19) (d := some 24) rfl (by kernel_rfl) (by kernel_rfl) (by kernel_rfl) (by kernel_rfl) (fun _ _ _ h => h) (by kernel_rfl) hHeld ?_
    simp only [Act.put, List.setIfInBounds_toArray, List.set_cons_zero, List.set_cons_succ]
    refine held_skip (i := 20) (d := some 25) rfl (by kernel_rfl) (by kernel_rfl) (by kernel_rfl) (by kernel_rfl) (fun _ _ _ h => h) (by kernel_rfl) hHeld ?_
    simp only [Act.put, List.setIfInBounds_toArray, List.set_cons_zero, List.set_cons_succ]
    refine held_skip (i := 21) (d := some 26) rfl (by kernel_rfl) (by kernel_rfl) (by kernel_rfl) (by kernel_rfl) (fun _ _ _ h => h) (by kernel_rfl) hHeld ?_
    simp only [Act.put, List.setIfInBounds_toArray, List.set_cons_zero, List.set_cons_succ]
    refine held_take (i := 22) (d := some 27) (v := ?_) rfl (by kernel_rfl) (by kernel_rfl) (by kernel_rfl) (by kernel_rfl) (fun _ _ _ h => h) (by kernel_rfl) ?_ hHeld ?_
    rotate_left
    · intro w' hSw
      go_simp
      first | done | with_reducible rfl
    simp only [Act.put, List.setIfInBounds_toArray, List.set_cons_zero, List.set_cons_succ]
    refine held_take (i := 23) (d := some 4) (v := ?_) rfl (by kernel_rfl) (by kernel_rfl) (by kernel_rfl) (by kernel_rfl) (fun _ _ _ h => h) (by kernel_rfl) ?_ hHeld ?_
    rotate_left
    · intro w' hSw
      go_simp
      first | done | with_reducible rfl
    simp only [Act.put, List.setIfInBounds_toArray, List.set_cons_zero, List.set_cons_succ]
    refine wpAnyH_done (by kernel_rfl) ?_ _
    go_wp2
    go_ret
    exact ⟨ret_bool HR.out.symm, b0.trans (hHeld.mono b0.size)⟩
  have h60i : (L : Int) < 60 := by omega
  cases X
  · clear HS HA hhas
    have HR := Lib.hid (show R = false by rw [HT.out, takesM, ← HX.out]; simp)
    refine wp_region_held_drew (S := fun w' => Below W0.heap.size W0 w') (by kernel_rfl) ((Below.refl W0.heap.size W0).drew) (fun hHeld => ?_)
    refine held_take (i := 0) (d := some 5) (v := ?_) rfl (by kernel_rfl) (by kernel_rfl) (by kernel_rfl) (by kernel_rfl) (fun _ _ _ h => h) (by kernel_rfl) ?_ hHeld ?_
    rotate_left
    · intro w' hSw
      go_simp
      first | done | with_reducible rfl
    simp only [Act.put, List.setIfInBounds_toArray, List.set_cons_zero, List.set_cons_succ]
    refine held_take (i := 1) (d := some 6) (v := ?_) rfl (by kernel_rfl) (by kernel_rfl) (by kernel_rfl) (by kernel_rfl) (fun _ _ _ h => h) (by kernel_rfl) ?_ hHeld ?_
    rotate_left
    · intro w' hSw
      have gS := kS.below hSw kS.lt
      have s0 := gS.cell 0
      have s1 := gS.cell 1
      have s2 := gS.cell 2
      have s3 := gS.cell 3
      have s4 := gS.cell 4
      have s5 := gS.cell 5
      have s6 := gS.cell 6
      simp only [List.getElem?_cons_zero, List.getElem?_cons_succ] at s0 s1 s2 s3 s4 s5 s6
      go_simp
      first | done | with_reducible rfl
    simp only [Act.put, List.setIfInBounds_toArray, List.set_cons_zero, List.set_cons_succ]
    refine held_take (i := 2) (d := some 7) (v := ?_) rfl (by kernel_rfl) (by kernel_rfl) (by kernel_rfl) (by kernel_rfl) (fun _ _ _ h => h) (by kernel_rfl) ?_ hHeld ?_
    rotate_left
    · intro w' hSw
      go_simp
      first | done | with_reducible rfl
    simp only [Act.put, List.setIfInBounds_toArray, List.set_cons_zero, List.set_cons_succ]
    refine held_take (i := 3) (d := some 8) (v := ?_) rfl (by kernel_rfl) (by kernel_rfl) (by kernel_rfl) (by kernel_rfl) (fun _ _ _ h => h) (by kernel_rfl) ?_ hHeld ?_
    rotate_left
    · intro w' hSw
      go_simp
      first | done | with_reducible rfl
    simp only [Act.put, List.setIfInBounds_toArray, List.set_cons_zero, List.set_cons_succ]
    refine held_take (i := 4) (d := some 9) (v := ?_) rfl (by kernel_rfl) (by kernel_rfl) (by kernel_rfl) (by kernel_rfl) (fun _ _ _ h => h) (by kernel_rfl) ?_ hHeld ?_
    rotate_left
    · intro w' hSw
      go_simp
      first | done | with_reducible rfl
    simp only [Act.put, List.setIfInBounds_toArray, List.set_cons_zero, List.set_cons_succ]
    refine held_take (i := 5) (d := some 10) (v := ?_) rfl (by kernel_rfl) (by kernel_rfl) (by kernel_rfl) (by kernel_rfl) (fun _ _ _ h => h) (by kernel_rfl) ?_ hHeld ?_
    rotate_left
    · intro w' hSw
      have gA := kA.below hSw kA.lt
      have c0 := gA.cell 0
      have c1 := gA.cell 1
      have c2 := gA.cell 2
      have c3 := gA.cell 3
      have c4 := gA.cell 4
      have c5 := gA.cell 5
      have c6 := gA.cell 6
      have c7 := gA.cell 7
      have c8 := gA.cell 8
      have c9 := gA.cell 9
      have c10 := gA.cell 10
      simp only [List.getElem?_cons_zero, List.getElem?_cons_succ] at c0 c1 c2 c3 c4 c5 c6 c7 c8 c9 c10
      go_simp
      first | done | with_reducible rfl
    simp only [Act.put, List.setIfInBounds_toArray, List.set_cons_zero, List.set_cons_succ]
    refine held_take (i := 6) (d := some 11) (v := ?_) rfl (by kernel_rfl) (by kernel_rfl) (by kernel_rfl) (by kernel_rfl) (fun _ _ _ h => h) (by kernel_rfl) ?_ hHeld ?_
    rotate_left
    · intro w' hSw
      go_simp
      first | done | with_reducible rfl
    simp only [Act.put, List.setIfInBounds_toArray, List.set_cons_zero, List.set_cons_succ]
    refine held_take (i := 7) (d := some 12) (v := ?_) rfl (by kernel_rfl) (by kernel_rfl) (by kernel_rfl) (by kernel_rfl) (fun _ _ _ h => h) (by kernel_rfl) ?_ hHeld ?_
    rotate_left
    · intro w' hSw
      go_simp
      first | done | with_reducible rfl
    simp only [Act.put, List.setIfInBounds_toArray, List.set_cons_zero, List.set_cons_succ]
    refine held_take (i := 8) (d := some 13) (v := ?_) rfl (by kernel_rfl) (by kernel_rfl) (by kernel_rfl) (by kernel_rfl) (fun _ _ _ h => h) (by kernel_rfl) ?_ hHeld ?_
    rotate_left
    · intro w' hSw
      have gS := kS.below hSw kS.lt
      have s0 := gS.cell 0
      have s1 := gS.cell 1
      have s2 := gS.cell 2
      have s3 := gS.cell 3
      have s4 := gS.cell 4
      have s5 := gS.cell 5
      have s6 := gS.cell 6
      simp only [List.getElem?_cons_zero, List.getElem?_cons_succ] at s0 s1 s2 s3 s4 s5 s6
      go_simp
      first | done | with_reducible rfl
    simp only [Act.put, List.setIfInBounds_toArray, List.set_cons_zero, List.set_cons_succ]
    refine wpAnyH_ready (rs := [9]) (by kernel_rfl) (by simp) ?_
    refine AllReadyH.cons rfl (fun K hK => ?_) AllReadyH.nil
    go_simp
    refine (AK.out _ (b0.trans (hHeld.mono b0.size))).mono ?_
    rintro e w1 ⟨rfl, b1⟩
    have D1 := hHeld.trans (b1.mono hHeld.size)
    go_simp
    refine hK.out _ _ (D1) (fun hHeld => ?_)
    clear hK K
    try simp only [Act.put, List.setIfInBounds_toArray, List.set_cons_zero, List.set_cons_succ]
    refine held_take (i := 10) (d := some 15) (v := ?_) rfl (by kernel_rfl) (by kernel_rfl) (by kernel_rfl) (by kernel_rfl) (fun _ _ _ h => h) (by kernel_rfl) ?_ hHeld ?_
    rotate_left
    · intro w' hSw
      go_simp
      first | done | with_reducible rfl
    simp only [Act.put, List.setIfInBounds_toArray, List.set_cons_zero, List.set_cons_succ]
    refine held_take (i := 11) (d := some 16) (v := ?_) rfl (by kernel_rfl) (by kernel_rfl) (by kernel_rfl) (by kernel_rfl) (fun _ _ _ h => h) (by kernel_rfl) ?_ hHeld ?_
    rotate_left
    · intro w' hSw
      go_simp
      first | done | with_reducible rfl
    simp only [Act.put, List.setIfInBounds_toArray, List.set_cons_zero, List.set_cons_succ]
    refine held_skip (i := 12) (d := some 17) rfl (by kernel_rfl) (by kernel_rfl) (by kernel_rfl) (by kernel_rfl) (fun _ _ _ h => h) (by kernel_rfl) hHeld ?_
    simp only [Act.put, List.setIfInBounds_toArray, List.set_cons_zero, List.set_cons_succ]
    refine held_skip (i := 13) (d := some 18) rfl (by kernel_rfl) (by kernel_rfl) (by kernel_rfl) (by kernel_rfl) (fun _ _ _ h => h) (by kernel_rfl) hHeld ?_
    simp only [Act.put, List.setIfInBounds_toArray, List.set_cons_zero, List.set_cons_succ]
    refine held_skip (i := 14) (d := some 19) rfl (by kernel_rfl) (by kernel_rfl) (by kernel_rfl) (by kernel_rfl) (fun _ _ _ h => h) (by kernel_rfl) hHeld ?_
    simp only [Act.put, List.setIfInBounds_toArray, List.set_cons_zero, List.set_cons_succ]
    refine held_skip (i := 15) (d := some 20) rfl (by kernel_rfl) (by kernel_rfl) (by kernel_rfl) (by kernel_rfl) (fun _ _ _ h => h) (by kernel_rfl) hHeld ?_
    simp only [Act.put, List.setIfInBounds_toArray, List.set_cons_zero, List.set_cons_succ]
    refine held_skip (i := 16) (d := some 21) rfl (by kernel_rfl) (by kernel_rfl) (by kernel_rfl) (by kernel_rfl) (fun _ _ _ h => h) (by kernel_rfl) hHeld ?_
    simp only [Act.put, List.setIfInBounds_toArray, List.set_cons_zero, List.set_cons_succ]
    refine held_take (i := 17) (d := some 22) (v := ?_) rfl (by kernel_rfl) (by kernel_rfl) (by kernel_rfl) (by kernel_rfl) (fun _ _ _ h => h) (by kernel_rfl) ?_ hHeld ?_
    rotate_left
    · intro w' hSw
      go_simp
      first | done | with_reducible rfl
    simp only [Act.put, List.setIfInBounds_toArray, List.set_cons_zero, List.set_cons_succ]
    refine held_take (i := 18) (d := some 23) (v := ?_) rfl (by kernel_rfl) (by kernel_rfl) (by kernel_rfl) (by kernel_rfl) (fun _ _ _ h => h) (by kernel_rfl) ?_ hHeld ?_
    rotate_left
    · intro w' hSw
      go_simp
      first | done | with_reducible rfl
    simp only [Act.put, List.setIfInBounds_toArray, List.set_cons_zero, List.set_cons_succ]
    refine held_skip (i := 19) (d := some 24) rfl (by kernel_rfl) (by kernel_rfl) (by kernel_rfl) (by kernel_rfl) (fun _ _ _ h => h) (by kernel_rfl) hHeld ?_
    simp only [Act.put, List.setIfInBounds_toArray, List.set_cons_zero, List.set_cons_succ]
    refine held_skip (i := 20) (d := some 25) rfl (by kernel_rfl) (by kernel_rfl) (by kernel_rfl) (by kernel_rfl) (fun _ _ _ h => h) (by kernel_rfl) hHeld ?_
    simp only [Act.put, List.setIfInBounds_toArray, List.set_cons_zero, List.set_cons_succ]
    refine held_skip (i := 21) (d := some 26) rfl (by kernel_rfl) (by kernel_rfl) (by kernel_rfl) (by kernel_rfl) (fun _ _ _ h => h) (by kernel_rfl) hHeld ?_
    simp only [Act.put, List.setIfInBounds_toArray, List.set_cons_zero, List.set_cons_succ]
    refine held_take (i := 22) (d := some 27) (v := ?_) rfl (by kernel_rfl) (by kernel_rfl) (by kernel_rfl) (by kernel_rfl) (fun _ _ _ h => h) (by kernel_rfl) ?_ hHeld ?_
    rotate_left
    · intro w' hSw
      go_simp
      first | done | with_reducible rfl
    simp only [Act.put, List.setIfInBounds_toArray, List.set_cons_zero, List.set_cons_succ]
    refine held_take (i := 23) (d := some 4) (v := ?_) rfl (by kernel_rfl) (by kernel_rfl) (by kernel_rfl) (by kernel_rfl) (fun _ _ _ h => h) (by kernel_rfl) ?_ hHeld ?_
    rotate_left
    · intro w' hSw
      go_simp
      first | done | with_reducible rfl
    simp only [Act.put, List.setIfInBounds_toArray, List.set_cons_zero, List.set_cons_succ]
    refine wpAnyH_done (by kernel_rfl) ?_ _
    go_wp2
    go_ret
    exact ⟨ret_bool HR.out.symm, b0.trans (D1.mono b0.size)⟩
  have HS2 := Lib.hid (HS.out rfl)
  have HA2 := Lib.hid (HA.out rfl)
  simp only [hhas rfl, HPN.out] at HS2
  clear HS HA hhas
  have HS := Lib.hid (fun W (hW : Below w.heap.size w W) => (HS2.out W hW))
  have HA := HA2
  clear HS2 HA2
  simp only [nameV] at HS
  cases Y
  rotate_left
  · have HR := Lib.hid (show R = false by rw [HT.out, takesM, ← HX.out, ← HY.out]; simp)
    refine wp_region_held_drew (S := fun w' => Below W0.heap.size W0 w') (by kernel_rfl) ((Below.refl W0.heap.size W0).drew) (fun hHeld => ?_)
    refine held_take (i := 0) (d := some 5) (v := ?_) rfl (by kernel_rfl) (by kernel_rfl) (by kernel_rfl) (by kernel_rfl) (fun _ _ _ h => h) (by kernel_rfl) ?_ hHeld ?_
    rotate_left
    · intro w' hSw
      go_simp
      first | done | with_reducible rfl
    simp only [Act.put, List.setIfInBounds_toArray, List.set_cons_zero, List.set_cons_succ]
    refine held_take (i := 1) (d := some 6) (v := ?_) rfl (by kernel_rfl) (by kernel_rfl) (by kernel_rfl) (by kernel_rfl) (fun _ _ _ h => h) (by kernel_rfl) ?_ hHeld ?_
    rotate_left
    · intro w' hSw
      have gS := kS.below hSw kS.lt
      have s0 := gS.cell 0
      have s1 := gS.cell 1
      have s2 := gS.cell 2
      have s3 := gS.cell 3
      have s4 := gS.cell 4
      have s5 := gS.cell 5
      have s6 := gS.cell 6
      simp only [List.getElem?_cons_zero, List.getElem?_cons_succ] at s0 s1 s2 s3 s4 s5 s6
      go_simp
      first | done | with_reducible rfl
    simp only [Act.put, List.setIfInBounds_toArray, List.set_cons_zero, List.set_cons_succ]
    refine held_take (i := 2) (d := some 7) (v := ?_) rfl (by kernel_rfl) (by kernel_rfl) (by kernel_rfl) (by kernel_rfl) (fun _ _ _ h => h) (by kernel_rfl) ?_ hHeld ?_
    rotate_left
    · intro w' hSw
      go_simp
      first | done | with_reducible rfl
    simp only [Act.put, List.setIfInBounds_toArray, List.set_cons_zero, List.set_cons_succ]
    refine held_take (i := 3) (d := some 8) (v := ?_) rfl (by kernel_rfl) (by kernel_rfl) (by kernel_rfl) (by kernel_rfl) (fun _ _ _ h => h) (by kernel_rfl) ?_ hHeld ?_
    rotate_left
    · intro w' hSw
      go_simp
      first | done | with_reducible rfl
    simp only [Act.put, List.setIfInBounds_toArray, List.set_cons_zero, List.set_cons_succ]
    refine held_take (i := 4) (d := some 9) (v := ?_) rfl (by kernel_rfl) (by kernel_rfl) (by kernel_rfl) (by kernel_rfl) (fun _ _ _ h => h) (by kernel_rfl) ?_ hHeld ?_
    rotate_left
    · intro w' hSw
      go_simp
      first | done | with_reducible rfl
    simp only [Act.put, List.setIfInBounds_toArray, List.set_cons_zero, List.set_cons_succ]
    refine held_take (i := 5) (d := some 10) (v := ?_) rfl (by kernel_rfl) (by kernel_rfl) (by kernel_rfl) (by kernel_rfl) (fun _ _ _ h => h) (by kernel_rfl) ?_ hHeld ?_
    rotate_left
    · intro w' hSw
      have gA := kA.below hSw kA.lt
      have c0 := gA.cell 0
      have c1 := gA.cell 1
      have c2 := gA.cell 2
      have c3 := gA.cell 3
      have c4 := gA.cell 4
      have c5 := gA.cell 5
      have c6 := gA.cell 6
      have c7 := gA.cell 7
      have c8 := gA.cell 8
      have c9 := gA.cell 9
      have c10 := gA.cell 10
      simp only [List.getElem?_cons_zero, List.getElem?_cons_succ] at c0 c1 c2 c3 c4 c5 c6 c7 c8 c9 c10
      go_simp
      first | done | with_reducible rfl
    simp only [Act.put, List.setIfInBounds_toArray, List.set_cons_zero, List.set_cons_succ]
    refine held_take (i := 6) (d := some 11) (v := ?_) rfl (by kernel_rfl) (by kernel_rfl) (by kernel_rfl) (by kernel_rfl) (fun _ _ _ h => h) (by kernel_rfl) ?_ hHeld ?_
    rotate_left
    · intro w' hSw
      go_simp
      first | done | with_reducible rfl
    simp only [Act.put, List.setIfInBounds_toArray, List.set_cons_zero, List.set_cons_succ]
    refine held_take (i := 7) (d := some 12) (v := ?_) rfl (by kernel_rfl) (by kernel_rfl) (by kernel_rfl) (by kernel_rfl) (fun _ _ _ h => h) (by kernel_rfl) ?_ hHeld ?_
    rotate_left
    · intro w' hSw
      go_simp
      first | done | with_reducible rfl
    simp only [Act.put, List.setIfInBounds_toArray, List.set_cons_zero, List.set_cons_succ]
    refine held_take (i := 8) (d := some 13) (v := ?_) rfl (by kernel_rfl) (by kernel_rfl) (by kernel_rfl) (by kernel_rfl) (fun _ _ _ h => h) (by kernel_rfl) ?_ hHeld ?_
    rotate_left
    · intro w' hSw
      have gS := kS.below hSw kS.lt
      have s0 := gS.cell 0
      have s1 := gS.cell 1
      have s2 := gS.cell 2
      have s3 := gS.cell 3
      have s4 := gS.cell 4
      have s5 := gS.cell 5
      have s6 := gS.cell 6
      simp only [List.getElem?_cons_zero, List.getElem?_cons_succ] at s0 s1 s2 s3 s4 s5 s6
      go_simp
      first | done | with_reducible rfl
    simp only [Act.put, List.setIfInBounds_toArray, List.set_cons_zero, List.set_cons_succ]
    refine wpAnyH_ready (rs := [9]) (by kernel_rfl) (by simp) ?_
    refine AllReadyH.cons rfl (fun K hK => ?_) AllReadyH.nil
    go_simp
    refine (AK.out _ (b0.trans (hHeld.mono b0.size))).mono ?_
    rintro e w1 ⟨rfl, b1⟩
    have D1 := hHeld.trans (b1.mono hHeld.size)
    go_simp
    refine hK.out _ _ (D1) (fun hHeld => ?_)
    clear hK K
    try simp only [Act.put, List.setIfInBounds_toArray, List.set_cons_zero, List.set_cons_succ]
    refine held_take (i := 10) (d := some 15) (v := ?_) rfl (by kernel_rfl) (by kernel_rfl) (by kernel_rfl) (by kernel_rfl) (fun _ _ _ h => h) (by kernel_rfl) ?_ hHeld ?_
    rotate_left
    · intro w' hSw
      go_simp
      first | done | with_reducible rfl
    simp only [Act.put, List.setIfInBounds_toArray, List.set_cons_zero, List.set_cons_succ]
    refine held_take (i := 11) (d := some 16) (v := ?_) rfl (by kernel_rfl) (by kernel_rfl) (by kernel_rfl) (by kernel_rfl) (fun _ _ _ h => h) (by kernel_rfl) ?_ hHeld ?_
    rotate_left
    · intro w' hSw
      go_simp
      first | done | with_reducible rfl
    simp only [Act.put, List.setIfInBounds_toArray, List.set_cons_zero, List.set_cons_succ]
    refine held_take (i := 12) (d := some 17) (v := ?_) rfl (by kernel_rfl) (by kernel_rfl) (by kernel_rfl) (by kernel_rfl) (fun _ _ _ h => h) (by kernel_rfl) ?_ hHeld ?_
    rotate_left
    · intro w' hSw
      have gS := kS.below hSw kS.lt
      have s0 := gS.cell 0
      have s1 := gS.cell 1
      have s2 := gS.cell 2
      have s3 := gS.cell 3
      have s4 := gS.cell 4
      have s5 := gS.cell 5
      have s6 := gS.cell 6
      simp only [List.getElem?_cons_zero, List.getElem?_cons_succ] at s0 s1 s2 s3 s4 s5 s6
      go_simp
      first | done | with_reducible rfl
    simp only [Act.put, List.setIfInBounds_toArray, List.set_cons_zero, List.set_cons_succ]
    refine held_take (i := 13) (d := some 18) (v := ?_) rfl (by kernel_rfl) (by kernel_rfl) (by kernel_rfl) (by kernel_rfl) (fun _ _ _ h => h) (by kernel_rfl) ?_ hHeld ?_
    rotate_left
    · intro w' hSw
      have gA := kA.below hSw kA.lt
      have c0 := gA.cell 0
      have c1 := gA.cell 1
      have c2 := gA.cell 2
      have c3 := gA.cell 3
      have c4 := gA.cell 4
      have c5 := gA.cell 5
      have c6 := gA.cell 6
      have c7 := gA.cell 7
      have c8 := gA.cell 8
      have c9 := gA.cell 9
      have c10 := gA.cell 10
      simp only [List.getElem?_cons_zero, List.getElem?_cons_succ] at c0 c1 c2 c3 c4 c5 c6 c7 c8 c9 c10
      go_simp
      first | done | with_reducible rfl
    simp only [Act.put, List.setIfInBounds_toArray, List.set_cons_zero, List.set_cons_succ]
    refine wpAnyH_ready (rs := [14]) (by kernel_rfl) (by simp) ?_
    refine AllReadyH.cons rfl (fun K hK => ?_) AllReadyH.nil
    go_simp
    refine (NM.out _ (b0.trans (hHeld.mono b0.size))).mono ?_
    rintro e w2 ⟨rfl, b2⟩
    have D2 := hHeld.trans (b2.mono hHeld.size)
    simp only [nameV]
    go_simp
    refine hK.out _ _ (D2) (fun hHeld => ?_)
    clear hK K
    try simp only [Act.put, List.setIfInBounds_toArray, List.set_cons_zero, List.set_cons_succ]
    refine wpAnyH_ready (rs := [15]) (by kernel_rfl) (by simp) ?_
    refine AllReadyH.cons rfl (fun K hK => ?_) AllReadyH.nil
    go_simp
    refine (HS.out _ (b0.trans (hHeld.mono b0.size))).mono ?_
    rintro e w3 ⟨rfl, b3⟩
    have D3 := hHeld.trans (b3.mono hHeld.size)
    go_simp
    refine hK.out _ _ (D3) (fun hHeld => ?_)
    clear hK K
    try simp only [Act.put, List.setIfInBounds_toArray, List.set_cons_zero, List.set_cons_succ]
    refine held_take (i := 16) (d := some 21) (v := ?_) rfl (by kernel_rfl) (by kernel_rfl) (by kernel_rfl) (by kernel_rfl) (fun _ _ _ h => h) (by kernel_rfl) ?_ hHeld ?_
    rotate_left
    · intro w' hSw
      go_simp
      first | done | with_reducible rfl
    simp only [Act.put, List.setIfInBounds_toArray, List.set_cons_zero, List.set_cons_succ]
    refine held_take (i := 17) (d := some 22) (v := ?_) rfl (by kernel_rfl) (by kernel_rfl) (by kernel_rfl) (by kernel_rfl) (fun _ _ _ h => h) (by kernel_rfl) ?_ hHeld ?_
    rotate_left
    · intro w' hSw
      go_simp
      first | done | with_reducible rfl
    simp only [Act.put, List.setIfInBounds_toArray, List.set_cons_zero, List.set_cons_succ]
    refine held_take (i := 18) (d := some 23) (v := ?_) rfl (by kernel_rfl) (by kernel_rfl) (by kernel_rfl) (by kernel_rfl) (fun _ _ _ h => h) (by kernel_rfl) ?_ hHeld ?_
    rotate_left
    · intro w' hSw
      go_simp
      first | done | with_reducible rfl
    simp only [Act.put, List.setIfInBounds_toArray, List.set_cons_zero, List.set_cons_succ]
    refine held_skip (i := 19) (d := some 24) rfl (by kernel_rfl) (by kernel_rfl) (by kernel_rfl) (by kernel_rfl) (fun _ _ _ h => h) (by kernel_rfl) hHeld ?_
    simp only [Act.put, List.setIfInBounds_toArray, List.set_cons_zero, List.set_cons_succ]
    refine held_skip (i := 20) (d := some 25) rfl (by kernel_rfl) (by kernel_rfl) (by kernel_rfl) (by kernel_rfl) (fun _ _ _ h => h) (by kernel_rfl) hHeld ?_
    simp only [Act.put, List.setIfInBounds_toArray, List.set_cons_zero, List.set_cons_succ]
    refine held_skip (i := 21) (d := some 26) rfl (by kernel_rfl) (by kernel_rfl) (by kernel_rfl) (by kernel_rfl) (fun _ _ _ h => h) (by kernel_rfl) hHeld ?_
    simp only [Act.put, List.setIfInBounds_toArray, List.set_cons_zero, List.set_cons_succ]
    refine held_take (i := 22) (d := some 27) (v := ?_) rfl (by kernel_rfl) (by kernel_rfl) (by kernel_rfl) (by kernel_rfl) (fun _ _ _ h => h) (by kernel_rfl) ?_ hHeld ?_
    rotate_left
    · intro w' hSw
      go_simp
      first | done | with_reducible rfl
    simp only [Act.put, List.setIfInBounds_toArray, List.set_cons_zero, List.set_cons_succ]
    refine held_take (i := 23) (d := some 4) (v := ?_) rfl (by kernel_rfl) (by kernel_rfl) (by kernel_rfl) (by kernel_rfl) (fun _ _ _ h => h) (by kernel_rfl) ?_ hHeld ?_
    rotate_left
    · intro w' hSw
      go_simp
      first | done | with_reducible rfl
    simp only [Act.put, List.setIfInBounds_toArray, List.set_cons_zero, List.set_cons_succ]
    refine wpAnyH_done (by kernel_rfl) ?_ _
    go_wp2
    go_ret
    exact ⟨ret_bool HR.out.symm, b0.trans (D3.mono b0.size)⟩
  · have HR := Lib.hid (show R = Z by rw [HT.out, takesM, ← HX.out, ← HY.out, ← HZ.out, HLM.out, decide_eq_true h60]; simp)
    refine wp_region_held_drew (S := fun w' => Below W0.heap.size W0 w') (by kernel_rfl) ((Below.refl W0.heap.size W0).drew) (fun hHeld => ?_)
    refine held_take (i := 0) (d := some 5) (v := ?_) rfl (by kernel_rfl) (by kernel_rfl) (by kernel_rfl) (by kernel_rfl) (fun _ _ _ h => h) (by kernel_rfl) ?_ hHeld ?_
    rotate_left
    · intro w' hSw
      go_simp
      first | done | with_reducible rfl
    simp only [Act.put, List.setIfInBounds_toArray, List.set_cons_zero, List.set_cons_succ]
    refine held_take (i := 1) (d := some 6) (v := ?_) rfl (by kernel_rfl) (by kernel_rfl) (by kernel_rfl) (by kernel_rfl) (fun _ _ _ h => h) (by kernel_rfl) ?_ hHeld ?_
    rotate_left
    · intro w' hSw
      have gS := kS.below hSw kS.lt
      have s0 := gS.cell 0
      have s1 := gS.cell 1
      have s2 := gS.cell 2
      have s3 := gS.cell 3
      have s4 := gS.cell 4
      have s5 := gS.cell 5
      have s6 := gS.cell 6
      simp only [List.getElem?_cons_zero, List.getElem?_cons_succ] at s0 s1 s2 s3 s4 s5 s6
      go_simp
      first | done | with_reducible rfl
    simp only [Act.put, List.setIfInBounds_toArray, List.set_cons_zero, List.set_cons_succ]
    refine held_take (i := 2) (d := some 7) (v := ?_) rfl (by kernel_rfl) (by kernel_rfl) (by kernel_rfl) (by kernel_rfl) (fun _ _ _ h => h) (by kernel_rfl) ?_ hHeld ?_
    rotate_left
    · intro w' hSw
      go_simp
      first | done | with_reducible rfl
    simp only [Act.put, List.setIfInBounds_toArray, List.set_cons_zero, List.set_cons_succ]
    refine held_take (i := 3) (d := some 8) (v := ?_) rfl (by kernel_rfl) (by kernel_rfl) (by kernel_rfl) (by kernel_rfl) (fun _ _ _ h => h) (by kernel_rfl) ?_ hHeld ?_
    rotate_left
    · intro w' hSw
      go_simp
      first | done | with_reducible rfl
    simp only [Act.put, List.setIfInBounds_toArray, List.set_cons_zero, List.set_cons_succ]
    refine held_take (i := 4) (d := some 9) (v := ?_) rfl (by kernel_rfl) (by kernel_rfl) (by kernel_rfl) (by kernel_rfl) (fun _ _ _ h => h) (by kernel_rfl) ?_ hHeld ?_
    rotate_left
    · intro w' hSw
      go_simp
      first | done | with_reducible rfl
    simp only [Act.put, List.setIfInBounds_toArray, List.set_cons_zero, List.set_cons_succ]
    refine held_take (i := 5) (d := some 10) (v := ?_) rfl (by kernel_rfl) (by kernel_rfl) (by kernel_rfl) (by kernel_rfl) (fun _ _ _ h => h) (by kernel_rfl) ?_ hHeld ?_
    rotate_left
    · intro w' hSw
      have gA := kA.below hSw kA.lt
      have c0 := gA.cell 0
      have c1 := gA.cell 1
      have c2 := gA.cell 2
      have c3 := gA.cell 3
      have c4 := gA.cell 4
      have c5 := gA.cell 5
      have c6 := gA.cell 6
      have c7 := gA.cell 7
      have c8 := gA.cell 8
      have c9 := gA.cell 9
      have c10 := gA.cell 10
      simp only [List.getElem?_cons_zero, List.getElem?_cons_succ] at c0 c1 c2 c3 c4 c5 c6 c7 c8 c9 c10
      go_simp
      first | done | with_reducible rfl
    simp only [Act.put, List.setIfInBounds_toArray, List.set_cons_zero, List.set_cons_succ]
    refine held_take (i := 6) (d := some 11) (v := ?_) rfl (by kernel_rfl) (by kernel_rfl) (by kernel_rfl) (by kernel_rfl) (fun _ _ _ h => h) (by kernel_rfl) ?_ hHeld ?_
    rotate_left
    · intro w' hSw
      go_simp
      first | done | with_reducible rfl
    simp only [Act.put, List.setIfInBounds_toArray, List.set_cons_zero, List.set_cons_succ]
    refine held_take (i := 7) (d := some 12) (v := ?_) rfl (by kernel_rfl) (by kernel_rfl) (by kernel_rfl) (by kernel_rfl) (fun _ _ _ h => h) (by kernel_rfl) ?_ hHeld ?_
    rotate_left
    · intro w' hSw
      go_simp
      first | done | with_reducible rfl
    simp only [Act.put, List.setIfInBounds_toArray, List.set_cons_zero, List.set_cons_succ]
    refine held_take (i := 8) (d := some 13) (v := ?_) rfl (by kernel_rfl) (by kernel_rfl) (by kernel_rfl) (by kernel_rfl) (fun _ _ _ h => h) (by kernel_rfl) ?_ hHeld ?_
    rotate_left
    · intro w' hSw
      have gS := kS.below hSw kS.lt
      have s0 := gS.cell 0
      have s1 := gS.cell 1
      have s2 := gS.cell 2
      have s3 := gS.cell 3
      have s4 := gS.cell 4
      have s5 := gS.cell 5
      have s6 := gS.cell 6
      simp only [List.getElem?_cons_zero, List.getElem?_cons_succ] at s0 s1 s2 s3 s4 s5 s6
      go_simp
      first | done | with_reducible rfl
    simp only [Act.put, List.setIfInBounds_toArray, List.set_cons_zero, List.set_cons_succ]
    refine wpAnyH_ready (rs := [9]) (by kernel_rfl) (by simp) ?_
    refine AllReadyH.cons rfl (fun K hK => ?_) AllReadyH.nil
    go_simp
    refine (AK.out _ (b0.trans (hHeld.mono b0.size))).mono ?_
    rintro e w1 ⟨rfl, b1⟩
    have D1 := hHeld.trans (b1.mono hHeld.size)
    go_simp
    refine hK.out _ _ (D1) (fun hHeld => ?_)
    clear hK K
    try simp only [Act.put, List.setIfInBounds_toArray, List.set_cons_zero, List.set_cons_succ]
    refine held_take (i := 10) (d := some 15) (v := ?_) rfl (by kernel_rfl) (by kernel_rfl) (by kernel_rfl) (by kernel_rfl) (fun _ _ _ h => h) (by kernel_rfl) ?_ hHeld ?_
    rotate_left
    · intro w' hSw
      go_simp
      first | done | with_reducible rfl
    simp only [Act.put, List.setIfInBounds_toArray, List.set_cons_zero, List.set_cons_succ]
    refine held_take (i := 11) (d := some 16) (v := ?_) rfl (by kernel_rfl) (by kernel_rfl) (by kernel_rfl) (by kernel_rfl) (fun _ _ _ h => h) (by kernel_rfl) ?_ hHeld ?_
    rotate_left
    · intro w' hSw
      go_simp
      first | done | with_reducible rfl
    simp only [Act.put, List.setIfInBounds_toArray, List.set_cons_zero, List.set_cons_succ]
    refine held_take (i := 12) (d := some 17) (v := ?_) rfl (by kernel_rfl) (by kernel_rfl) (by kernel_rfl) (by kernel_rfl) (fun _ _ _ h => h) (by kernel_rfl) ?_ hHeld ?_
    rotate_left
    · intro w' hSw
      have gS := kS.below hSw kS.lt
      have s0 := gS.cell 0
      have s1 := gS.cell 1
      have s2 := gS.cell 2
      have s3 := gS.cell 3
      have s4 := gS.cell 4
      have s5 := gS.cell 5
      have s6 := gS.cell 6
      simp only [List.getElem?_cons_zero, List.getElem?_cons_succ] at s0 s1 s2 s3 s4 s5 s6
      go_simp
      first | done | with_reducible rfl
    simp only [Act.put, List.setIfInBounds_toArray, List.set_cons_zero, List.set_cons_succ]
    refine held_take (i := 13) (d := some 18) (v := ?_) rfl (by kernel_rfl) (by kernel_rfl) (by kernel_rfl) (by kernel_rfl) (fun _ _ _ h => h) (by kernel_rfl) ?_ hHeld ?_
    rotate_left
    · intro w' hSw
      have gA := kA.below hSw kA.lt
      have c0 := gA.cell 0
      have c1 := gA.cell 1
      have c2 := gA.cell 2
      have c3 := gA.cell 3
      have c4 := gA.cell 4
      have c5 := gA.cell 5
      have c6 := gA.cell 6
      have c7 := gA.cell 7
      have c8 := gA.cell 8
      have c9 := gA.cell 9
      have c10 := gA.cell 10
      simp only [List.getElem?_cons_zero, List.getElem?_cons_succ] at c0 c1 c2 c3 c4 c5 c6 c7 c8 c9 c10
      go_simp
      first | done | with_reducible rfl
    simp only [Act.put, List.setIfInBounds_toArray, List.set_cons_zero, List.set_cons_succ]
    refine wpAnyH_ready (rs := [14]) (by kernel_rfl) (by simp) ?_
    refine AllReadyH.cons rfl (fun K hK => ?_) AllReadyH.nil
    go_simp
    refine (NM.out _ (b0.trans (hHeld.mono b0.size))).mono ?_
    rintro e w2 ⟨rfl, b2⟩
    have D2 := hHeld.trans (b2.mono hHeld.size)
    simp only [nameV]
    go_simp
    refine hK.out _ _ (D2) (fun hHeld => ?_)
    clear hK K
    try simp only [Act.put, List.setIfInBounds_toArray, List.set_cons_zero, List.set_cons_succ]
    refine wpAnyH_ready (rs := [15]) (by kernel_rfl) (by simp) ?_
    refine AllReadyH.cons rfl (fun K hK => ?_) AllReadyH.nil
    go_simp
    refine (HS.out _ (b0.trans (hHeld.mono b0.size))).mono ?_
    rintro e w3 ⟨rfl, b3⟩
    have D3 := hHeld.trans (b3.mono hHeld.size)
    go_simp
    refine hK.out _ _ (D3) (fun hHeld => ?_)
    clear hK K
    try simp only [Act.put, List.setIfInBounds_toArray, List.set_cons_zero, List.set_cons_succ]
    refine held_take (i := 16) (d := some 21) (v := ?_) rfl (by kernel_rfl) (by kernel_rfl) (by kernel_rfl) (by kernel_rfl) (fun _ _ _ h => h) (by kernel_rfl) ?_ hHeld ?_
    rotate_left
    · intro w' hSw
      go_simp
      first | done | with_reducible rfl
    simp only [Act.put, List.setIfInBounds_toArray, List.set_cons_zero, List.set_cons_succ]
    refine held_take (i := 17) (d := some 22) (v := ?_) rfl (by kernel_rfl) (by kernel_rfl) (by kernel_rfl) (by kernel_rfl) (fun _ _ _ h => h) (by kernel_rfl) ?_ hHeld ?_
    rotate_left
    · intro w' hSw
      go_simp
      first | done | with_reducible rfl
    simp only [Act.put, List.setIfInBounds_toArray, List.set_cons_zero, List.set_cons_succ]
    refine held_take (i := 18) (d := some 23) (v := ?_) rfl (by kernel_rfl) (by kernel_rfl) (by kernel_rfl) (by kernel_rfl) (fun _ _ _ h => h) (by kernel_rfl) ?_ hHeld ?_
    rotate_left
    · intro w' hSw
      go_simp
      first | done | with_reducible rfl
    simp only [Act.put, List.setIfInBounds_toArray, List.set_cons_zero, List.set_cons_succ]
    refine held_take (i := 19) (d := some 24) (v := ?_) rfl (by kernel_rfl) (by kernel_rfl) (by kernel_rfl) (by kernel_rfl) (fun _ _ _ h => h) (by kernel_rfl) ?_ hHeld ?_
    rotate_left
    · intro w' hSw
      have gS := kS.below hSw kS.lt
      have s0 := gS.cell 0
      have s1 := gS.cell 1
      have s2 := gS.cell 2
      have s3 := gS.cell 3
      have s4 := gS.cell 4
      have s5 := gS.cell 5
      have s6 := gS.cell 6
      simp only [List.getElem?_cons_zero, List.getElem?_cons_succ] at s0 s1 s2 s3 s4 s5 s6
      go_simp
      first | done | with_reducible rfl
    simp only [Act.put, List.setIfInBounds_toArray, List.set_cons_zero, List.set_cons_succ]
    refine held_take (i := 20) (d := some 25) (v := ?_) rfl (by kernel_rfl) (by kernel_rfl) (by kernel_rfl) (by kernel_rfl) (fun _ _ _ h => h) (by kernel_rfl) ?_ hHeld ?_
    rotate_left
    · intro w' hSw
      have gA := kA.below hSw kA.lt
      have c0 := gA.cell 0
      have c1 := gA.cell 1
      have c2 := gA.cell 2
      have c3 := gA.cell 3
      have c4 := gA.cell 4
      have c5 := gA.cell 5
      have c6 := gA.cell 6
      have c7 := gA.cell 7
      have c8 := gA.cell 8
      have c9 := gA.cell 9
      have c10 := gA.cell 10
      simp only [List.getElem?_cons_zero, List.getElem?_cons_succ] at c0 c1 c2 c3 c4 c5 c6 c7 c8 c9 c10
      go_simp
      first | done | with_reducible rfl
    simp only [Act.put, List.setIfInBounds_toArray, List.set_cons_zero, List.set_cons_succ]
    refine wpAnyH_ready (rs := [21]) (by kernel_rfl) (by simp) ?_
    refine AllReadyH.cons rfl (fun K hK => ?_) AllReadyH.nil
    go_simp
    refine (HA.out _ (b0.trans (hHeld.mono b0.size))).mono ?_
    rintro e w4 ⟨rfl, b4⟩
    have D4 := hHeld.trans (b4.mono hHeld.size)
    go_simp
    refine hK.out _ _ (D4) (fun hHeld => ?_)
    clear hK K
    try simp only [Act.put, List.setIfInBounds_toArray, List.set_cons_zero, List.set_cons_succ]
    refine held_take (i := 22) (d := some 27) (v := ?_) rfl (by kernel_rfl) (by kernel_rfl) (by kernel_rfl) (by kernel_rfl) (fun _ _ _ h => h) (by kernel_rfl) ?_ hHeld ?_
    rotate_left
    · intro w' hSw
      go_simp
      first | done | with_reducible rfl
    simp only [Act.put, List.setIfInBounds_toArray, List.set_cons_zero, List.set_cons_succ]
    refine held_take (i := 23) (d := some 4) (v := ?_) rfl (by kernel_rfl) (by kernel_rfl) (by kernel_rfl) (by kernel_rfl) (fun _ _ _ h => h) (by kernel_rfl) ?_ hHeld ?_
    rotate_left
    · intro w' hSw
      go_simp
      first | done | with_reducible rfl
    simp only [Act.put, List.setIfInBounds_toArray, List.set_cons_zero, List.set_cons_succ]
    refine wpAnyH_done (by kernel_rfl) ?_ _
    go_wp2
    go_ret
    exact ⟨ret_bool HR.out.symm, b0.trans (D4.mono b0.size)⟩
end Go.Proofs.YtkcfcmigcphjlaaGreat


namespace Go.Proofs.YtkcfcmigcphjlaaGreat
open Go.RowKit
set_option linter.unusedVariables false
set_option linter.unusedSimpArgs false

/-- a set whose acts lie in a row of its own -/
def WithMade (w : World) (l : List ActM) (n : Int) (e : Ending) (w' : World) : Prop := Below w.heap.size w w' ∧
  ∃ v mb, e = .returned (setVal v mb n l) ∧ Row w' w.heap.size v l ∧ w.heap.size ≤ mb ∧ w'.ownsMap Tryz.prog 91 (plainElem Tryz.prog 3) mb l.length (atD l 0 (.map []))
set_option maxRecDepth 100000 in
set_option maxHeartbeats 6400000 in
theorem with_any (a : Option Addr) (cap mb m : Nat) (ts : List ActT) (L : Nat) (x0 x1 x2 x3 : Int) (u : Value) (p : ActM) (w : World) (h : ActsT w (.slice a L cap) ts) (hL : ts.length = L) (hL60 : L < 60) (hm4 : m ≤ 4) (hok : ∀ t ∈ ts, actOkM t.a m = true)
    (hp : ActIs w u p) (hpo : actOkM p m = true) (hsl : SmallL (ts.map ActT.a)) :
    Calls Tryz.prog 85 #[.agg #[.slice a L cap, .map (some mb), .int .i64 m, .int .i64 x0, .int .i64 x1, .int .i64 x2, .int .i64 x3], u] w (WithMade w (insM (ts.map ActT.a) p) m) := by
  have hps : p.Small := ok_small hpo
  have hml : (ts.map ActT.a).length = L := by rw [List.length_map, hL]
  obtain ⟨NL, hNL⟩ : ∃ NL, NL = insM (ts.map ActT.a) p := ⟨_, rfl⟩
  have hNLl : NL.length = L + 1 := by rw [hNL, insM_len, hml]
  have hNLo : ∀ b ∈ NL, actOkM b m = true := fun b hb => by
    rw [hNL] at hb
    rcases insM_mem _ _ _ hb with rfl | hb
    · exact hpo
    · obtain ⟨t, ht, rfl⟩ := List.mem_map.1 hb
      exact hok t ht
  have CV := Lib.hid (fun W (hW : Below w.heap.size w W) G (k : Blk W G [.slice a L cap]) => copyVals_any (.slice a L cap) ts G W (h.below hW) hsl k)
  have PU := Lib.hid (fun W (hW : Below w.heap.size w W) lo v (hr : Row W lo v (ts.map ActT.a)) (hlo : lo ≤ W.heap.size) => put_any lo v u (ts.map ActT.a) p W hr hlo (by omega) (hp.below hW) hps)
  have SO := Lib.hid (fun W v lo (hr : Row W lo v NL) => (show Calls Tryz.prog 76 #[v, .int .i64 m] W (SetMade W v NL m) by
    obtain ⟨t2, cs, h1, h2, h3, h4, h5⟩ := hr
    rw [← h1]
    exact setOf_any v t2 m m W (Row.acts h2 h3) (by have := hNLl; rw [← h1, List.length_map] at this; omega) hm4 (fun t ht => hNLo _ (by rw [← h1]; exact List.mem_map_of_mem ht))))
  rw [← hNL] at PU ⊢
  have HP := Lib.hid hp
  obtain ⟨da, dc, ua, uc, hu⟩ := act_shape hp
  obtain ⟨⟨r, nn, dep, actor, kind, dst, bucket, mask, gr, gn, ups⟩, hpp⟩ : ∃ x, p = x := ⟨_, rfl⟩
  simp only [hpp] at hu
  obtain ⟨dl, hdl⟩ : ∃ x, x = dep.length := ⟨_, rfl⟩
  obtain ⟨ul, hul⟩ : ∃ x, x = ups.length := ⟨_, rfl⟩
  rw [← hdl, ← hul] at hu
  subst hu
  have HNL := Lib.hid hNLl
  clear hNL hNLl hNLo hps hml hdl hul h hp hok hpo hsl hpp hL
  have kS : Blk (((w.alloc (.cells #[.slice a L cap, .map (some mb), .int .i64 m, .int .i64 x0, .int .i64 x1, .int .i64 x2, .int .i64 x3] 57)).alloc (.cells #[.int .i64 r, .int .i64 nn, .slice da dl dc, .int .i64 actor, .int .i64 kind, .int .i64 dst, .int .i64 bucket, .int .i64 mask, .int .i64 gr, .int .i64 gn, .slice ua ul uc] 33)).alloc (.cells #[.slice none 0 0, .map none, .int .i64 0, .int .i64 0, .int .i64 0, .int .i64 0, .int .i64 0] 57)) w.heap.size [.slice a L cap, .map (some mb), .int .i64 m, .int .i64 x0, .int .i64 x1, .int .i64 x2, .int .i64 x3] := ((Blk.new w _ _).alloc _).alloc _
  have kA : Blk (((w.alloc (.cells #[.slice a L cap, .map (some mb), .int .i64 m, .int .i64 x0, .int .i64 x1, .int .i64 x2, .int .i64 x3] 57)).alloc (.cells #[.int .i64 r, .int .i64 nn, .slice da dl dc, .int .i64 actor, .int .i64 kind, .int .i64 dst, .int .i64 bucket, .int .i64 mask, .int .i64 gr, .int .i64 gn, .slice ua ul uc] 33)).alloc (.cells #[.slice none 0 0, .map none, .int .i64 0, .int .i64 0, .int .i64 0, .int .i64 0, .int .i64 0] 57)) (w.heap.size + 1) [.int .i64 r, .int .i64 nn, .slice da dl dc, .int .i64 actor, .int .i64 kind, .int .i64 dst, .int .i64 bucket, .int .i64 mask, .int .i64 gr, .int .i64 gn, .slice ua ul uc] := by
    have := (Blk.new (w.alloc (.cells #[.slice a L cap, .map (some mb), .int .i64 m, .int .i64 x0, .int .i64 x1, .int .i64 x2, .int .i64 x3] 57)) #[.int .i64 r, .int .i64 nn, .slice da dl dc, .int .i64 actor, .int .i64 kind, .int .i64 dst, .int .i64 bucket, .int .i64 mask, .int .i64 gr, .int .i64 gn, .slice ua ul uc] 33).alloc (.cells #[.slice none 0 0, .map none, .int .i64 0, .int .i64 0, .int .i64 0, .int .i64 0, .int .i64 0] 57)
    rw [World.size_alloc] at this
    exact this
  have kR : Blk (((w.alloc (.cells #[.slice a L cap, .map (some mb), .int .i64 m, .int .i64 x0, .int .i64 x1, .int .i64 x2, .int .i64 x3] 57)).alloc (.cells #[.int .i64 r, .int .i64 nn, .slice da dl dc, .int .i64 actor, .int .i64 kind, .int .i64 dst, .int .i64 bucket, .int .i64 mask, .int .i64 gr, .int .i64 gn, .slice ua ul uc] 33)).alloc (.cells #[.slice none 0 0, .map none, .int .i64 0, .int .i64 0, .int .i64 0, .int .i64 0, .int .i64 0] 57)) (w.heap.size + 1 + 1) [.slice none 0 0, .map none, .int .i64 0, .int .i64 0, .int .i64 0, .int .i64 0, .int .i64 0] := by
    have := Blk.new ((w.alloc (.cells #[.slice a L cap, .map (some mb), .int .i64 m, .int .i64 x0, .int .i64 x1, .int .i64 x2, .int .i64 x3] 57)).alloc (.cells #[.int .i64 r, .int .i64 nn, .slice da dl dc, .int .i64 actor, .int .i64 kind, .int .i64 dst, .int .i64 bucket, .int .i64 mask, .int .i64 gr, .int .i64 gn, .slice ua ul uc] 33)) #[.slice none 0 0, .map none, .int .i64 0, .int .i64 0, .int .i64 0, .int .i64 0, .int .i64 0] 57
    rw [World.size_alloc, World.size_alloc] at this
    exact this
  have b0 := (((Below.refl w.heap.size w).alloc (Nat.le_refl _) (.cells #[.slice a L cap, .map (some mb), .int .i64 m, .int .i64 x0, .int .i64 x1, .int .i64 x2, .int .i64 x3] 57)).alloc (by simp) (.cells #[.int .i64 r, .int .i64 nn, .slice da dl dc, .int .i64 actor, .int .i64 kind, .int .i64 dst, .int .i64 bucket, .int .i64 mask, .int .i64 gr, .int .i64 gn, .slice ua ul uc] 33)).alloc (by simp <;> omega) (.cells #[.slice none 0 0, .map none, .int .i64 0, .int .i64 0, .int .i64 0, .int .i64 0, .int .i64 0] 57)
  obtain ⟨SB, hSB⟩ : ∃ q, q = w.heap.size := ⟨_, rfl⟩
  go_enter Tryz.func85, Tryz.ntmps85
  go_upto_region 1 with (fail)
  rw [← hSB] at kS kA kR ⊢
  generalize (((w.alloc (.cells #[.slice a L cap, .map (some mb), .int .i64 m, .int .i64 x0, .int .i64 x1, .int .i64 x2, .int .i64 x3] 57)).alloc (.cells #[.int .i64 r, .int .i64 nn, .slice da dl dc, .int .i64 actor, .int .i64 kind, .int .i64 dst, .int .i64 bucket, .int .i64 mask, .int .i64 gr, .int .i64 gn, .slice ua ul uc] 33)).alloc (.cells #[.slice none 0 0, .map none, .int .i64 0, .int .i64 0, .int .i64 0, .int .i64 0, .int .i64 0] 57)) = W0 at kS kA kR b0 ⊢
  have HSB := Lib.hid hSB
  clear hSB
  refine wp_region_held_drew (S := fun w' => Blk w' SB [.slice a L cap, .map (some mb), .int .i64 m, .int .i64 x0, .int .i64 x1, .int .i64 x2, .int .i64 x3] ∧ Blk w' (SB + 1) [.int .i64 r, .int .i64 nn, .slice da dl dc, .int .i64 actor, .int .i64 kind, .int .i64 dst, .int .i64 bucket, .int .i64 mask, .int .i64 gr, .int .i64 gn, .slice ua ul uc]) (by kernel_rfl) (⟨kS.drew, kA.drew⟩) (fun hHeld => ?_)
  refine held_take (i := 0) (d := some 5) (v := ?_) rfl (by kernel_rfl) (by kernel_rfl) (by kernel_rfl) (by kernel_rfl) (fun _ _ _ h => h) (by kernel_rfl) ?_ hHeld ?_
  rotate_left
  · intro w' hSw
    go_simp
    first | done | with_reducible rfl
  simp only [Act.put, List.setIfInBounds_toArray, List.set_cons_zero, List.set_cons_succ]
  refine held_take (i := 1) (d := some 6) (v := ?_) rfl (by kernel_rfl) (by kernel_rfl) (by kernel_rfl) (by kernel_rfl) (fun _ _ _ h => h) (by kernel_rfl) ?_ hHeld ?_
  rotate_left
  · intro w' hSw
    have s0 := hSw.1.cell 0
    have s1 := hSw.1.cell 1
    have s2 := hSw.1.cell 2
    have s3 := hSw.1.cell 3
    have s4 := hSw.1.cell 4
    have s5 := hSw.1.cell 5
    have s6 := hSw.1.cell 6
    simp only [List.getElem?_cons_zero, List.getElem?_cons_succ] at s0 s1 s2 s3 s4 s5 s6
    go_simp
    first | done | with_reducible rfl
  simp only [Act.put, List.setIfInBounds_toArray, List.set_cons_zero, List.set_cons_succ]
  refine held_take (i := 4) (d := some 9) (v := ?_) rfl (by kernel_rfl) (by kernel_rfl) (by kernel_rfl) (by kernel_rfl) (fun _ _ _ h => h) (by kernel_rfl) ?_ hHeld ?_
  rotate_left
  · intro w' hSw
    have c0 := hSw.2.cell 0
    have c1 := hSw.2.cell 1
    have c2 := hSw.2.cell 2
    have c3 := hSw.2.cell 3
    have c4 := hSw.2.cell 4
    have c5 := hSw.2.cell 5
    have c6 := hSw.2.cell 6
    have c7 := hSw.2.cell 7
    have c8 := hSw.2.cell 8
    have c9 := hSw.2.cell 9
    have c10 := hSw.2.cell 10
    simp only [List.getElem?_cons_zero, List.getElem?_cons_succ] at c0 c1 c2 c3 c4 c5 c6 c7 c8 c9 c10
    go_simp
    first | done | with_reducible rfl
  simp only [Act.put, List.setIfInBounds_toArray, List.set_cons_zero, List.set_cons_succ]
  refine held_take (i := 6) (d := some 11) (v := ?_) rfl (by kernel_rfl) (by kernel_rfl) (by kernel_rfl) (by kernel_rfl) (fun _ _ _ h => h) (by kernel_rfl) ?_ hHeld ?_
  rotate_left
  · intro w' hSw
    go_simp
    first | done | with_reducible rfl
  simp only [Act.put, List.setIfInBounds_toArray, List.set_cons_zero, List.set_cons_succ]
  refine held_take (i := 7) (d := some 12) (v := ?_) rfl (by kernel_rfl) (by kernel_rfl) (by kernel_rfl) (by kernel_rfl) (fun _ _ _ h => h) (by kernel_rfl) ?_ hHeld ?_
  rotate_left
  · intro w' hSw
    go_simp
    first | done | with_reducible rfl
  simp only [Act.put, List.setIfInBounds_toArray, List.set_cons_zero, List.set_cons_succ]
  refine held_take (i := 8) (d := some 13) (v := ?_) rfl (by kernel_rfl) (by kernel_rfl) (by kernel_rfl) (by kernel_rfl) (fun _ _ _ h => h) (by kernel_rfl) ?_ hHeld ?_
  rotate_left
  · intro w' hSw
    have s0 := hSw.1.cell 0
    have s1 := hSw.1.cell 1
    have s2 := hSw.1.cell 2
    have s3 := hSw.1.cell 3
    have s4 := hSw.1.cell 4
    have s5 := hSw.1.cell 5
    have s6 := hSw.1.cell 6
    simp only [List.getElem?_cons_zero, List.getElem?_cons_succ] at s0 s1 s2 s3 s4 s5 s6
    go_simp
    first | done | with_reducible rfl
  simp only [Act.put, List.setIfInBounds_toArray, List.set_cons_zero, List.set_cons_succ]
  refine wpAnyH_ready (rs := [2]) (by kernel_rfl) (by simp) ?_
  refine AllReadyH.cons rfl (fun K hK => ?_) AllReadyH.nil
  go_simp
  refine (values_any a L cap _).mono ?_
  rintro e w1 ⟨G, rfl, hG, kG, b1⟩
  have kS1 := kS.drew.below b1 kS.lt
  have kA1 := kA.drew.below b1 kA.lt
  have kR1 := kR.drew.below b1 kR.lt
  have B1 := b0.drew.trans (b1.mono b0.size)
  refine hK.out _ _ (⟨kS1, kA1⟩) (fun hHeld => ?_)
  clear hK K
  try simp only [Act.put, List.setIfInBounds_toArray, List.set_cons_zero, List.set_cons_succ]
  refine wpAnyH_ready (rs := [3]) (by kernel_rfl) (by simp) ?_
  refine AllReadyH.cons rfl (fun K hK => ?_) AllReadyH.nil
  go_simp
  refine (CV.out w1 B1 G kG).mono ?_
  rintro e w2 ⟨v2, rfl, hr2, b2⟩
  have kS2 := kS1.below b2 kS1.lt
  have kA2 := kA1.below b2 kA1.lt
  have kR2 := kR1.below b2 kR1.lt
  have B2 := B1.trans (b2.mono B1.size)
  refine hK.out _ _ (⟨kS2, kA2⟩) (fun hHeld => ?_)
  clear hK K
  try simp only [Act.put, List.setIfInBounds_toArray, List.set_cons_zero, List.set_cons_succ]
  refine wpAnyH_ready (rs := [5]) (by kernel_rfl) (by simp) ?_
  refine AllReadyH.cons rfl (fun K hK => ?_) AllReadyH.nil
  go_simp
  refine (PU.out w2 B2 w1.heap.size v2 hr2 b2.size).mono ?_
  rintro e w3 ⟨v3, rfl, hr3, b3⟩
  have kS3 := kS2.below b3 kS1.lt
  have kA3 := kA2.below b3 kA1.lt
  have kR3 := kR2.below b3 kR1.lt
  have B3 := B2.trans (b3.mono B1.size)
  refine hK.out _ _ (⟨kS3, kA3⟩) (fun hHeld => ?_)
  clear hK K
  try simp only [Act.put, List.setIfInBounds_toArray, List.set_cons_zero, List.set_cons_succ]
  refine wpAnyH_ready (rs := [9]) (by kernel_rfl) (by simp) ?_
  refine AllReadyH.cons rfl (fun K hK => ?_) AllReadyH.nil
  go_simp
  refine (SO.out w3 v3 _ hr3).mono ?_
  rintro e w4 ⟨b4, M, hM, rfl, own4⟩
  have kS4 := kS3.below b4 kS3.lt
  have kA4 := kA3.below b4 kA3.lt
  have kR4 := kR3.below b4 kR3.lt
  have B4 := B3.trans (b4.mono B3.size)
  have hr4 := hr3.below b4
  obtain ⟨va3, vc3, hv3⟩ : ∃ x c, v3 = .slice x NL.length c := by
    obtain ⟨t2, cs, h1, h2, h3, h4, h5⟩ := hr3
    obtain ⟨x, c, hx⟩ := row_shape h2
    exact ⟨x, c, by rw [hx, ← h1, List.length_map]⟩
  simp only [setVal]
  try simp only [hv3]
  refine hK.out _ _ (⟨kS4, kA4⟩) (fun hHeld => ?_)
  clear hK K
  try simp only [Act.put, List.setIfInBounds_toArray, List.set_cons_zero, List.set_cons_succ]
  obtain ⟨c0, hc0⟩ : ∃ x : Int, x = (cntM NL 0 : Int) := ⟨_, rfl⟩
  obtain ⟨c1, hc1⟩ : ∃ x : Int, x = (cntM NL 1 : Int) := ⟨_, rfl⟩
  obtain ⟨c2, hc2⟩ : ∃ x : Int, x = (cntM NL 2 : Int) := ⟨_, rfl⟩
  obtain ⟨c3, hc3⟩ : ∃ x : Int, x = (cntM NL 3 : Int) := ⟨_, rfl⟩
  have HSV : Hid (setVal (.slice va3 NL.length vc3) M m NL = .agg #[.slice va3 NL.length vc3, .map (some M), .int .i64 m, .int .i64 c0, .int .i64 c1, .int .i64 c2, .int .i64 c3]) := by
    subst hc0 hc1 hc2 hc3
    exact rfl
  simp only [← hc0, ← hc1, ← hc2, ← hc3]
  refine wpAnyH_ready (rs := [10]) (by kernel_rfl) (by simp) ?_
  refine AllReadyH.cons rfl (fun K hK => ?_) AllReadyH.nil
  have hne : ∀ o, (⟨SB + 1 + 1, o, none⟩ : Addr).block ≠ SB := fun o => by simp; omega
  have hne2 : ∀ o, (⟨SB + 1 + 1, o, none⟩ : Addr).block ≠ SB + 1 := fun o => by simp
  have r0 := kR4.cell 0
  have r1 := kR4.cell 1
  have r2 := kR4.cell 2
  have r3 := kR4.cell 3
  have r4 := kR4.cell 4
  have r5 := kR4.cell 5
  have r6 := kR4.cell 6
  simp only [List.getElem?_cons_zero, List.getElem?_cons_succ] at r0 r1 r2 r3 r4 r5 r6
  have f0 := kR4.free
  clear hc0 hc1 hc2 hc3
  go_simp
  refine hK.out _ _ ⟨(((((((kS4.other (hne 0) _).other (hne 1) _).other (hne 2) _).other (hne 3) _).other (hne 4) _).other (hne 5) _).other (hne 6) _), (((((((kA4.other (hne2 0) _).other (hne2 1) _).other (hne2 2) _).other (hne2 3) _).other (hne2 4) _).other (hne2 5) _).other (hne2 6) _)⟩ (fun hHeld => ?_)
  clear hK K
  try simp only [Act.put, List.setIfInBounds_toArray, List.set_cons_zero, List.set_cons_succ]
  refine wpAnyH_done (by kernel_rfl) ?_ _
  go_wp2
  have hRlo : SB + 1 + 1 < w1.heap.size := kR1.lt
  have hRM : SB + 1 + 1 < M := Nat.lt_of_lt_of_le kR3.lt hM
  have hwl : w.heap.size ≤ SB + 1 + 1 := by have := HSB.out; omega
  have hMR : (some M : Option Nat) ≠ some (SB + 1 + 1) := by simp; omega
  refine bodyPost_ret (v := setVal (.slice va3 NL.length vc3) M m NL) (by rw [HSV.out]; simp [results, Tryz.results85, go_sem, r0, r1, r2, r3, r4, r5, r6]) rfl ⟨?_, .slice va3 NL.length vc3, M, rfl, ?_, by have := B3.size; omega, ?_⟩
  · exact ((((((B4.setCell (by simpa using hwl) _).setCell (by simpa using hwl) _).setCell (by simpa using hwl) _).setCell (by simpa using hwl) _).setCell (by simpa using hwl) _).setCell (by simpa using hwl) _).setCell (by simpa using hwl) _
  · rw [← hv3]
    exact (setCell_row (setCell_row (setCell_row (setCell_row (setCell_row (setCell_row (setCell_row hr4 hRlo 0 _) hRlo 1 _) hRlo 2 _) hRlo 3 _) hRlo 4 _) hRlo 5 _) hRlo 6 _).less B1.size
  · exact (((((((own4.kept (grown_set (SB + 1 + 1) 0 _) hMR).kept (grown_set (SB + 1 + 1) 1 _) hMR).kept (grown_set (SB + 1 + 1) 2 _) hMR).kept (grown_set (SB + 1 + 1) 3 _) hMR).kept (grown_set (SB + 1 + 1) 4 _) hMR).kept (grown_set (SB + 1 + 1) 5 _) hMR).kept (grown_set (SB + 1 + 1) 6 _) hMR)
end Go.Proofs.YtkcfcmigcphjlaaGreat

namespace Go.Proofs.YtkcfcmigcphjlaaGreat
open Go.RowKit
set_option linter.unusedVariables false
set_option linter.unusedSimpArgs false

def MoreMade (w : World) (l : List ActM) (n : Int) (p : ActM) (e : Ending) (w' : World) : Prop := Below w.heap.size w w' ∧
  ((∃ NL v mb, addM l n p = some NL ∧ e = .returned (.tuple #[setVal v mb n NL, .bool true]) ∧ Row w' w.heap.size v NL ∧ w.heap.size ≤ mb ∧ w'.ownsMap Tryz.prog 91 (plainElem Tryz.prog 3) mb NL.length (atD NL 0 (.map []))) ∨
   (addM l n p = none ∧ e = .returned (.tuple #[noSet, .bool false])))

set_option maxRecDepth 100000 in
set_option maxHeartbeats 6400000 in
theorem readMore_any (v : Value) (ts : List ActT) (n : Int) (u : Value) (p : ActM) (w : World) (h : ActsT w v ts) (hn : I64 n) (hp : ActIs w u p) : Calls Tryz.prog 51 #[v, .int .i64 n, u] w (MoreMade w (ts.map ActT.a) n p) := by
  obtain ⟨a, cap, rfl⟩ := actsT_len h
  obtain ⟨L, hL⟩ : ∃ L, L = ts.length := ⟨_, rfl⟩
  have RS := Lib.hid (fun W (hW : Below w.heap.size w W) => readSet_any (.slice a ts.length cap) ts n W (h.below hW) hn)
  rw [← hL] at RS h ⊢
  have TK := Lib.hid (fun (m mb : Nat) W (hW : Below w.heap.size w W) (h60 : L ≤ 60) (h1 : 1 ≤ m) (h4 : m ≤ 4) (hok : ∀ t ∈ ts, actOkM t.a m = true) (ho : W.ownsMap Tryz.prog 91 (plainElem Tryz.prog 3) mb L (atD (ts.map ActT.a) 0 (.map []))) => takes_any a cap mb m ts L u p W (h.below hW) hL.symm h60 h1 h4 hok ho (hp.below hW))
  have WI := Lib.hid (fun (m mb : Nat) x0 x1 x2 x3 W (hW : Below w.heap.size w W) (h60 : L < 60) (h4 : m ≤ 4) (hok : ∀ t ∈ ts, actOkM t.a m = true) (hpo : actOkM p m = true) (hsl : SmallL (ts.map ActT.a)) => with_any a cap mb m ts L x0 x1 x2 x3 u p W (h.below hW) hL.symm h60 h4 hok (hp.below hW) hpo hsl)
  have HL := Lib.hid hL
  obtain ⟨da, dc, ua, uc, hu⟩ := act_shape hp
  obtain ⟨⟨r, nn, dep, actor, kind, dst, bucket, mask, gr, gn, ups⟩, hpp⟩ : ∃ x, p = x := ⟨_, rfl⟩
  simp only [hpp] at hu
  obtain ⟨dl, hdl⟩ : ∃ x, x = dep.length := ⟨_, rfl⟩
  obtain ⟨ul, hul⟩ : ∃ x, x = ups.length := ⟨_, rfl⟩
  rw [← hdl, ← hul] at hu
  subst hu
  clear hpp hdl hul h hp hL
  have kA : Blk ((w.alloc (.cells #[.int .i64 r, .int .i64 nn, .slice da dl dc, .int .i64 actor, .int .i64 kind, .int .i64 dst, .int .i64 bucket, .int .i64 mask, .int .i64 gr, .int .i64 gn, .slice ua ul uc] 33)).alloc (.cells #[.slice none 0 0, .map none, .int .i64 0, .int .i64 0, .int .i64 0, .int .i64 0, .int .i64 0] 57)) w.heap.size [.int .i64 r, .int .i64 nn, .slice da dl dc, .int .i64 actor, .int .i64 kind, .int .i64 dst, .int .i64 bucket, .int .i64 mask, .int .i64 gr, .int .i64 gn, .slice ua ul uc] := (Blk.new w _ _).alloc _
  have kR : Blk ((w.alloc (.cells #[.int .i64 r, .int .i64 nn, .slice da dl dc, .int .i64 actor, .int .i64 kind, .int .i64 dst, .int .i64 bucket, .int .i64 mask, .int .i64 gr, .int .i64 gn, .slice ua ul uc] 33)).alloc (.cells #[.slice none 0 0, .map none, .int .i64 0, .int .i64 0, .int .i64 0, .int .i64 0, .int .i64 0] 57)) (w.heap.size + 1) [.slice none 0 0, .map none, .int .i64 0, .int .i64 0, .int .i64 0, .int .i64 0, .int .i64 0] := by
    have := Blk.new (w.alloc (.cells #[.int .i64 r, .int .i64 nn, .slice da dl dc, .int .i64 actor, .int .i64 kind, .int .i64 dst, .int .i64 bucket, .int .i64 mask, .int .i64 gr, .int .i64 gn, .slice ua ul uc] 33)) #[.slice none 0 0, .map none, .int .i64 0, .int .i64 0, .int .i64 0, .int .i64 0, .int .i64 0] 57
    rw [World.size_alloc] at this
    exact this
  have b0 := ((Below.refl w.heap.size w).alloc (Nat.le_refl _) (.cells #[.int .i64 r, .int .i64 nn, .slice da dl dc, .int .i64 actor, .int .i64 kind, .int .i64 dst, .int .i64 bucket, .int .i64 mask, .int .i64 gr, .int .i64 gn, .slice ua ul uc] 33)).alloc (by simp) (.cells #[.slice none 0 0, .map none, .int .i64 0, .int .i64 0, .int .i64 0, .int .i64 0, .int .i64 0] 57)
  obtain ⟨RB, hRB⟩ : ∃ q, q = w.heap.size + 1 := ⟨_, rfl⟩
  obtain ⟨AB, hAB⟩ : ∃ q, q = w.heap.size := ⟨_, rfl⟩
  have hwR : w.heap.size ≤ RB := by omega
  go_enter Tryz.func51, Tryz.ntmps51
  go_upto_region 1 with (fail)
  rw [← hRB] at kR ⊢
  rw [← hAB] at kA ⊢
  generalize ((w.alloc (.cells #[.int .i64 r, .int .i64 nn, .slice da dl dc, .int .i64 actor, .int .i64 kind, .int .i64 dst, .int .i64 bucket, .int .i64 mask, .int .i64 gr, .int .i64 gn, .slice ua ul uc] 33)).alloc (.cells #[.slice none 0 0, .map none, .int .i64 0, .int .i64 0, .int .i64 0, .int .i64 0, .int .i64 0] 57)) = W0 at kA kR b0 ⊢
  clear hRB hAB
  go_wp2_with fail
  refine (RS.out W0 b0).mono ?_
  rintro e w1 ⟨b1, (⟨hs, mb, hmb, rfl, own1⟩ | ⟨hs, rfl⟩)⟩
  rotate_left
  · have HN := Lib.hid (show addM (ts.map ActT.a) n p = none from add_no (by rw [hs]; decide))
    have B1 := b0.trans (b1.mono b0.size)
    have kR1 := kR.below b1 kR.lt
    clear hs RS TK WI kA kR b0 b1
    simp only [noSet]
    go_upto_region 2 with (fail)
    have b2 := (Below.refl w1.heap.size w1).alloc (Nat.le_refl _) (.cells #[.slice none 0 0, .map none, .int .i64 0, .int .i64 0, .int .i64 0, .int .i64 0, .int .i64 0] 57)
    have kR2 := kR1.below b2 kR1.lt
    have B2 := B1.trans (b2.mono B1.size)
    generalize w1.alloc (.cells #[.slice none 0 0, .map none, .int .i64 0, .int .i64 0, .int .i64 0, .int .i64 0, .int .i64 0] 57) = w2 at kR2 B2 ⊢
    clear b2 kR1 B1
    have z0 := kR2.cell 0
    have z1 := kR2.cell 1
    have z2 := kR2.cell 2
    have z3 := kR2.cell 3
    have z4 := kR2.cell 4
    have z5 := kR2.cell 5
    have z6 := kR2.cell 6
    simp only [List.getElem?_cons_zero, List.getElem?_cons_succ] at z0 z1 z2 z3 z4 z5 z6
    have f0 := kR2.free
    go_wp2_with fail
    refine bodyPost_ret (v := .tuple #[noSet, .bool false]) (by simp [results, Tryz.results51, go_sem, noSet, z0, z1, z2, z3, z4, z5, z6]) rfl ⟨?_, .inr ⟨HN.out, rfl⟩⟩
    exact ((((((B2.setCell (by simpa using hwR) _).setCell (by simpa using hwR) _).setCell (by simpa using hwR) _).setCell (by simpa using hwR) _).setCell (by simpa using hwR) _).setCell (by simpa using hwR) _).setCell (by simpa using hwR) _
  · have B1 := b0.trans (b1.mono b0.size)
    have kR1 := kR.below b1 kR.lt
    have kA1 := kA.below b1 kA.lt
    obtain ⟨m, hm, hm1, hm4, hl60, ho, hc, hcl⟩ := setOk_parts hs
    have hokA := order_all _ none ho
    have hok : ∀ t ∈ ts, actOkM t.a m = true := fun t ht => hokA _ (List.mem_map_of_mem ht)
    have hLL : (ts.map ActT.a).length = L := by rw [List.length_map, HL.out]
    rw [hLL] at own1 hl60
    subst hm
    have HAD := Lib.hid (add_prog (a := p) hs)
    have HPW := Lib.hid (((order_iff _ none).1 ho).2.1)
    have hsm := setOk_small hs
    simp only [setVal]
    go_upto_region 2 with (fail)
    have kS := Blk.new w1 #[.slice a L cap, .map (some mb), .int .i64 m, .int .i64 (cntM (ts.map ActT.a) 0), .int .i64 (cntM (ts.map ActT.a) 1), .int .i64 (cntM (ts.map ActT.a) 2), .int .i64 (cntM (ts.map ActT.a) 3)] 57
    have own2 := own1.alloc (.cells #[.slice a L cap, .map (some mb), .int .i64 m, .int .i64 (cntM (ts.map ActT.a) 0), .int .i64 (cntM (ts.map ActT.a) 1), .int .i64 (cntM (ts.map ActT.a) 2), .int .i64 (cntM (ts.map ActT.a) 3)] 57)
    have b2 := (Below.refl w1.heap.size w1).alloc (Nat.le_refl _) (.cells #[.slice a L cap, .map (some mb), .int .i64 m, .int .i64 (cntM (ts.map ActT.a) 0), .int .i64 (cntM (ts.map ActT.a) 1), .int .i64 (cntM (ts.map ActT.a) 2), .int .i64 (cntM (ts.map ActT.a) 3)] 57)
    have kR2 := kR1.below b2 kR1.lt
    have kA2 := kA1.below b2 kA1.lt
    have B2 := B1.trans (b2.mono B1.size)
    obtain ⟨SB, hSB⟩ : ∃ q, q = w1.heap.size := ⟨_, rfl⟩
    rw [← hSB] at kS ⊢
    generalize w1.alloc (.cells #[.slice a L cap, .map (some mb), .int .i64 m, .int .i64 (cntM (ts.map ActT.a) 0), .int .i64 (cntM (ts.map ActT.a) 1), .int .i64 (cntM (ts.map ActT.a) 2), .int .i64 (cntM (ts.map ActT.a) 3)] 57) = w2 at kS own2 kR2 kA2 B2 ⊢
    have T2 := Lib.hid (TK.out m mb w2 B2 hl60 hm1 hm4 hok own2)
    have W2 := Lib.hid (fun W (hW : Below w.heap.size w W) (ht : takesM (ts.map ActT.a) m p = true) => WI.out m mb (cntM (ts.map ActT.a) 0) (cntM (ts.map ActT.a) 1) (cntM (ts.map ActT.a) 2) (cntM (ts.map ActT.a) 3) W hW (by simp only [takesM, Bool.and_eq_true, decide_eq_true_eq] at ht; omega) hm4 hok (by simp only [takesM, Bool.and_eq_true] at ht; exact ht.1.1.2) hsm)
    obtain ⟨T, hT⟩ : ∃ T, T = takesM (ts.map ActT.a) m p := ⟨_, rfl⟩
    rw [← hT] at T2
    have HTT := Lib.hid hT
    clear hs own1 b1 kR kA b0 kR1 kA1 B1 b2 hSB hok hokA ho hc hcl hsm RS TK WI hT own2 hmb
    generalize (cntM (ts.map ActT.a) 0 : Int) = x0 at *
    generalize (cntM (ts.map ActT.a) 1 : Int) = x1 at *
    generalize (cntM (ts.map ActT.a) 2 : Int) = x2 at *
    generalize (cntM (ts.map ActT.a) 3 : Int) = x3 at *
    have s0 := kS.cell 0
    have s1 := kS.cell 1
    have s2 := kS.cell 2
    have s3 := kS.cell 3
    have s4 := kS.cell 4
    have s5 := kS.cell 5
    have s6 := kS.cell 6
    simp only [List.getElem?_cons_zero, List.getElem?_cons_succ] at s0 s1 s2 s3 s4 s5 s6
    have c0 := kA2.cell 0
    have c1 := kA2.cell 1
    have c2 := kA2.cell 2
    have c3 := kA2.cell 3
    have c4 := kA2.cell 4
    have c5 := kA2.cell 5
    have c6 := kA2.cell 6
    have c7 := kA2.cell 7
    have c8 := kA2.cell 8
    have c9 := kA2.cell 9
    have c10 := kA2.cell 10
    simp only [List.getElem?_cons_zero, List.getElem?_cons_succ] at c0 c1 c2 c3 c4 c5 c6 c7 c8 c9 c10
    go_wp2_with fail
    refine T2.out.mono ?_
    rintro e w3 ⟨rfl, b3⟩
    have kS3 := Lib.hid (kS.below b3 kS.lt)
    have kA3 := Lib.hid (kA2.below b3 kA2.lt)
    have kR3 := Lib.hid (kR2.below b3 kR2.lt)
    have B3 := Lib.hid (B2.trans (b3.mono B2.size))
    clear s0 s1 s2 s3 s4 s5 s6 c0 c1 c2 c3 c4 c5 c6 c7 c8 c9 c10 kS kA2 kR2 B2 b3 T2
    cases T
    · have HN := Lib.hid (show addM (ts.map ActT.a) m p = none by rw [HAD.out, if_neg (by rw [← HTT.out]; decide)])
      have z0 := kR3.out.cell 0
      have z1 := kR3.out.cell 1
      have z2 := kR3.out.cell 2
      have z3 := kR3.out.cell 3
      have z4 := kR3.out.cell 4
      have z5 := kR3.out.cell 5
      have z6 := kR3.out.cell 6
      simp only [List.getElem?_cons_zero, List.getElem?_cons_succ] at z0 z1 z2 z3 z4 z5 z6
      have f0 := kR3.out.free
      go_wp2_with fail
      refine bodyPost_ret (v := .tuple #[noSet, .bool false]) (by simp [results, Tryz.results51, go_sem, noSet, z0, z1, z2, z3, z4, z5, z6]) rfl ⟨?_, .inr ⟨HN.out, rfl⟩⟩
      exact ((((((B3.out.setCell (by simpa using hwR) _).setCell (by simpa using hwR) _).setCell (by simpa using hwR) _).setCell (by simpa using hwR) _).setCell (by simpa using hwR) _).setCell (by simpa using hwR) _).setCell (by simpa using hwR) _
    · have HS := Lib.hid (show addM (ts.map ActT.a) m p = some (insM (ts.map ActT.a) p) by rw [HAD.out, if_pos HTT.out.symm, insM_put HPW.out])
      have s0 := kS3.out.cell 0
      have s1 := kS3.out.cell 1
      have s2 := kS3.out.cell 2
      have s3 := kS3.out.cell 3
      have s4 := kS3.out.cell 4
      have s5 := kS3.out.cell 5
      have s6 := kS3.out.cell 6
      simp only [List.getElem?_cons_zero, List.getElem?_cons_succ] at s0 s1 s2 s3 s4 s5 s6
      have c0 := kA3.out.cell 0
      have c1 := kA3.out.cell 1
      have c2 := kA3.out.cell 2
      have c3 := kA3.out.cell 3
      have c4 := kA3.out.cell 4
      have c5 := kA3.out.cell 5
      have c6 := kA3.out.cell 6
      have c7 := kA3.out.cell 7
      have c8 := kA3.out.cell 8
      have c9 := kA3.out.cell 9
      have c10 := kA3.out.cell 10
      simp only [List.getElem?_cons_zero, List.getElem?_cons_succ] at c0 c1 c2 c3 c4 c5 c6 c7 c8 c9 c10
      go_wp2_with fail
      refine (W2.out w3 B3.out HTT.out.symm).mono ?_
      rintro e w4 ⟨b4, v4, M, rfl, hr4, hM, own4⟩
      have kR4 := Lib.hid (kR3.out.below b4 kR3.out.lt)
      have B4 := Lib.hid (B3.out.trans (b4.mono B3.out.size))
      have hRlo : RB < w3.heap.size := kR3.out.lt
      have HR4 := Lib.hid hr4
      have OW4 := Lib.hid own4
      clear s0 s1 s2 s3 s4 s5 s6 c0 c1 c2 c3 c4 c5 c6 c7 c8 c9 c10 b4 kS3 kA3 W2
      obtain ⟨NL, hNL⟩ : ∃ NL, NL = insM (ts.map ActT.a) p := ⟨_, rfl⟩
      rw [← hNL] at HS HR4 OW4 ⊢
      obtain ⟨va4, vc4, hv4⟩ : ∃ x c, v4 = .slice x NL.length c := by
        obtain ⟨t2, cs, h1, h2, h3, h4, h5⟩ := HR4.out
        obtain ⟨x, c, hx⟩ := row_shape h2
        exact ⟨x, c, by rw [hx, ← h1, List.length_map]⟩
      subst hv4
      simp only [setVal]
      have HSV : Hid (setVal (.slice va4 NL.length vc4) M m NL = .agg #[.slice va4 NL.length vc4, .map (some M), .int .i64 m, .int .i64 (cntM NL 0), .int .i64 (cntM NL 1), .int .i64 (cntM NL 2), .int .i64 (cntM NL 3)]) := rfl
      have z0 := kR4.out.cell 0
      have z1 := kR4.out.cell 1
      have z2 := kR4.out.cell 2
      have z3 := kR4.out.cell 3
      have z4 := kR4.out.cell 4
      have z5 := kR4.out.cell 5
      have z6 := kR4.out.cell 6
      simp only [List.getElem?_cons_zero, List.getElem?_cons_succ] at z0 z1 z2 z3 z4 z5 z6
      have f0 := kR4.out.free
      clear hNL hr4 own4
      go_wp2_with fail
      have hMR : (some M : Option Nat) ≠ some RB := by simp; omega
      refine bodyPost_ret (v := .tuple #[setVal (.slice va4 NL.length vc4) M m NL, .bool true]) (by rw [HSV.out]; simp [results, Tryz.results51, go_sem, z0, z1, z2, z3, z4, z5, z6]) rfl ⟨?_, .inl ⟨NL, .slice va4 NL.length vc4, M, HS.out, rfl, ?_, by have := B3.out.size; omega, ?_⟩⟩
      · exact ((((((B4.out.setCell (by simpa using hwR) _).setCell (by simpa using hwR) _).setCell (by simpa using hwR) _).setCell (by simpa using hwR) _).setCell (by simpa using hwR) _).setCell (by simpa using hwR) _).setCell (by simpa using hwR) _
      · exact (setCell_row (setCell_row (setCell_row (setCell_row (setCell_row (setCell_row (setCell_row HR4.out hRlo 0 _) hRlo 1 _) hRlo 2 _) hRlo 3 _) hRlo 4 _) hRlo 5 _) hRlo 6 _).less B3.out.size
      · exact (((((((OW4.out.kept (grown_set RB 0 _) hMR).kept (grown_set RB 1 _) hMR).kept (grown_set RB 2 _) hMR).kept (grown_set RB 3 _) hMR).kept (grown_set RB 4 _) hMR).kept (grown_set RB 5 _) hMR).kept (grown_set RB 6 _) hMR)

def addL (l : List ActM) (n : Int) (p : ActM) : List ActM := (addM l n p).getD []
def addB (l : List ActM) (n : Int) (p : ActM) : Bool := (addM l n p).isSome
set_option maxRecDepth 100000 in
set_option maxHeartbeats 6400000 in
theorem implAddAct_any (v : Value) (l : List ActM) (n : Int) (u : Value) (p : ActM) (w : World) (h : Acts w v l) (hn : I64 n) (hp : ActIs w u p) : Calls Tryz.prog 17 #[v, .int .i64 n, u] w (RetLB w (addL l n p) (addB l n p)) := by
  obtain ⟨ts, rfl, ht⟩ := h
  obtain ⟨va0, vc0, hv0⟩ := actsT_len ht
  have RM := Lib.hid (fun W (hW : Below w.heap.size w W) => readMore_any v ts n u p W (ht.below hW) hn (hp.below hW))
  obtain ⟨da, dc, ua, uc, hu⟩ := act_shape hp
  rw [hu] at RM ⊢
  rw [hv0] at RM ⊢
  obtain ⟨⟨r, nn, dep, actor, kind, dst, bucket, mask, gr, gn, ups⟩, hpp⟩ : ∃ x, p = x := ⟨_, rfl⟩
  obtain ⟨L0, hL0⟩ : ∃ x, x = ts.length := ⟨_, rfl⟩
  rw [← hL0] at RM ⊢
  have HPP := Lib.hid hpp
  obtain ⟨AD, hAD⟩ : ∃ AD, AD = addM (ts.map ActT.a) n p := ⟨_, rfl⟩
  have hadL : addL (ts.map ActT.a) n p = AD.getD [] := by rw [hAD]; rfl
  have hadB : addB (ts.map ActT.a) n p = AD.isSome := by rw [hAD]; rfl
  rw [hadL, hadB]
  unfold MoreMade at RM
  simp only [← hAD] at RM
  clear hadL hadB hAD hpp hu hv0 ht hp hL0
  have kA := Blk.new w #[.int .i64 p.r, .int .i64 p.n, .slice da p.dep.length dc, .int .i64 p.actor, .int .i64 p.kind, .int .i64 p.to, .int .i64 p.bucket, .int .i64 p.mask, .int .i64 p.gr, .int .i64 p.gn, .slice ua p.ups.length uc] 33
  have b0 := (Below.refl w.heap.size w).alloc (Nat.le_refl _) (.cells #[.int .i64 p.r, .int .i64 p.n, .slice da p.dep.length dc, .int .i64 p.actor, .int .i64 p.kind, .int .i64 p.to, .int .i64 p.bucket, .int .i64 p.mask, .int .i64 p.gr, .int .i64 p.gn, .slice ua p.ups.length uc] 33)
  obtain ⟨AB, hAB⟩ : ∃ q, q = w.heap.size := ⟨_, rfl⟩
  go_enter Tryz.func17, Tryz.ntmps17
  go_upto_region 1 with (fail)
  rw [← hAB] at kA ⊢
  generalize w.alloc (.cells #[.int .i64 p.r, .int .i64 p.n, .slice da p.dep.length dc, .int .i64 p.actor, .int .i64 p.kind, .int .i64 p.to, .int .i64 p.bucket, .int .i64 p.mask, .int .i64 p.gr, .int .i64 p.gn, .slice ua p.ups.length uc] 33) = W0 at kA b0 ⊢
  clear hAB
  have c0 := kA.cell 0
  have c1 := kA.cell 1
  have c2 := kA.cell 2
  have c3 := kA.cell 3
  have c4 := kA.cell 4
  have c5 := kA.cell 5
  have c6 := kA.cell 6
  have c7 := kA.cell 7
  have c8 := kA.cell 8
  have c9 := kA.cell 9
  have c10 := kA.cell 10
  simp only [List.getElem?_cons_zero, List.getElem?_cons_succ] at c0 c1 c2 c3 c4 c5 c6 c7 c8 c9 c10
  clear kA
  go_wp2_with fail
  refine (RM.out W0 b0).mono ?_
  rintro e w1 ⟨b1, (⟨NL, v1, mb, hadd, rfl, hr1, hmb, own1⟩ | ⟨hadd, rfl⟩)⟩
  · subst hadd
    have B1 := Lib.hid (b0.trans (b1.mono b0.size))
    have HR1 := Lib.hid (hr1.less b0.size)
    obtain ⟨va4, vc4, hv4⟩ : ∃ x c, v1 = .slice x NL.length c := by
      obtain ⟨t2, cs, h1, h2, h3, h4, h5⟩ := hr1
      obtain ⟨x, c, hx⟩ := row_shape h2
      exact ⟨x, c, by rw [hx, ← h1, List.length_map]⟩
    subst hv4
    clear own1 hmb hr1 b1 RM c0 c1 c2 c3 c4 c5 c6 c7 c8 c9 c10 b0
    simp only [setVal]
    go_wp2_with fail
    go_ret2
    obtain ⟨bs, ho, hge⟩ := (HR1.out.below ((Below.refl w1.heap.size w1).alloc (Nat.le_refl _) (.cells #[.slice va4 NL.length vc4, .map (some mb), .int .i64 n, .int .i64 (cntM NL 0), .int .i64 (cntM NL 1), .int .i64 (cntM NL 2), .int .i64 (cntM NL 3)] 57))).own
    exact ⟨_, bs, rfl, ho, hge, B1.out.alloc B1.out.size _⟩
  · subst hadd
    have B1 := Lib.hid (b0.trans (b1.mono b0.size))
    clear b1 RM c0 c1 c2 c3 c4 c5 c6 c7 c8 c9 c10 b0
    simp only [noSet]
    go_wp2_with fail
    go_ret2
    exact ⟨_, [], rfl, .inl ⟨rfl, rfl, _, _, rfl⟩, (fun b hb => nomatch hb), B1.out.alloc B1.out.size _⟩
end Go.Proofs.YtkcfcmigcphjlaaGreat
