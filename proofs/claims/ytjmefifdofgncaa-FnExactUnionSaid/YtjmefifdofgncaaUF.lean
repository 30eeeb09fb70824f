/- put: an act put into a row of one's own. -/
import Derived.Test.YtjmefifdofgncaaUE
namespace Go.Proofs.Ytjmefifdofgncaa
open Go.RowKit
set_option linter.unusedVariables false
set_option linter.unusedSimpArgs false

theorem heap_new (w : World) (cs : Array Value) (e : TypeId) : (w.alloc (.cells cs e)).heap[w.heap.size]? = some (.cells cs e (0, 0)) := by
  rw [World.alloc]
  exact Array.getElem?_push_size
theorem nodup_mid {α : Type} {a b m : List α} (h : (a ++ b).Nodup) (hm : m.Nodup) (hd : ∀ x ∈ m, x ∉ a ++ b) : (a ++ (m ++ b)).Nodup := by
  have hp : (a ++ (m ++ b)).Perm (m ++ (a ++ b)) := by
    rw [← List.append_assoc, ← List.append_assoc]
    exact List.perm_append_comm.append_right b
  rw [hp.nodup_iff]
  refine List.nodup_append.2 ⟨hm, h, fun x hx y hy e => ?_⟩
  subst e
  exact hd x hx hy
/-- where an act is put -/
def insM (l : List ActM) (p : ActM) : List ActM := l.take (l.findIdx fun b => aheadM p b) ++ p :: l.drop (l.findIdx fun b => aheadM p b)
theorem insM_put {l : List ActM} {p : ActM} (hp : l.Pairwise (fun a b => aheadM a b = true)) : insM l p = putM l p := by
  unfold insM putM
  rw [putJ_idx hp]
def PutMade (lo : Nat) (w : World) (l : List ActM) (e : Ending) (w' : World) : Prop := ∃ v, e = .returned v ∧ Row w' lo v l ∧ Below lo w w'
theorem Row.acts {w : World} {lo : Nat} {v : Value} {ts : List ActT} {cs : List Nat} (ho : w.ownsRow lo 42 11 v ts.length (va ts)) (hl : Lists w ts cs) : ActsT w v ts := by
  refine ⟨fun t ht => hl.reads t ht, ?_⟩
  rcases row_own ho with ⟨rfl, h0⟩ | ⟨g, cap, rfl, hg, hlt, ht, ho2⟩
  · exact .inl ⟨_, _, rfl, List.eq_nil_of_length_eq_zero h0⟩
  · obtain ⟨hcl, (⟨hv, _⟩ | ⟨g', cap', cur, hv, _, hh, hnc, hcm, hcs, hct⟩)⟩ := ho2
    · cases hv
    · cases hv
      have hn : ts.length ≤ 9223372036854775807 := Nat.le_trans hnc hcm
      refine .inr ⟨g, 0, cap, rfl, hlt, hnc, hcm, fun i hi => ?_⟩
      have hc : ∀ r, r < 11 → w.cell? ⟨g, 0 + i * 11 + r, none⟩ = (ts.getD i t0).cells[r]? := fun r hr => by
        rw [Nat.zero_add, cell_of_row w g _ cur _ _ hh, ← va_at ts i r hi hr, ← hct, List.getElem?_take, if_pos (by omega), Array.getElem?_toList]
      exact ⟨by simpa [ActT.cells] using hc 0 (by omega), by simpa [ActT.cells] using hc 1 (by omega), by simpa [ActT.cells] using hc 2 (by omega), by simpa [ActT.cells] using hc 3 (by omega), by simpa [ActT.cells] using hc 4 (by omega), by simpa [ActT.cells] using hc 5 (by omega), by simpa [ActT.cells] using hc 6 (by omega), by simpa [ActT.cells] using hc 7 (by omega), by simpa [ActT.cells] using hc 8 (by omega), by simpa [ActT.cells] using hc 9 (by omega), by simpa [ActT.cells] using hc 10 (by omega)⟩

set_option maxRecDepth 100000 in
set_option maxHeartbeats 1600000 in
theorem put_any (lo : Nat) (v u : Value) (l : List ActM) (p : ActM) (w : World) (h : Row w lo v l) (hlo : lo ≤ w.heap.size) (hl : l.length ≤ 120) (hp : ActIs w u p) (hs : p.Small) :
    Calls Try.prog 91 #[v, u] w (PutMade lo w (insM l p)) := by
  obtain ⟨ts, cs, hla, hrow, hli, hnd, hge⟩ := h
  obtain ⟨n, hn⟩ : ∃ n, n = ts.length := ⟨_, rfl⟩
  have hn60 : n ≤ 120 := by rw [hn, ← List.length_map (f := ActT.a), hla]; exact hl
  obtain ⟨pa, pc, qa, qc, hpv⟩ := act_shape hp
  obtain ⟨⟨pr, pn, pdep, pactor, pkind, pdst, pbucket, pmask, pgr, pgn, pups⟩, hpp⟩ : ∃ x, p = x := ⟨_, rfl⟩
  simp only [hpp] at hpv
  obtain ⟨pl, hpl⟩ : ∃ x, x = pdep.length := ⟨_, rfl⟩
  obtain ⟨ql, hql⟩ : ∃ x, x = pups.length := ⟨_, rfl⟩
  rw [← hpl, ← hql] at hpv
  subst hpv
  obtain ⟨va0, vc0, hv0⟩ := row_shape hrow
  rw [← hn] at hv0
  have kC := Blk.new w #[.int .i64 pr, .int .i64 pn, .slice pa pl pc, .int .i64 pactor, .int .i64 pkind, .int .i64 pdst, .int .i64 pbucket, .int .i64 pmask, .int .i64 pgr, .int .i64 pgn, .slice qa ql qc] 42
  have b0 := (Below.refl w.heap.size w).alloc (Nat.le_refl _) (.cells #[.int .i64 pr, .int .i64 pn, .slice pa pl pc, .int .i64 pactor, .int .i64 pkind, .int .i64 pdst, .int .i64 pbucket, .int .i64 pmask, .int .i64 pgr, .int .i64 pgn, .slice qa ql qc] 42)
  obtain ⟨C, hC⟩ : ∃ C, C = w.heap.size := ⟨_, rfl⟩
  obtain ⟨J, hJ⟩ : ∃ J, J = l.findIdx fun b => aheadM p b := ⟨_, rfl⟩
  have hins : insM l p = l.take J ++ p :: l.drop J := by rw [insM, ← hJ]
  have hJl : J ≤ n := by rw [hJ, hn, ← List.length_map (f := ActT.a), hla]; exact List.findIdx_le_length
  obtain ⟨RI, hRI⟩ : ∃ RI, RI = idxF p (ts.map ActT.a) 0 := ⟨_, rfl⟩
  have hRJ : RI = if J < n then (J : Int) else -1 := by
    rw [hRI, idxF_find, hla, ← hJ, hn, ← List.length_map (f := ActT.a), hla, Nat.zero_add]
  rw [hins]
  have hact := Row.acts hrow hli
  have IX := Lib.hid (fun W (hW : Below w.heap.size w W) (k : Blk W C [.int .i64 pr, .int .i64 pn, .slice pa pl pc, .int .i64 pactor, .int .i64 pkind, .int .i64 pdst, .int .i64 pbucket, .int .i64 pmask, .int .i64 pgr, .int .i64 pgn, .slice qa ql qc]) => idxFunc_any v C pr pn pactor pkind pdst pbucket pmask pgr pgn pa qa pl pc ql qc p ts W (hact.below hW) (by rw [← hn]; omega) k (hp.below hW))
  have CA := Lib.hid (fun W (hW : Below w.heap.size w W) => copyA_any (.agg #[.int .i64 pr, .int .i64 pn, .slice pa pl pc, .int .i64 pactor, .int .i64 pkind, .int .i64 pdst, .int .i64 pbucket, .int .i64 pmask, .int .i64 pgr, .int .i64 pgn, .slice qa ql qc]) p W (hp.below hW) hs)
  rw [← hRI] at IX
  rw [hv0] at IX ⊢
  have HV0 := Lib.hid hv0
  have HPP := Lib.hid hpp
  have HJ := Lib.hid hRJ
  have HN := Lib.hid hn
  have HLA := Lib.hid hla
  have HROW := Lib.hid hrow
  have HLI := Lib.hid hli
  have HND := Lib.hid hnd
  have HGE := Lib.hid hge
  clear hins hRI hJ hpl hql hact hp hs hv0 hpp hRJ hl hn hla hrow hli hnd hge
  go_enter Try.func91, Try.ntmps91
  go_upto_region 1 with (fail)
  rw [← hC] at kC ⊢
  generalize w.alloc (.cells #[.int .i64 pr, .int .i64 pn, .slice pa pl pc, .int .i64 pactor, .int .i64 pkind, .int .i64 pdst, .int .i64 pbucket, .int .i64 pmask, .int .i64 pgr, .int .i64 pgn, .slice qa ql qc] 42) = W0 at b0 kC ⊢
  have HC := Lib.hid hC
  clear hC
  go_wp2_with fail
  refine (IX.out W0 b0 kC).mono ?_
  rintro e w1 ⟨rfl, b1⟩
  have B1 := Lib.hid (b0.trans (b1.mono b0.size))
  have K1 := Lib.hid (kC.below b1 kC.lt)
  clear b0 b1 kC IX
  have c0 := K1.out.cell 0
  have c1 := K1.out.cell 1
  have c2 := K1.out.cell 2
  have c3 := K1.out.cell 3
  have c4 := K1.out.cell 4
  have c5 := K1.out.cell 5
  have c6 := K1.out.cell 6
  have c7 := K1.out.cell 7
  have c8 := K1.out.cell 8
  have c9 := K1.out.cell 9
  have c10 := K1.out.cell 10
  simp only [List.getElem?_cons_zero, List.getElem?_cons_succ] at c0 c1 c2 c3 c4 c5 c6 c7 c8 c9 c10
  have key : ∀ (J2 : Int), J2 = (J : Int) → True := fun _ _ => trivial
  clear key
  by_cases hJn : J < n
  · have hRI := HJ.out
    rw [if_pos hJn] at hRI
    subst hRI
    go_wp2_with fail
    refine (CA.out w1 B1.out).mono ?_
    rintro e w2 ⟨u2, bs, rfl, o2, g2, b2⟩
    have hn := HN.out
    have hla := HLA.out
    have hrow := HROW.out
    have hli := HLI.out
    obtain ⟨t, ds, us, he, hta, hbs, hI, hP⟩ := o2
    rw [HPP.out] at hta
    obtain ⟨⟨r', n', dep', actor', kind', dst', bucket', mask', gr', gn', ups'⟩, vd, vs⟩ := t
    simp only at hta
    cases hta
    simp only at hI hP
    obtain ⟨pa2, pc2, rfl⟩ := ints_len hI.ints
    obtain ⟨qa2, qc2, rfl⟩ := ups_len hP.ups
    subst he
    simp only [ActT.val]
    have B2 := Lib.hid (B1.out.trans (b2.mono B1.out.size))
    have hnd2 := own_nodup hI hP
    have HI := Lib.hid hI
    have HP2 := Lib.hid hP
    have hge2 : ∀ b ∈ ds ++ us, w.heap.size ≤ b := fun b hb => Nat.le_trans B1.out.size (g2 b (by rw [hbs]; exact hb))
    have hrow2 := row_past hrow B2.out
    have hli2 := hli.keep fun b hb => B2.out.block b (hli.lt b hb)
    have h2one := cells_one (t := (⟨⟨pr, pn, pdep, pactor, pkind, pdst, pbucket, pmask, pgr, pgn, pups⟩, .slice pa2 pdep.length pc2, .slice qa2 pups.length qc2⟩ : ActT)) (w := w2) ⟨hI.ints, hP.ups⟩
    have h1one : ∀ u ∈ va ts, u.oneCell' = true := va_one fun t ht => ⟨ints_one (hli.reads t ht).1, ups_one (hli.reads t ht).2⟩
    have hvb : ∀ g, v.ownBlock = some g → lo ≤ g ∧ g < w.heap.size := fun g hg => by
      rcases row_own hrow with ⟨rfl, _⟩ | ⟨g', cap, rfl, h1, h2, _, _⟩
      · cases hg
      · cases hg; exact ⟨h1, h2⟩
    have hB := heap_new w2 #[.int .i64 pr, .int .i64 pn, .slice pa2 pdep.length pc2, .int .i64 pactor, .int .i64 pkind, .int .i64 pdst, .int .i64 pbucket, .int .i64 pmask, .int .i64 pgr, .int .i64 pgn, .slice qa2 pups.length qc2] 42
    have hsz := B2.out.size
    have INS := Lib.hid (insert_any lo w2.heap.size n J v ts (⟨⟨pr, pn, pdep, pactor, pkind, pdst, pbucket, pmask, pgr, pgn, pups⟩, .slice pa2 pdep.length pc2, .slice qa2 pups.length qc2⟩ : ActT) (w2.alloc (.cells #[.int .i64 pr, .int .i64 pn, .slice pa2 pdep.length pc2, .int .i64 pactor, .int .i64 pkind, .int .i64 pdst, .int .i64 pbucket, .int .i64 pmask, .int .i64 pgr, .int .i64 pgn, .slice qa2 pups.length qc2] 42)) hn.symm hJl (by omega) (by rw [World.size_alloc]; omega) (by rw [hn]; exact row_past hrow2 ((Below.refl _ _).alloc (Nat.le_refl _) _)) hB (fun e => by have := (hvb _ e).2; omega) h1one h2one)
    rw [HV0.out] at INS
    have HVB := Lib.hid hvb
    have HLI2 := Lib.hid hli2
    have HND2 := Lib.hid hnd2
    have HGE2 := Lib.hid hge2
    clear h2one h1one hB b2 c0 c1 c2 c3 c4 c5 c6 c7 c8 c9 c10 hrow2 hI hP hn hla hrow hli hvb hli2 hnd2 hge2 hbs g2
    go_wp2_with fail
    refine INS.out.mono ?_
    rintro e w4 ⟨v4, rfl, o4, g4⟩
    have G4 := Lib.hid g4
    have O4 := Lib.hid o4
    clear INS g4 o4
    go_wp2
    go_ret
    have hn := HN.out
    have hla := HLA.out
    have hrow := HROW.out
    have hli := HLI.out
    have hnd := HND.out
    have hge := HGE.out
    have hvb := HVB.out
    have hli2 := HLI2.out
    have hnd2 := HND2.out
    have hge2 := HGE2.out
    have hk4 : ∀ b, b < w2.heap.size → v.ownBlock ≠ some b → w4.heap[b]? = w2.heap[b]? := fun b hb hne => by
      rw [G4.out.block b (by rw [World.size_alloc]; omega) (by rw [← HV0.out]; exact fun e => hne e.symm)]
      exact Below.heap_alloc _ _ _ hb
    obtain ⟨c1', c2', hcs, hl1, hl2⟩ := Lists.split (t1 := ts.take J) (t2 := ts.drop J) (by rw [List.take_append_drop]; exact hli2)
    have hty : ∀ b, NoRow w b → v.ownBlock ≠ some b := fun b hb e => by
      rcases row_own hrow with ⟨rfl, _⟩ | ⟨g', cap, rfl, h1, h2, h3, _⟩
      · cases e
      · cases e; exact hb.ne h3 (by decide) (by decide) rfl
    have hkc : ∀ b ∈ cs, w4.heap[b]? = w2.heap[b]? := fun b hb => hk4 b (by have := hli.lt b hb; omega) (hty b (hli.type b hb))
    have hkd : ∀ b ∈ ds ++ us, w4.heap[b]? = w2.heap[b]? := fun b hb => hk4 b (by rcases List.mem_append.1 hb with hb | hb; exact HI.out.lt b hb; exact HP2.out.lt b hb) (fun e => by have := (hvb b e).2; have := hge2 b hb; omega)
    have hLt : Lists w4 ((⟨⟨pr, pn, pdep, pactor, pkind, pdst, pbucket, pmask, pgr, pgn, pups⟩, .slice pa2 pdep.length pc2, .slice qa2 pups.length qc2⟩ : ActT) :: ts.drop J) (ds ++ us ++ c2') :=
      ⟨ds, us, c2', rfl, HI.out.keep fun b hb => hkd b (List.mem_append_left _ hb), HP2.out.keep fun b hb => hkd b (List.mem_append_right _ hb), hl2.keep fun b hb => hkc b (by rw [hcs]; exact List.mem_append_right _ hb)⟩
    have hL4 := Lists.join (hl1.keep fun b hb => hkc b (by rw [hcs]; exact List.mem_append_left _ hb)) hLt
    refine ⟨v4, rfl, ⟨ts.take J ++ (⟨⟨pr, pn, pdep, pactor, pkind, pdst, pbucket, pmask, pgr, pgn, pups⟩, .slice pa2 pdep.length pc2, .slice qa2 pups.length qc2⟩ : ActT) :: ts.drop J, c1' ++ (ds ++ us ++ c2'), ?_, ?_, hL4, ?_, ?_⟩, ?_⟩
    · rw [List.map_append, List.map_cons, List.map_take, List.map_drop, hla, HPP.out]
    · have e : (ts.take J ++ (⟨⟨pr, pn, pdep, pactor, pkind, pdst, pbucket, pmask, pgr, pgn, pups⟩, .slice pa2 pdep.length pc2, .slice qa2 pups.length qc2⟩ : ActT) :: ts.drop J).length = n + 1 := by rw [List.length_append, List.length_cons, List.length_take, List.length_drop, ← hn]; omega
      rw [e]
      exact O4.out
    · have hdis : ∀ b ∈ ds ++ us, b ∉ cs := fun b hb hc => by have h1 := hge2 b hb; have h2 := hli.lt b hc; omega
      rw [hcs] at hnd hdis
      exact nodup_mid hnd hnd2 hdis
    · intro b hb
      rw [← List.append_assoc] at hb
      rcases List.mem_append.1 hb with hb | hb
      · rcases List.mem_append.1 hb with hb | hb
        · exact hge b (by rw [hcs]; exact List.mem_append_left _ hb)
        · exact Nat.le_trans hlo (hge2 b hb)
      · exact hge b (by rw [hcs]; exact List.mem_append_right _ hb)
    · have hb3 : Below lo w (w2.alloc (.cells #[.int .i64 pr, .int .i64 pn, .slice pa2 pdep.length pc2, .int .i64 pactor, .int .i64 pkind, .int .i64 pdst, .int .i64 pbucket, .int .i64 pmask, .int .i64 pgr, .int .i64 pgn, .slice qa2 pups.length qc2] 42)) := (B2.out.mono hlo).alloc (by omega) _
      exact hb3.grown G4.out (by rw [World.size_alloc]; omega) (fun k hk => by rw [← HV0.out] at hk; exact (hvb k hk).1)
  · have hRI := HJ.out
    rw [if_neg hJn] at hRI
    subst hRI
    obtain rfl : n = J := by omega
    go_wp2_with fail
    refine (CA.out w1 B1.out).mono ?_
    rintro e w2 ⟨u2, bs, rfl, o2, g2, b2⟩
    have hn := HN.out
    have hla := HLA.out
    have hrow := HROW.out
    have hli := HLI.out
    obtain ⟨t, ds, us, he, hta, hbs, hI, hP⟩ := o2
    rw [HPP.out] at hta
    obtain ⟨⟨r', n', dep', actor', kind', dst', bucket', mask', gr', gn', ups'⟩, vd, vs⟩ := t
    simp only at hta
    cases hta
    simp only at hI hP
    obtain ⟨pa2, pc2, rfl⟩ := ints_len hI.ints
    obtain ⟨qa2, qc2, rfl⟩ := ups_len hP.ups
    subst he
    simp only [ActT.val]
    have B2 := Lib.hid (B1.out.trans (b2.mono B1.out.size))
    have hnd2 := own_nodup hI hP
    have HI := Lib.hid hI
    have HP2 := Lib.hid hP
    have hge2 : ∀ b ∈ ds ++ us, w.heap.size ≤ b := fun b hb => Nat.le_trans B1.out.size (g2 b (by rw [hbs]; exact hb))
    have hrow2 := row_past hrow B2.out
    have hli2 := hli.keep fun b hb => B2.out.block b (hli.lt b hb)
    have h2one := cells_one (t := (⟨⟨pr, pn, pdep, pactor, pkind, pdst, pbucket, pmask, pgr, pgn, pups⟩, .slice pa2 pdep.length pc2, .slice qa2 pups.length qc2⟩ : ActT)) (w := w2) ⟨hI.ints, hP.ups⟩
    have h1one : ∀ u ∈ va ts, u.oneCell' = true := va_one fun t ht => ⟨ints_one (hli.reads t ht).1, ups_one (hli.reads t ht).2⟩
    have hvb : ∀ g, v.ownBlock = some g → lo ≤ g ∧ g < w.heap.size := fun g hg => by
      rcases row_own hrow with ⟨rfl, _⟩ | ⟨g', cap, rfl, h1, h2, _, _⟩
      · cases hg
      · cases hg; exact ⟨h1, h2⟩
    have hB := heap_new w2 #[.int .i64 pr, .int .i64 pn, .slice pa2 pdep.length pc2, .int .i64 pactor, .int .i64 pkind, .int .i64 pdst, .int .i64 pbucket, .int .i64 pmask, .int .i64 pgr, .int .i64 pgn, .slice qa2 pups.length qc2] 42
    have hsz := B2.out.size
    have INS := Lib.hid (insert_any lo w2.heap.size n n v ts (⟨⟨pr, pn, pdep, pactor, pkind, pdst, pbucket, pmask, pgr, pgn, pups⟩, .slice pa2 pdep.length pc2, .slice qa2 pups.length qc2⟩ : ActT) (w2.alloc (.cells #[.int .i64 pr, .int .i64 pn, .slice pa2 pdep.length pc2, .int .i64 pactor, .int .i64 pkind, .int .i64 pdst, .int .i64 pbucket, .int .i64 pmask, .int .i64 pgr, .int .i64 pgn, .slice qa2 pups.length qc2] 42)) hn.symm hJl (by omega) (by rw [World.size_alloc]; omega) (by rw [hn]; exact row_past hrow2 ((Below.refl _ _).alloc (Nat.le_refl _) _)) hB (fun e => by have := (hvb _ e).2; omega) h1one h2one)
    rw [HV0.out] at INS
    have HVB := Lib.hid hvb
    have HLI2 := Lib.hid hli2
    have HND2 := Lib.hid hnd2
    have HGE2 := Lib.hid hge2
    clear h2one h1one hB b2 c0 c1 c2 c3 c4 c5 c6 c7 c8 c9 c10 hrow2 hI hP hn hla hrow hli hvb hli2 hnd2 hge2 hbs g2
    go_wp2_with fail
    refine INS.out.mono ?_
    rintro e w4 ⟨v4, rfl, o4, g4⟩
    have G4 := Lib.hid g4
    have O4 := Lib.hid o4
    clear INS g4 o4
    go_wp2
    go_ret
    have hn := HN.out
    have hla := HLA.out
    have hrow := HROW.out
    have hli := HLI.out
    have hnd := HND.out
    have hge := HGE.out
    have hvb := HVB.out
    have hli2 := HLI2.out
    have hnd2 := HND2.out
    have hge2 := HGE2.out
    have hk4 : ∀ b, b < w2.heap.size → v.ownBlock ≠ some b → w4.heap[b]? = w2.heap[b]? := fun b hb hne => by
      rw [G4.out.block b (by rw [World.size_alloc]; omega) (by rw [← HV0.out]; exact fun e => hne e.symm)]
      exact Below.heap_alloc _ _ _ hb
    obtain ⟨c1', c2', hcs, hl1, hl2⟩ := Lists.split (t1 := ts.take n) (t2 := ts.drop n) (by rw [List.take_append_drop]; exact hli2)
    have hty : ∀ b, NoRow w b → v.ownBlock ≠ some b := fun b hb e => by
      rcases row_own hrow with ⟨rfl, _⟩ | ⟨g', cap, rfl, h1, h2, h3, _⟩
      · cases e
      · cases e; exact hb.ne h3 (by decide) (by decide) rfl
    have hkc : ∀ b ∈ cs, w4.heap[b]? = w2.heap[b]? := fun b hb => hk4 b (by have := hli.lt b hb; omega) (hty b (hli.type b hb))
    have hkd : ∀ b ∈ ds ++ us, w4.heap[b]? = w2.heap[b]? := fun b hb => hk4 b (by rcases List.mem_append.1 hb with hb | hb; exact HI.out.lt b hb; exact HP2.out.lt b hb) (fun e => by have := (hvb b e).2; have := hge2 b hb; omega)
    have hLt : Lists w4 ((⟨⟨pr, pn, pdep, pactor, pkind, pdst, pbucket, pmask, pgr, pgn, pups⟩, .slice pa2 pdep.length pc2, .slice qa2 pups.length qc2⟩ : ActT) :: ts.drop n) (ds ++ us ++ c2') :=
      ⟨ds, us, c2', rfl, HI.out.keep fun b hb => hkd b (List.mem_append_left _ hb), HP2.out.keep fun b hb => hkd b (List.mem_append_right _ hb), hl2.keep fun b hb => hkc b (by rw [hcs]; exact List.mem_append_right _ hb)⟩
    have hL4 := Lists.join (hl1.keep fun b hb => hkc b (by rw [hcs]; exact List.mem_append_left _ hb)) hLt
    refine ⟨v4, rfl, ⟨ts.take n ++ (⟨⟨pr, pn, pdep, pactor, pkind, pdst, pbucket, pmask, pgr, pgn, pups⟩, .slice pa2 pdep.length pc2, .slice qa2 pups.length qc2⟩ : ActT) :: ts.drop n, c1' ++ (ds ++ us ++ c2'), ?_, ?_, hL4, ?_, ?_⟩, ?_⟩
    · rw [List.map_append, List.map_cons, List.map_take, List.map_drop, hla, HPP.out]
    · have e : (ts.take n ++ (⟨⟨pr, pn, pdep, pactor, pkind, pdst, pbucket, pmask, pgr, pgn, pups⟩, .slice pa2 pdep.length pc2, .slice qa2 pups.length qc2⟩ : ActT) :: ts.drop n).length = n + 1 := by rw [List.length_append, List.length_cons, List.length_take, List.length_drop, ← hn]; omega
      rw [e]
      exact O4.out
    · have hdis : ∀ b ∈ ds ++ us, b ∉ cs := fun b hb hc => by have h1 := hge2 b hb; have h2 := hli.lt b hc; omega
      rw [hcs] at hnd hdis
      exact nodup_mid hnd hnd2 hdis
    · intro b hb
      rw [← List.append_assoc] at hb
      rcases List.mem_append.1 hb with hb | hb
      · rcases List.mem_append.1 hb with hb | hb
        · exact hge b (by rw [hcs]; exact List.mem_append_left _ hb)
        · exact Nat.le_trans hlo (hge2 b hb)
      · exact hge b (by rw [hcs]; exact List.mem_append_right _ hb)
    · have hb3 : Below lo w (w2.alloc (.cells #[.int .i64 pr, .int .i64 pn, .slice pa2 pdep.length pc2, .int .i64 pactor, .int .i64 pkind, .int .i64 pdst, .int .i64 pbucket, .int .i64 pmask, .int .i64 pgr, .int .i64 pgn, .slice qa2 pups.length qc2] 42)) := (B2.out.mono hlo).alloc (by omega) _
      exact hb3.grown G4.out (by rw [World.size_alloc]; omega) (fun k hk => by rw [← HV0.out] at hk; exact (hvb k hk).1)
end Go.Proofs.Ytjmefifdofgncaa
