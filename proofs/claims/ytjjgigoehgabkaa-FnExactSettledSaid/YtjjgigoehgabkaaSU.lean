/- The program's knownAt, settled, Settled. -/
import Derived.Test.YtjjgigoehgabkaaSS
import Derived.Test.YtjjgigoehgabkaaI
import Derived.Test.YtjjgigoehgabkaaMF
import Derived.Deep.DeepCutAuto
namespace Go.Proofs.Ytjjgigoehgabkaa
open Go.RowKit
set_option linter.unusedVariables false
set_option linter.unusedSimpArgs false

def Apart (a b : ActM) : Prop := ¬ (a.r = b.r ∧ a.n = b.n)
theorem apart_of {l : List ActM} {n : Int} (h : setOkM l n = true) : l.Pairwise Apart := by
  obtain ⟨m, rfl, h1, h4, hl, ho, hc, hcl⟩ := setOk_parts h
  have hok := order_all l none ho
  rw [List.pairwise_iff_getElem]
  intro i j hi hj hij ⟨e1, e2⟩
  have hsi : l = l.take i ++ l[i] :: l.drop (i + 1) := by rw [← List.drop_eq_getElem_cons hi, List.take_append_drop]
  have hsj : l = l.take j ++ l[j] :: l.drop (j + 1) := by rw [← List.drop_eq_getElem_cons hj, List.take_append_drop]
  have ni := number_of ho hc hcl hsi
  have nj := number_of ho hc hcl hsj
  rw [e1, e2, nj] at ni
  obtain ⟨r0, r1, _⟩ := ok_parts (hok _ (List.getElem_mem hj))
  obtain ⟨p, hp⟩ := Int.eq_ofNat_of_zero_le r0
  have hpt : l[j].r.toNat = p := by omega
  rw [hpt] at ni
  have hsplit : l.take j = l.take i ++ l[i] :: (l.take j).drop (i + 1) := by
    have h2 : i < (l.take j).length := by rw [List.length_take]; omega
    have h3 : (l.take j)[i] = l[i] := by rw [List.getElem_take]
    have h4 : l.take i = (l.take j).take i := by rw [List.take_take, Nat.min_eq_left (by omega)]
    rw [h4, ← h3, ← List.drop_eq_getElem_cons h2, List.take_append_drop]
  rw [hsplit, cnt_app, show l[i] :: (l.take j).drop (i + 1) = [l[i]] ++ (l.take j).drop (i + 1) from rfl, cnt_app, cnt_one, if_pos (by omega)] at ni
  omega
theorem atKey_atD : ∀ (l : List ActM) (i : Nat) (D : DataW Unit) (r n : Int) (z : DataW Unit), Maps.IsMap D → (∀ a ∈ l, I64 a.r ∧ I64 a.n) → I64 r → I64 n → l.Pairwise Apart →
    (atD l i D).atKey (nameL r n) z = if findFrom r n l i < 0 then D.atKey (nameL r n) z else .lit (.int .i64 (findFrom r n l i))
  | [], i, D, r, n, z, _, _, _, _, _ => by simp [atD, findFrom]
  | a :: l, i, D, r, n, z, hD, hl, hr, hn, hp => by
    have ha := hl a (by simp)
    obtain ⟨p1, p2⟩ := List.pairwise_cons.1 hp
    rw [atD, atKey_atD l (i + 1) _ r n z (hD.put _ _) (fun b hb => hl b (List.mem_cons_of_mem _ hb)) hr hn p2, findFrom]
    by_cases e : a.r = r ∧ a.n = n
    · rw [if_pos e]
      obtain ⟨e1, e2⟩ := e
      have hk := keyedName.key (nameKey a.r a.n ha.1 ha.2)
      subst e1
      subst e2
      have hno : findFrom a.r a.n l (i + 1) < 0 := by
        rw [findFrom_has]
        cases hh : hasM l a.r a.n
        · rfl
        · obtain ⟨b, hb, e1, e2⟩ := (has_iff _ _ _).1 hh
          exact absurd ⟨e1.symm, e2.symm⟩ (p1 b hb)
      rw [if_pos hno, Maps.atKey_put_same hD hk, if_neg (by omega)]
    · rw [if_neg e]
      have hne : nameL r n ≠ nameL a.r a.n := fun h => e (by
        have := nameL_inj hr hn ha.1 ha.2 h
        exact ⟨this.1.symm, this.2.symm⟩)
      rw [Maps.atKey_put_other hne]
theorem find_at (r n : Int) : ∀ (l : List ActM) (i : Nat), 0 ≤ findFrom r n l i → (l.getD ((findFrom r n l i).toNat - i) act0) ∈ l ∧ (l.getD ((findFrom r n l i).toNat - i) act0).r = r ∧ (l.getD ((findFrom r n l i).toNat - i) act0).n = n
  | [], i, h => by simp [findFrom] at h
  | a :: l, i, h => by
    rw [findFrom] at h ⊢
    by_cases e : a.r = r ∧ a.n = n
    · rw [if_pos e]
      simp [e.1, e.2]
    · rw [if_neg e] at h ⊢
      have hr := findFrom_range r n l (i + 1) h
      have := find_at r n l (i + 1) h
      rw [show (findFrom r n l (i + 1)).toNat - i = ((findFrom r n l (i + 1)).toNat - (i + 1)) + 1 from by omega, List.getD_cons_succ]
      exact ⟨List.mem_cons_of_mem _ this.1, this.2⟩
theorem find_is (l : List ActM) (r n : Int) (h : 0 ≤ findM l r n) : (l.getD (findM l r n).toNat act0) ∈ l ∧ (l.getD (findM l r n).toNat act0).r = r ∧ (l.getD (findM l r n).toNat act0).n = n := by
  have := find_at r n l 0 h
  unfold findM
  simpa using this
theorem apart_eq {l : List ActM} (h : l.Pairwise Apart) {x y : ActM} (hx : x ∈ l) (hy : y ∈ l) (e : x.r = y.r ∧ x.n = y.n) : x = y := by
  induction l with
  | nil => cases hx
  | cons a l ih =>
    obtain ⟨p1, p2⟩ := List.pairwise_cons.1 h
    rcases List.mem_cons.1 hx with rfl | qx <;> rcases List.mem_cons.1 hy with rfl | qy
    · rfl
    · exact absurd e (p1 y qy)
    · exact absurd ⟨e.1.symm, e.2.symm⟩ (p1 x qx)
    · exact ih p2 qx qy

theorem look_is {mb L : Nat} {D : DataW Unit} {r n c : Int} (W : World) (hown : W.ownsMap Try.prog 117 (plainElem Try.prog 3) mb L D) (hr : I64 r) (hn : I64 n)
    (hat : D.atKey (nameL r n) (.lit (.int .i64 0)) = .lit (.int .i64 c)) : (Instr.lookup 94 (.map (some mb)) (nameV r n) true).run Try.prog W = .ok (.tuple #[.int .i64 c, .bool (Maps.has D (nameL r n))]) W := by
  have hz : (zeroValue 3).run Try.prog W = .ok (.int .i64 0) W := by kernel_rfl
  obtain ⟨v, ps, hrun, hv⟩ := hown.look_ok (t := 94) keyedName Try.underlying94 hz (zd := .lit (.int .i64 0)) (zp := []) (plainElem_int Try.underlying3 (by decide)) (nameKey r n hr hn)
  obtain ⟨c', rfl, hc, _⟩ := plainElem_int_inv Try.underlying3 hv
  rw [hat] at hc
  simp only [Prod.mk.injEq, DataW.lit.injEq, Lit.int.injEq, true_and] at hc
  rw [hrun, hc.1]

/-- a clock as a value -/
def kcV (n : Int) (xs : List Int) : Value := .agg #[.int .i64 n, .int .i64 (xs.getD 0 0), .int .i64 (xs.getD 1 0), .int .i64 (xs.getD 2 0), .int .i64 (xs.getD 3 0)]
theorem set_four (dep : List Int) (p : Nat) (n m : Int) (hp : p < dep.length) (h4 : p < 4) : ([.int .i64 m, .int .i64 (dep.getD 0 0), .int .i64 (dep.getD 1 0), .int .i64 (dep.getD 2 0), .int .i64 (dep.getD 3 0)] : List Value).set (1 + p) (.int .i64 n) =
    [.int .i64 m, .int .i64 ((dep.set p n).getD 0 0), .int .i64 ((dep.set p n).getD 1 0), .int .i64 ((dep.set p n).getD 2 0), .int .i64 ((dep.set p n).getD 3 0)] := by
  have hg : ∀ i, (dep.set p n).getD i 0 = if i = p then n else dep.getD i 0 := fun i => by
    by_cases e : i = p
    · subst e; simp [List.getD, hp]
    · simp [List.getD, e, Ne.symm e]
  simp only [hg]
  match p, h4 with
  | 0, _ => simp
  | 1, _ => simp
  | 2, _ => simp
  | 3, _ => simp
theorem zip_getD {xs ys : List Int} {m : Nat} (h1 : xs.length = m) (h2 : ys.length = m) (i : Nat) : (List.zipWith mn xs ys).getD i 0 = if i < m then mn (xs.getD i 0) (ys.getD i 0) else xs.getD i 0 := by
  by_cases h : i < m
  · rw [if_pos h]
    simp [List.getD, h1, h2, h]
  · rw [if_neg h]
    have e1 : xs[i]? = none := List.getElem?_eq_none (by omega)
    have e2 : ys[i]? = none := List.getElem?_eq_none (by omega)
    simp [List.getD, e1, e2, List.getElem?_zipWith]
theorem mnk_zip {xs ys : List Int} {m : Nat} (h1 : xs.length = m) (h2 : ys.length = m) : kcV m (List.zipWith mn xs ys) = .agg ((vi (mnk m (xs.getD 0 0) (xs.getD 1 0) (xs.getD 2 0) (xs.getD 3 0) (ys.getD 0 0) (ys.getD 1 0) (ys.getD 2 0) (ys.getD 3 0) m)).toArray) := by
  simp only [kcV, zip_getD h1 h2]
  rfl
theorem four_take {xs : List Int} {m : Nat} (h1 : xs.length = m) (h4 : m ≤ 4) : [xs.getD 0 0, xs.getD 1 0, xs.getD 2 0, xs.getD 3 0].take m = xs := by
  subst h1
  match xs, h4 with
  | [], _ => rfl
  | [_], _ => rfl
  | [_, _], _ => rfl
  | [_, _, _], _ => rfl
  | [_, _, _, _], _ => rfl
  | _ :: _ :: _ :: _ :: _ :: _, h => simp at h
/-- what the map says of the last act of a place -/
theorem last_at {l : List ActM} {n : Int} (hs : setOkM l n = true) {p : Nat} (hp : p < 4) :
    (lastActM l p = none ∧ (atD l 0 (.map [])).atKey (nameL p (cntM l p)) (.lit (.int .i64 0)) = .lit (.int .i64 0) ∧ Maps.has (atD l 0 (.map [])) (nameL p (cntM l p)) = false) ∨
    ∃ k, k < l.length ∧ lastActM l p = some (l.getD k act0) ∧ (l.getD k act0).r = (p : Int) ∧ (atD l 0 (.map [])).atKey (nameL p (cntM l p)) (.lit (.int .i64 0)) = .lit (.int .i64 (k : Int)) ∧ Maps.has (atD l 0 (.map [])) (nameL p (cntM l p)) = true := by
  have h60 := (setOk_all hs).2.2.1
  have hok := (setOk_all hs).2.2.2
  have hc60 : cntM l p ≤ l.length := List.length_filter_le _ _
  have i1 : I64 (p : Int) := by unfold I64; omega
  have i2 : I64 (cntM l p : Int) := by unfold I64; omega
  have hb : ∀ a ∈ l, I64 a.r ∧ I64 a.n := fun a ha => name_bounds (hok a ha)
  have hhas := has_atD l 0 (.map []) p (cntM l p) Maps.isMap_empty hb i1 i2
  rw [show Maps.has (.map [] : DataW Unit) (nameL p (cntM l p)) = false from rfl, Bool.or_false] at hhas
  have hhas : Maps.has (atD l 0 (.map [])) (nameL p (cntM l p)) = hasM l p (cntM l p) := hhas
  have hat := atKey_atD l 0 (.map []) p (cntM l p) (.lit (.int .i64 0)) Maps.isMap_empty hb i1 i2 (apart_of hs)
  have hfm : findFrom (p : Int) (cntM l p : Int) l 0 = findM l p (cntM l p) := rfl
  rw [hfm] at hat
  rw [hhas]
  rcases last_named hs (p := p) with ⟨hl, hc, hh⟩ | ⟨a, ha, hm, hr, hn⟩
  · refine .inl ⟨hl, ?_, hh⟩
    rw [if_pos ((find_has _ _ _).2 hh)] at hat
    exact hat
  · have hh : hasM l p (cntM l p) = true := (has_iff _ _ _).2 ⟨a, hm, hr, hn⟩
    have hf : 0 ≤ findM l p (cntM l p) := by
      by_cases h : findM l p (cntM l p) < 0
      · rw [find_has, hh] at h; cases h
      · omega
    rw [if_neg (by omega)] at hat
    obtain ⟨j1, j2, j3⟩ := find_is l _ _ hf
    have hrg := findFrom_range (p : Int) (cntM l p) l 0 hf
    have he : l.getD (findM l p (cntM l p)).toNat act0 = a := apart_eq (apart_of hs) j1 hm ⟨by omega, by omega⟩
    refine .inr ⟨(findM l p (cntM l p)).toNat, by have := hrg.2; rw [hfm] at this; omega, by rw [he]; exact ha, by rw [he]; exact hr, ?_, hh⟩
    rw [hat, Int.toNat_of_nonneg hf]

set_option maxRecDepth 100000 in
set_option maxHeartbeats 6400000 in
theorem knownAt_any (a : Option Addr) (K cap mb m p : Nat) (q0 q1 q2 q3 : Int) (ts : List ActT) (w : World) (hK : K = ts.length) (hts : ActsT w (.slice a K cap) ts) (hs : setOkM (ts.map ActT.a) m = true) (hp : p < m)
    (hq : ∀ i, i < 4 → [q0, q1, q2, q3].getD i 0 = (cntM (ts.map ActT.a) i : Int)) (hown : w.ownsMap Try.prog 117 (plainElem Try.prog 3) mb K (atD (ts.map ActT.a) 0 (.map []))) :
    Calls Try.prog 175 #[.agg #[.slice a K cap, .map (some mb), .int .i64 m, .int .i64 q0, .int .i64 q1, .int .i64 q2, .int .i64 q3], .int .i64 p] w fun e w' => e = .returned (kcV m (knownM (ts.map ActT.a) m p)) ∧ Below w.heap.size w w' := by
  have hm4 : m ≤ 4 := by have := (setOk_all hs).2.1; omega
  have hp4 : p < 4 := by omega
  have HSP : Hid (([.slice a K cap, .map (some mb), .int .i64 m, .int .i64 q0, .int .i64 q1, .int .i64 q2, .int .i64 q3] : List Value)[3 + p]? = some (.int .i64 (cntM (ts.map ActT.a) p))) := by
    show _ = _
    rw [← hq p hp4]
    match p, hp4 with
    | 0, _ => rfl
    | 1, _ => rfl
    | 2, _ => rfl
    | 3, _ => rfl
  have LK := Lib.hid (fun C B (hat : (atD (ts.map ActT.a) 0 (.map [])).atKey (nameL p (cntM (ts.map ActT.a) p)) (.lit (.int .i64 0)) = .lit (.int .i64 C)) (hh : Maps.has (atD (ts.map ActT.a) 0 (.map [])) (nameL p (cntM (ts.map ActT.a) p)) = B) W (hW : Below w.heap.size w W) => (show (Instr.lookup 94 (.map (some mb)) (.agg #[.int .i64 p, .int .i64 (cntM (ts.map ActT.a) p)]) true).run Try.prog W = .ok (.tuple #[.int .i64 C, .bool B]) W by
    have h60 := (setOk_all hs).2.2.1
    have hc60 : cntM (ts.map ActT.a) p ≤ (ts.map ActT.a).length := List.length_filter_le _ _
    rw [← hh]
    exact look_is W (hown.kept (below_grown hW none) (by simp)) (by unfold I64; omega) (by unfold I64; omega) hat))
  have LA := Lib.hid (last_at hs hp4)
  have OK := Lib.hid (fun t (ht : t ∈ ts) => (setOk_all hs).2.2.2 t.a (List.mem_map_of_mem ht))
  have HK := Lib.hid hK
  have HTS := Lib.hid hts
  generalize (cntM (ts.map ActT.a) p : Int) = C at *
  clear hq hown hs hts hK
  have p0 : (0 : Int) ≤ (p : Int) := by omega
  have p1 : (p : Int) < 4 := by omega
  obtain ⟨RES, hRES⟩ : ∃ R, R = knownM (ts.map ActT.a) m p := ⟨_, rfl⟩
  rw [← hRES]
  have HRES := Lib.hid hRES
  obtain ⟨V, hV⟩ : ∃ V, V = kcV m RES := ⟨_, rfl⟩
  rw [← hV]
  have HVV := Lib.hid hV
  clear hRES hV
  have BW := Lib.hid (Below.refl w.heap.size w)
  go_enter Try.func175, Try.ntmps175
  have kS := (Blk.new w #[.slice a K cap, .map (some mb), .int .i64 m, .int .i64 q0, .int .i64 q1, .int .i64 q2, .int .i64 q3] 99).alloc (.cells #[.int .i64 0, .int .i64 0, .int .i64 0, .int .i64 0, .int .i64 0] 97)
  have kR := Blk.new (w.alloc (.cells #[.slice a K cap, .map (some mb), .int .i64 m, .int .i64 q0, .int .i64 q1, .int .i64 q2, .int .i64 q3] 99)) #[.int .i64 0, .int .i64 0, .int .i64 0, .int .i64 0, .int .i64 0] 97
  simp only [World.size_alloc] at kR
  have ba := ((Below.refl w.heap.size w).alloc (Nat.le_refl _) (.cells #[.slice a K cap, .map (some mb), .int .i64 m, .int .i64 q0, .int .i64 q1, .int .i64 q2, .int .i64 q3] 99)).alloc (by simp [World.size_alloc]; try omega) (.cells #[.int .i64 0, .int .i64 0, .int .i64 0, .int .i64 0, .int .i64 0] 97)
  obtain ⟨pS, hpS⟩ : ∃ p, p = w.heap.size := ⟨_, rfl⟩
  obtain ⟨pR, hpR⟩ : ∃ p, p = w.heap.size + 1 := ⟨_, rfl⟩
  go_upto_region 1 with (fail)
  rw [← hpR] at kR
  try rw [← hpR]
  rw [← hpS] at kS
  try rw [← hpS]
  obtain ⟨w1, hW⟩ : ∃ W, W = (w.alloc (.cells #[.slice a K cap, .map (some mb), .int .i64 m, .int .i64 q0, .int .i64 q1, .int .i64 q2, .int .i64 q3] 99)).alloc (.cells #[.int .i64 0, .int .i64 0, .int .i64 0, .int .i64 0, .int .i64 0] 97) := ⟨_, rfl⟩
  rw [← hW] at ba kS kR ⊢
  have KS := Lib.hid kS
  have GS := Lib.hid (show w.heap.size ≤ pS by omega)
  have KR := Lib.hid kR
  have GR := Lib.hid (show w.heap.size ≤ pR by omega)
  have NES_R := Lib.hid (show pS ≠ pR by omega)
  replace BW := Lib.hid (BW.out.trans ((ba).mono BW.out.size))
  clear ba hW kS hpS kR hpR
  rcases LA.out with ⟨hl, hat, hh⟩ | ⟨k, hk, hl, hr, hat, hh⟩
  · have HLK := Lib.hid (LK.out _ _ hat hh)
    have HRN := Lib.hid (show RES = List.replicate m 0 by rw [HRES.out, knownM, hl])
    clear hat hh hl LA LK
    refine wp_region_held_drew (S := fun w' => Below w1.heap.size w1 w') (by kernel_rfl) ((Below.refl w1.heap.size w1).drew) (fun hHeld => ?_)
    refine held_take (i := 0) (d := some 10) (v := ?_) rfl (by kernel_rfl) (by kernel_rfl) (by kernel_rfl) (by kernel_rfl) (fun _ _ _ h => h) (by kernel_rfl) ?_ hHeld ?_
    rotate_left
    · intro w' hSw
      go_simp
      first | done | with_reducible rfl
    simp only [Act.put, List.setIfInBounds_toArray, List.set_cons_zero, List.set_cons_succ]
    refine held_take (i := 1) (d := some 11) (v := ?_) rfl (by kernel_rfl) (by kernel_rfl) (by kernel_rfl) (by kernel_rfl) (fun _ _ _ h => h) (by kernel_rfl) ?_ hHeld ?_
    rotate_left
    · intro w' hSw
      have gS := KS.out.below hSw KS.out.lt
      have s0 := gS.cell 0
      have s1 := gS.cell 1
      have s2 := gS.cell 2
      have s3 := gS.cell 3
      have s4 := gS.cell 4
      have s5 := gS.cell 5
      have s6 := gS.cell 6
      simp only [List.getElem?_cons_zero, List.getElem?_cons_succ] at s0 s1 s2 s3 s4 s5 s6
      go_simp
      first | done | with_reducible rfl
    simp only [Act.put, List.setIfInBounds_toArray, List.set_cons_zero, List.set_cons_succ]
    refine held_take (i := 2) (d := some 12) (v := ?_) rfl (by kernel_rfl) (by kernel_rfl) (by kernel_rfl) (by kernel_rfl) (fun _ _ _ h => h) (by kernel_rfl) ?_ hHeld ?_
    rotate_left
    · intro w' hSw
      go_simp
      first | done | with_reducible rfl
    simp only [Act.put, List.setIfInBounds_toArray, List.set_cons_zero, List.set_cons_succ]
    refine held_take (i := 3) (d := some 13) (v := ?_) rfl (by kernel_rfl) (by kernel_rfl) (by kernel_rfl) (by kernel_rfl) (fun _ _ _ h => h) (by kernel_rfl) ?_ hHeld ?_
    rotate_left
    · intro w' hSw
      go_simp
      first | done | with_reducible rfl
    simp only [Act.put, List.setIfInBounds_toArray, List.set_cons_zero, List.set_cons_succ]
    refine held_take (i := 4) (d := some 14) (v := ?_) rfl (by kernel_rfl) (by kernel_rfl) (by kernel_rfl) (by kernel_rfl) (fun _ _ _ h => h) (by kernel_rfl) ?_ hHeld ?_
    rotate_left
    · intro w' hSw
      go_simp
      first | done | with_reducible rfl
    simp only [Act.put, List.setIfInBounds_toArray, List.set_cons_zero, List.set_cons_succ]
    refine held_take (i := 5) (d := some 15) (v := ?_) rfl (by kernel_rfl) (by kernel_rfl) (by kernel_rfl) (by kernel_rfl) (fun _ _ _ h => h) (by kernel_rfl) ?_ hHeld ?_
    rotate_left
    · intro w' hSw
      go_simp
      first | done | with_reducible rfl
    simp only [Act.put, List.setIfInBounds_toArray, List.set_cons_zero, List.set_cons_succ]
    refine held_take (i := 6) (d := some 16) (v := ?_) rfl (by kernel_rfl) (by kernel_rfl) (by kernel_rfl) (by kernel_rfl) (fun _ _ _ h => h) (by kernel_rfl) ?_ hHeld ?_
    rotate_left
    · intro w' hSw
      go_simp
      first | done | with_reducible rfl
    simp only [Act.put, List.setIfInBounds_toArray, List.set_cons_zero, List.set_cons_succ]
    refine held_take (i := 7) (d := some 17) (v := ?_) rfl (by kernel_rfl) (by kernel_rfl) (by kernel_rfl) (by kernel_rfl) (fun _ _ _ h => h) (by kernel_rfl) ?_ hHeld ?_
    rotate_left
    · intro w' hSw
      have sp := (KS.out.below hSw KS.out.lt).cell (3 + p)
      rw [HSP.out] at sp
      go_simp
      first | done | with_reducible rfl
    simp only [Act.put, List.setIfInBounds_toArray, List.set_cons_zero, List.set_cons_succ]
    refine held_take (i := 8) (d := some 18) (v := ?_) rfl (by kernel_rfl) (by kernel_rfl) (by kernel_rfl) (by kernel_rfl) (fun _ _ _ h => h) (by kernel_rfl) ?_ hHeld ?_
    rotate_left
    · intro w' hSw
      go_simp
      first | done | with_reducible rfl
    simp only [Act.put, List.setIfInBounds_toArray, List.set_cons_zero, List.set_cons_succ]
    refine held_take (i := 9) (d := some 19) (v := ?_) rfl (by kernel_rfl) (by kernel_rfl) (by kernel_rfl) (by kernel_rfl) (fun _ _ _ h => h) (by kernel_rfl) ?_ hHeld ?_
    rotate_left
    · intro w' hSw
      have hl := HLK.out w' (BW.out.trans (hSw.mono BW.out.size))
      go_simp
      first | done | (rw [hl]; done) | with_reducible rfl | skip
    simp only [Act.put, List.setIfInBounds_toArray, List.set_cons_zero, List.set_cons_succ]
    refine held_take (i := 10) (d := some 9) (v := ?_) rfl (by kernel_rfl) (by kernel_rfl) (by kernel_rfl) (by kernel_rfl) (fun _ _ _ h => h) (by kernel_rfl) ?_ hHeld ?_
    rotate_left
    · intro w' hSw
      go_simp
      first | done | with_reducible rfl
    simp only [Act.put, List.setIfInBounds_toArray, List.set_cons_zero, List.set_cons_succ]
    refine held_take (i := 11) (d := some 20) (v := ?_) rfl (by kernel_rfl) (by kernel_rfl) (by kernel_rfl) (by kernel_rfl) (fun _ _ _ h => h) (by kernel_rfl) ?_ hHeld ?_
    rotate_left
    · intro w' hSw
      go_simp
      first | done | with_reducible rfl
    simp only [Act.put, List.setIfInBounds_toArray, List.set_cons_zero, List.set_cons_succ]
    refine held_take (i := 12) (d := some 21) (v := ?_) rfl (by kernel_rfl) (by kernel_rfl) (by kernel_rfl) (by kernel_rfl) (fun _ _ _ h => h) (by kernel_rfl) ?_ hHeld ?_
    rotate_left
    · intro w' hSw
      go_simp
      first | done | with_reducible rfl
    simp only [Act.put, List.setIfInBounds_toArray, List.set_cons_zero, List.set_cons_succ]
    refine held_take (i := 13) (d := some 5) (v := ?_) rfl (by kernel_rfl) (by kernel_rfl) (by kernel_rfl) (by kernel_rfl) (fun _ _ _ h => h) (by kernel_rfl) ?_ hHeld ?_
    rotate_left
    · intro w' hSw
      go_simp
      first | done | with_reducible rfl
    simp only [Act.put, List.setIfInBounds_toArray, List.set_cons_zero, List.set_cons_succ]
    refine held_take (i := 14) (d := some 6) (v := ?_) rfl (by kernel_rfl) (by kernel_rfl) (by kernel_rfl) (by kernel_rfl) (fun _ _ _ h => h) (by kernel_rfl) ?_ hHeld ?_
    rotate_left
    · intro w' hSw
      go_simp
      first | done | with_reducible rfl
    simp only [Act.put, List.setIfInBounds_toArray, List.set_cons_zero, List.set_cons_succ]
    refine wpAnyH_done (by kernel_rfl) ?_ _
    clear hHeld
    have s0 := KS.out.cell 0
    have s1 := KS.out.cell 1
    have s2 := KS.out.cell 2
    have s3 := KS.out.cell 3
    have s4 := KS.out.cell 4
    have s5 := KS.out.cell 5
    have s6 := KS.out.cell 6
    simp only [List.getElem?_cons_zero, List.getElem?_cons_succ] at s0 s1 s2 s3 s4 s5 s6
    have r0 := KR.out.cell 0
    have r1 := KR.out.cell 1
    have r2 := KR.out.cell 2
    have r3 := KR.out.cell 3
    have r4 := KR.out.cell 4
    simp only [List.getElem?_cons_zero, List.getElem?_cons_succ] at r0 r1 r2 r3 r4
    have fr := KR.out.free
    have hz : ∀ i, (List.replicate m (0 : Int)).getD i 0 = 0 := fun i => by simp [List.getD, List.getElem?_replicate]; split <;> rfl
    have HV : Hid (V = .agg #[.int .i64 m, .int .i64 0, .int .i64 0, .int .i64 0, .int .i64 0]) := by
      show _ = _
      rw [HVV.out, HRN.out]
      simp only [kcV, hz]
    clear hz
    go_wp2
    refine bodyPost_ret (v := .agg #[.int .i64 m, .int .i64 0, .int .i64 0, .int .i64 0, .int .i64 0]) (by simp [results, Try.results175, go_sem, r0, r1, r2, r3, r4]) rfl ⟨by rw [HV.out], ?_⟩
    repeat (first | with_reducible refine Below.setCell ?_ ?_ _ | with_reducible refine Below.drew ?_)
    all_goals (first | exact BW.out | exact GR.out | (simp; done) | (simp; omega) | (have := GR.out; simp; omega))
  · have HLK := Lib.hid (LK.out _ _ hat hh)
    have hk2 : k < ts.length := by simpa using hk
    rw [getD_map hk2] at hl hr
    have hm := getD_mem hk2
    have hok := OK.out _ hm
    obtain ⟨hu, b, off, ha, hb, hc⟩ := actsT_at HTS.out (by rw [HK.out]; omega)
    subst ha
    have AT := Lib.hid (hc k (by rw [HK.out]; exact hk2))
    have HT := Lib.hid ((HTS.out.1 _ hm).below BW.out)
    have HBB := Lib.hid hb
    obtain ⟨t, htt⟩ : ∃ t, t = ts.getD k t0 := ⟨_, rfl⟩
    rw [← htt] at AT HT hok hl hr
    have hKK : k < K := by rw [HK.out]; exact hk2
    have HRS := Lib.hid (show RES = t.a.dep.set p t.a.n by rw [HRES.out, knownM, hl])
    obtain ⟨o1, o2⟩ := ok_dep hok
    have hdl := (ok_parts hok).2.2
    clear hat hh hl LA LK htt hc hu hm hok hk hk2 hb o2 HRES hr OK
    obtain ⟨⟨r, nn, dep, actor, kind, dst, bucket, mask, gr, gn, ups⟩, vd, vs⟩ := t
    have hsd := ints_len HT.out.1
    simp only at hsd hdl o1 HRS
    obtain ⟨da, dc, rfl⟩ := hsd
    have HDI := Lib.hid HT.out.1
    simp only at HDI
    have e1 : cn dep = (m : Int) := by rw [cn, if_pos o1, hdl]
    have e2 : ∀ i, cx dep i = dep.getD i 0 := fun i => by rw [cx, if_pos o1]
    have RC := Lib.hid (fun W (hW : Below w1.heap.size w1 W) => readClock_any _ dep W (HDI.out.below (B := 0) hW))
    rw [e1, e2, e2, e2, e2, hdl, o1] at RC
    have SF4 := Lib.hid (set_four dep p nn m (by rw [hdl]; exact hp) hp4)
    have HV : Hid (V = kcV m (dep.set p nn)) := by
      show _ = _
      rw [HVV.out, HRS.out]
    unfold kcV at HV
    rw [hdl] at AT
    generalize (dep.set p nn).getD 0 0 = z0 at *
    generalize (dep.set p nn).getD 1 0 = z1 at *
    generalize (dep.set p nn).getD 2 0 = z2 at *
    generalize (dep.set p nn).getD 3 0 = z3 at *
    generalize dep.getD 0 0 = d0 at *
    generalize dep.getD 1 0 = d1 at *
    generalize dep.getD 2 0 = d2 at *
    generalize dep.getD 3 0 = d3 at *
    clear HT HDI e1 e2 o1 hdl HRS HVV
    refine wp_region_held_drew (S := fun w' => Below w1.heap.size w1 w') (by kernel_rfl) ((Below.refl w1.heap.size w1).drew) (fun hHeld => ?_)
    refine held_take (i := 0) (d := some 10) (v := ?_) rfl (by kernel_rfl) (by kernel_rfl) (by kernel_rfl) (by kernel_rfl) (fun _ _ _ h => h) (by kernel_rfl) ?_ hHeld ?_
    rotate_left
    · intro w' hSw
      go_simp
      first | done | with_reducible rfl
    simp only [Act.put, List.setIfInBounds_toArray, List.set_cons_zero, List.set_cons_succ]
    refine held_take (i := 1) (d := some 11) (v := ?_) rfl (by kernel_rfl) (by kernel_rfl) (by kernel_rfl) (by kernel_rfl) (fun _ _ _ h => h) (by kernel_rfl) ?_ hHeld ?_
    rotate_left
    · intro w' hSw
      have gS := KS.out.below hSw KS.out.lt
      have s0 := gS.cell 0
      have s1 := gS.cell 1
      have s2 := gS.cell 2
      have s3 := gS.cell 3
      have s4 := gS.cell 4
      have s5 := gS.cell 5
      have s6 := gS.cell 6
      simp only [List.getElem?_cons_zero, List.getElem?_cons_succ] at s0 s1 s2 s3 s4 s5 s6
      go_simp
      first | done | with_reducible rfl
    simp only [Act.put, List.setIfInBounds_toArray, List.set_cons_zero, List.set_cons_succ]
    refine held_take (i := 2) (d := some 12) (v := ?_) rfl (by kernel_rfl) (by kernel_rfl) (by kernel_rfl) (by kernel_rfl) (fun _ _ _ h => h) (by kernel_rfl) ?_ hHeld ?_
    rotate_left
    · intro w' hSw
      go_simp
      first | done | with_reducible rfl
    simp only [Act.put, List.setIfInBounds_toArray, List.set_cons_zero, List.set_cons_succ]
    refine held_take (i := 3) (d := some 13) (v := ?_) rfl (by kernel_rfl) (by kernel_rfl) (by kernel_rfl) (by kernel_rfl) (fun _ _ _ h => h) (by kernel_rfl) ?_ hHeld ?_
    rotate_left
    · intro w' hSw
      go_simp
      first | done | with_reducible rfl
    simp only [Act.put, List.setIfInBounds_toArray, List.set_cons_zero, List.set_cons_succ]
    refine held_take (i := 4) (d := some 14) (v := ?_) rfl (by kernel_rfl) (by kernel_rfl) (by kernel_rfl) (by kernel_rfl) (fun _ _ _ h => h) (by kernel_rfl) ?_ hHeld ?_
    rotate_left
    · intro w' hSw
      go_simp
      first | done | with_reducible rfl
    simp only [Act.put, List.setIfInBounds_toArray, List.set_cons_zero, List.set_cons_succ]
    refine held_take (i := 5) (d := some 15) (v := ?_) rfl (by kernel_rfl) (by kernel_rfl) (by kernel_rfl) (by kernel_rfl) (fun _ _ _ h => h) (by kernel_rfl) ?_ hHeld ?_
    rotate_left
    · intro w' hSw
      go_simp
      first | done | with_reducible rfl
    simp only [Act.put, List.setIfInBounds_toArray, List.set_cons_zero, List.set_cons_succ]
    refine held_take (i := 6) (d := some 16) (v := ?_) rfl (by kernel_rfl) (by kernel_rfl) (by kernel_rfl) (by kernel_rfl) (fun _ _ _ h => h) (by kernel_rfl) ?_ hHeld ?_
    rotate_left
    · intro w' hSw
      go_simp
      first | done | with_reducible rfl
    simp only [Act.put, List.setIfInBounds_toArray, List.set_cons_zero, List.set_cons_succ]
    refine held_take (i := 7) (d := some 17) (v := ?_) rfl (by kernel_rfl) (by kernel_rfl) (by kernel_rfl) (by kernel_rfl) (fun _ _ _ h => h) (by kernel_rfl) ?_ hHeld ?_
    rotate_left
    · intro w' hSw
      have sp := (KS.out.below hSw KS.out.lt).cell (3 + p)
      rw [HSP.out] at sp
      go_simp
      first | done | with_reducible rfl
    simp only [Act.put, List.setIfInBounds_toArray, List.set_cons_zero, List.set_cons_succ]
    refine held_take (i := 8) (d := some 18) (v := ?_) rfl (by kernel_rfl) (by kernel_rfl) (by kernel_rfl) (by kernel_rfl) (fun _ _ _ h => h) (by kernel_rfl) ?_ hHeld ?_
    rotate_left
    · intro w' hSw
      go_simp
      first | done | with_reducible rfl
    simp only [Act.put, List.setIfInBounds_toArray, List.set_cons_zero, List.set_cons_succ]
    refine held_take (i := 9) (d := some 19) (v := ?_) rfl (by kernel_rfl) (by kernel_rfl) (by kernel_rfl) (by kernel_rfl) (fun _ _ _ h => h) (by kernel_rfl) ?_ hHeld ?_
    rotate_left
    · intro w' hSw
      have hl := HLK.out w' (BW.out.trans (hSw.mono BW.out.size))
      go_simp
      first | done | (rw [hl]; done) | with_reducible rfl | skip
    simp only [Act.put, List.setIfInBounds_toArray, List.set_cons_zero, List.set_cons_succ]
    refine held_take (i := 10) (d := some 9) (v := ?_) rfl (by kernel_rfl) (by kernel_rfl) (by kernel_rfl) (by kernel_rfl) (fun _ _ _ h => h) (by kernel_rfl) ?_ hHeld ?_
    rotate_left
    · intro w' hSw
      go_simp
      first | done | with_reducible rfl
    simp only [Act.put, List.setIfInBounds_toArray, List.set_cons_zero, List.set_cons_succ]
    refine held_take (i := 11) (d := some 20) (v := ?_) rfl (by kernel_rfl) (by kernel_rfl) (by kernel_rfl) (by kernel_rfl) (fun _ _ _ h => h) (by kernel_rfl) ?_ hHeld ?_
    rotate_left
    · intro w' hSw
      go_simp
      first | done | with_reducible rfl
    simp only [Act.put, List.setIfInBounds_toArray, List.set_cons_zero, List.set_cons_succ]
    refine held_take (i := 12) (d := some 21) (v := ?_) rfl (by kernel_rfl) (by kernel_rfl) (by kernel_rfl) (by kernel_rfl) (fun _ _ _ h => h) (by kernel_rfl) ?_ hHeld ?_
    rotate_left
    · intro w' hSw
      go_simp
      first | done | with_reducible rfl
    simp only [Act.put, List.setIfInBounds_toArray, List.set_cons_zero, List.set_cons_succ]
    refine held_take (i := 13) (d := some 5) (v := ?_) rfl (by kernel_rfl) (by kernel_rfl) (by kernel_rfl) (by kernel_rfl) (fun _ _ _ h => h) (by kernel_rfl) ?_ hHeld ?_
    rotate_left
    · intro w' hSw
      go_simp
      first | done | with_reducible rfl
    simp only [Act.put, List.setIfInBounds_toArray, List.set_cons_zero, List.set_cons_succ]
    refine held_take (i := 14) (d := some 6) (v := ?_) rfl (by kernel_rfl) (by kernel_rfl) (by kernel_rfl) (by kernel_rfl) (fun _ _ _ h => h) (by kernel_rfl) ?_ hHeld ?_
    rotate_left
    · intro w' hSw
      go_simp
      first | done | with_reducible rfl
    simp only [Act.put, List.setIfInBounds_toArray, List.set_cons_zero, List.set_cons_succ]
    refine wpAnyH_done (by kernel_rfl) ?_ _
    clear hHeld HLK
    have k0 : (0 : Int) ≤ (k : Int) := by omega
    have k1 : (k : Int) < (K : Int) := by omega
    have s0 := KS.out.cell 0
    have s1 := KS.out.cell 1
    have s2 := KS.out.cell 2
    have s3 := KS.out.cell 3
    have s4 := KS.out.cell 4
    have s5 := KS.out.cell 5
    have s6 := KS.out.cell 6
    simp only [List.getElem?_cons_zero, List.getElem?_cons_succ] at s0 s1 s2 s3 s4 s5 s6
    have c1 := (AT.out.below BW.out HBB.out).c1
    have c2 := (AT.out.below BW.out HBB.out).c2
    simp only at c1 c2
    have BD := Lib.hid (Below.refl w1.heap.size w1).drew
    go_wp2_with fail
    refine (RC.out _ BD.out).mono ?_
    rintro e w2 ⟨rfl, b2⟩
    clear c1 c2
    clear s0 s1 s2 s3 s4 s5 s6
    have b2' := BD.out.trans (b2.mono BD.out.size)
    clear b2
    replace BW := Lib.hid (BW.out.trans ((b2').mono BW.out.size))
    replace KS := Lib.hid (KS.out.below (b2') KS.out.lt)
    replace KR := Lib.hid (KR.out.below (b2') KR.out.lt)
    clear b2' BD
    have BSZ := Lib.hid BW.out.size
    have kC := Blk.new w2 #[.int .i64 m, .int .i64 d0, .int .i64 d1, .int .i64 d2, .int .i64 d3] 97
    have ba := (Below.refl w2.heap.size w2).alloc (Nat.le_refl _) (.cells #[.int .i64 m, .int .i64 d0, .int .i64 d1, .int .i64 d2, .int .i64 d3] 97)
    obtain ⟨pC, hpC⟩ : ∃ p, p = w2.heap.size := ⟨_, rfl⟩
    go_upto_region 5 with (fail)
    rw [← hpC] at kC
    try rw [← hpC]
    obtain ⟨w3, hW⟩ : ∃ W, W = w2.alloc (.cells #[.int .i64 m, .int .i64 d0, .int .i64 d1, .int .i64 d2, .int .i64 d3] 97) := ⟨_, rfl⟩
    rw [← hW] at ba kC ⊢
    have KC := Lib.hid kC
    have GC := Lib.hid (show w2.heap.size ≤ pC by omega)
    have NES_C := Lib.hid (show pS ≠ pC by have := KS.out.lt; omega)
    have NER_C := Lib.hid (show pR ≠ pC by have := KR.out.lt; omega)
    replace BW := Lib.hid (BW.out.trans ((ba).mono BW.out.size))
    replace KS := Lib.hid (KS.out.below (ba) KS.out.lt)
    replace KR := Lib.hid (KR.out.below (ba) KR.out.lt)
    clear ba hW kC hpC
    have c1 := (AT.out.below BW.out HBB.out).c1
    simp only at c1
    have fc := KC.out.free (1 + p)
    obtain ⟨yp, hyp⟩ : ∃ y, ([.int .i64 m, .int .i64 d0, .int .i64 d1, .int .i64 d2, .int .i64 d3] : List Value)[1 + p]? = some y := ⟨_, List.getElem?_eq_getElem (by simp; omega)⟩
    have cp := KC.out.cell (1 + p)
    rw [hyp] at cp
    clear hyp
    have s0 := KS.out.cell 0
    have s1 := KS.out.cell 1
    have s2 := KS.out.cell 2
    have s3 := KS.out.cell 3
    have s4 := KS.out.cell 4
    have s5 := KS.out.cell 5
    have s6 := KS.out.cell 6
    simp only [List.getElem?_cons_zero, List.getElem?_cons_succ] at s0 s1 s2 s3 s4 s5 s6
    go_upto_region 6 with (fail)
    clear s0 s1 s2 s3 s4 s5 s6
    clear c1 fc cp
    obtain ⟨w4, hw4⟩ : ∃ W, W = w3.setCell ⟨pC, 1 + p, none⟩ (.int .i64 nn) := ⟨_, rfl⟩
    rw [← hw4]
    have kc := KC.out.set (j := 1 + p) (by simp; omega) (.int .i64 nn)
    rw [SF4.out, ← hw4] at kc
    have kr := KR.out.other (p := ⟨pC, 1 + p, none⟩) (fun e => NER_C.out e.symm) (.int .i64 nn)
    rw [← hw4] at kr
    have bw := BW.out.setCell (p := ⟨pC, 1 + p, none⟩) (Nat.le_trans BSZ.out GC.out) (.int .i64 nn)
    rw [← hw4] at bw
    clear hw4
    have KC4 := Lib.hid kc
    have KR4 := Lib.hid kr
    have BW4 := Lib.hid bw
    clear kc kr bw KC KR KS BW
    have k0 := KC4.out.cell 0
    have k1 := KC4.out.cell 1
    have k2 := KC4.out.cell 2
    have k3 := KC4.out.cell 3
    have k4 := KC4.out.cell 4
    have r0 := KR4.out.cell 0
    have r1 := KR4.out.cell 1
    have r2 := KR4.out.cell 2
    have r3 := KR4.out.cell 3
    have r4 := KR4.out.cell 4
    simp only [List.getElem?_cons_zero, List.getElem?_cons_succ] at k0 k1 k2 k3 k4 r0 r1 r2 r3 r4
    have fr := KR4.out.free
    go_wp2
    refine bodyPost_ret (v := .agg #[.int .i64 m, .int .i64 z0, .int .i64 z1, .int .i64 z2, .int .i64 z3]) (by simp [results, Try.results175, go_sem, r0, r1, r2, r3, r4]) rfl ⟨by rw [HV.out], ?_⟩
    repeat (first | with_reducible refine Below.setCell ?_ ?_ _ | with_reducible refine Below.drew ?_)
    all_goals (first | exact BW4.out | exact GR.out | (simp; done) | (simp; omega) | (have := GR.out; simp; omega))
end Go.Proofs.Ytjjgigoehgabkaa
