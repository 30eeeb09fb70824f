/- UM, UN, UK, UO. -/
import Derived.Test.YtkcfcmigcphjlaaGreatGI
import Derived.Test.YtkcfcmigcphjlaaGreatLA
import Derived.Test.YtkcfcmigcphjlaaGreatGG
import Derived.Test.YtkcfcmigcphjlaaGreatGH
import Derived.Test.YtkcfcmigcphjlaaGreatGC
import Derived.Deep.DeepCutAuto



namespace Go.Proofs.YtkcfcmigcphjlaaGreat
open Go.RowKit
set_option linter.unusedVariables false
set_option linter.unusedSimpArgs false

def Apart (a b : ActM) : Prop := ¬ (a.r = b.r ∧ a.n = b.n)
/-- no two acts of a set have one name -/
theorem apart_of {l : List ActM} {n : Int} (h : setOkM l n = true) : l.Pairwise Apart := by
  obtain ⟨m, rfl, h1, h4, hl, ho, hc, hcl⟩ := setOk_parts h
  have hok := order_all l none ho
  rw [List.pairwise_iff_getElem]
  intro i j hi hj hij ⟨e1, e2⟩
  have hsi : l = l.take i ++ l[i] :: l.drop (i + 1) := by rw [← List.drop_eq_getElem_cons hi, List.take_append_drop]
  have hsj : l = l.take j ++ l[j] :: l.drop (j + 1) := by rw [← List.drop_eq_getElem_cons hj, List.take_append_drop]
  have ni := number_of ho hc hcl hsi
  have nj := number_of ho hc hcl hsj
  rw [e1, e2, nj] at ni
  obtain ⟨r0, r1, _⟩ := ok_parts (hok _ (List.getElem_mem hj))
  obtain ⟨p, hp⟩ := Int.eq_ofNat_of_zero_le r0
  have hpt : l[j].r.toNat = p := by omega
  rw [hpt] at ni
  have hsplit : l.take j = l.take i ++ l[i] :: (l.take j).drop (i + 1) := by
    have h2 : i < (l.take j).length := by rw [List.length_take]; omega
    have h3 : (l.take j)[i] = l[i] := by rw [List.getElem_take]
    have h4 : l.take i = (l.take j).take i := by rw [List.take_take, Nat.min_eq_left (by omega)]
    rw [h4, ← h3, ← List.drop_eq_getElem_cons h2, List.take_append_drop]
  rw [hsplit, cnt_app, show l[i] :: (l.take j).drop (i + 1) = [l[i]] ++ (l.take j).drop (i + 1) from rfl, cnt_app, cnt_one, if_pos (by omega)] at ni
  omega
theorem find_lo (r n : Int) : ∀ (l : List ActM) (i : Nat), findFrom r n l i = -1 ∨ (i : Int) ≤ findFrom r n l i
  | [], i => .inl rfl
  | a :: l, i => by
    rw [findFrom]
    split
    · exact .inr (Int.le_refl _)
    · rcases find_lo r n l (i + 1) with h | h
      · exact .inl h
      · exact .inr (by omega)
theorem atKey_atD : ∀ (l : List ActM) (i : Nat) (D : DataW Unit) (r n : Int) (z : DataW Unit), Maps.IsMap D → (∀ a ∈ l, I64 a.r ∧ I64 a.n) → I64 r → I64 n → l.Pairwise Apart →
    (atD l i D).atKey (nameL r n) z = if findFrom r n l i < 0 then D.atKey (nameL r n) z else .lit (.int .i64 (findFrom r n l i))
  | [], i, D, r, n, z, _, _, _, _, _ => by simp [atD, findFrom]
  | a :: l, i, D, r, n, z, hD, hl, hr, hn, hp => by
    have ha := hl a (by simp)
    obtain ⟨p1, p2⟩ := List.pairwise_cons.1 hp
    rw [atD, atKey_atD l (i + 1) _ r n z (hD.put _ _) (fun b hb => hl b (List.mem_cons_of_mem _ hb)) hr hn p2, findFrom]
    by_cases e : a.r = r ∧ a.n = n
    · rw [if_pos e]
      obtain ⟨e1, e2⟩ := e
      have hk := keyedName.key (nameKey a.r a.n ha.1 ha.2)
      subst e1
      subst e2
      have hno : findFrom a.r a.n l (i + 1) < 0 := by
        rw [findFrom_has]
        cases hh : hasM l a.r a.n
        · rfl
        · obtain ⟨b, hb, e1, e2⟩ := (has_iff _ _ _).1 hh
          exact absurd ⟨e1.symm, e2.symm⟩ (p1 b hb)
      rw [if_pos hno, Maps.atKey_put_same hD hk, if_neg (by omega)]
    · rw [if_neg e]
      have hne : nameL r n ≠ nameL a.r a.n := fun h => e (by
        have := nameL_inj hr hn ha.1 ha.2 h
        exact ⟨this.1.symm, this.2.symm⟩)
      rw [Maps.atKey_put_other hne]
theorem find_at (r n : Int) : ∀ (l : List ActM) (i : Nat), 0 ≤ findFrom r n l i → (l.getD ((findFrom r n l i).toNat - i) act0) ∈ l ∧ (l.getD ((findFrom r n l i).toNat - i) act0).r = r ∧ (l.getD ((findFrom r n l i).toNat - i) act0).n = n
  | [], i, h => by simp [findFrom] at h
  | a :: l, i, h => by
    rw [findFrom] at h ⊢
    by_cases e : a.r = r ∧ a.n = n
    · rw [if_pos e]
      simp [e.1, e.2]
    · rw [if_neg e] at h ⊢
      have hr := findFrom_range r n l (i + 1) h
      have := find_at r n l (i + 1) h
      rw [show (findFrom r n l (i + 1)).toNat - i = ((findFrom r n l (i + 1)).toNat - (i + 1)) + 1 from by omega, List.getD_cons_succ]
      exact ⟨List.mem_cons_of_mem _ this.1, this.2⟩
theorem find_is (l : List ActM) (r n : Int) (h : 0 ≤ findM l r n) : (l.getD (findM l r n).toNat act0) ∈ l ∧ (l.getD (findM l r n).toNat act0).r = r ∧ (l.getD (findM l r n).toNat act0).n = n := by
  have := find_at r n l 0 h
  unfold findM
  simpa using this
theorem apart_eq {l : List ActM} (h : l.Pairwise Apart) {x y : ActM} (hx : x ∈ l) (hy : y ∈ l) (e : x.r = y.r ∧ x.n = y.n) : x = y := by
  induction l with
  | nil => cases hx
  | cons a l ih =>
    obtain ⟨p1, p2⟩ := List.pairwise_cons.1 h
    rcases List.mem_cons.1 hx with rfl | qx <;> rcases List.mem_cons.1 hy with rfl | qy
    · rfl
    · exact absurd e (p1 y qy)
    · exact absurd ⟨e.1.symm, e.2.symm⟩ (p1 x qx)
    · exact ih p2 qx qy

/-- the program's loop -/
def uniP (l : List ActM) : List ActM → List ActM → Option (List ActM)
  | out, [] => some out
  | out, b :: rest => if hasM l b.r b.n = true then (if sameM (l.getD (findM l b.r b.n).toNat act0) b = true then uniP l out rest else none) else uniP l (insM out b) rest
theorem uni_eq (l : List ActM) (hl : l.Pairwise Apart) : ∀ (rest out : List ActM), out.Pairwise (fun a b => aheadM a b = true) → rest.Pairwise Apart → (∀ x ∈ l, x ∈ out) → (∀ b ∈ rest, ∀ x ∈ out, (x.r = b.r ∧ x.n = b.n) → x ∈ l) →
    uniP l out rest = unionFrom out rest
  | [], out, _, _, _, _ => rfl
  | b :: rest, out, ho, hr, h1, h2 => by
    obtain ⟨p1, p2⟩ := List.pairwise_cons.1 hr
    rw [uniP, unionFrom]
    by_cases hh : hasM l b.r b.n = true
    · obtain ⟨y, hy, e1, e2⟩ := (has_iff _ _ _).1 hh
      have hf : 0 ≤ findM out b.r b.n := by
        by_cases h : findM out b.r b.n < 0
        · rw [find_has] at h
          rw [(has_iff _ _ _).2 ⟨y, h1 y hy, e1, e2⟩] at h
          cases h
        · omega
      have hfl : 0 ≤ findM l b.r b.n := by
        by_cases h : findM l b.r b.n < 0
        · rw [find_has, hh] at h
          cases h
        · omega
      obtain ⟨i1, i2, i3⟩ := find_is out _ _ hf
      obtain ⟨j1, j2, j3⟩ := find_is l _ _ hfl
      have hsame : out.getD (findM out b.r b.n).toNat act0 = l.getD (findM l b.r b.n).toNat act0 :=
        apart_eq hl (h2 b (by simp) _ i1 ⟨i2, i3⟩) j1 ⟨by omega, by omega⟩
      rw [if_pos hh, if_pos hf, hsame]
      split
      · exact uni_eq l hl rest out ho p2 h1 fun c hc => h2 c (List.mem_cons_of_mem _ hc)
      · rfl
    · have hho : hasM out b.r b.n = false := by
        cases h : hasM out b.r b.n
        · rfl
        · obtain ⟨y, hy, e⟩ := (has_iff _ _ _).1 h
          exact absurd ((has_iff _ _ _).2 ⟨y, h2 b (by simp) y hy e, e⟩) hh
      have hf : ¬ 0 ≤ findM out b.r b.n := by
        have := (find_has out b.r b.n).2 hho
        omega
      rw [if_neg hh, if_neg hf, insM_put ho]
      refine uni_eq l hl rest (putM out b) (putM_pairwise ho hho) p2 (fun x hx => (putM_mem _ _ _).2 (.inr (h1 x hx))) fun c hc x hx e => ?_
      rcases (putM_mem _ _ _).1 hx with rfl | hx
      · exact absurd e (p1 c hc)
      · exact h2 c (List.mem_cons_of_mem _ hc) x hx e
theorem union_prog {l m : List ActM} {n : Int} (h1 : setOkM l n = true) (h2 : setOkM m n = true) : unionM l m n = doneM n (uniP l l m) := by
  rw [union_eq h1 h2]
  obtain ⟨k, rfl, _, _, _, ho, _, _⟩ := setOk_parts h1
  rw [uni_eq l (apart_of h1) m l ((order_iff l none).1 ho).2.1 (apart_of h2) (fun x hx => hx) (fun _ _ _ hx _ => hx)]
def unL (l m : List ActM) (n : Int) : List ActM := (unionM l m n).getD []
def unB (l m : List ActM) (n : Int) : Bool := (unionM l m n).isSome
theorem szL_un (l m : List ActM) (n : Int) : szL (unL l m n) ≤ 1980 := by
  have key : ∀ L, unionM l m n = some L → szL L ≤ 1980 := fun L h => by
    unfold unionM at h
    split at h
    · split at h
      · split at h
        · cases h; rename_i hs; exact szL_setOk hs
        · cases h
      · cases h
    · cases h
  unfold unL
  cases h : unionM l m n with
  | none => simp [szL]
  | some L => exact key L h
end Go.Proofs.YtkcfcmigcphjlaaGreat



namespace Go.Proofs.YtkcfcmigcphjlaaGreat
open Go.RowKit
set_option linter.unusedVariables false
set_option linter.unusedSimpArgs false

theorem look_is {mb L : Nat} {D : DataW Unit} {r n c : Int} (W : World) (hown : W.ownsMap Tryz.prog 91 (plainElem Tryz.prog 3) mb L D) (hr : I64 r) (hn : I64 n)
    (hat : D.atKey (nameL r n) (.lit (.int .i64 0)) = .lit (.int .i64 c)) : (Instr.lookup 52 (.map (some mb)) (nameV r n) true).run Tryz.prog W = .ok (.tuple #[.int .i64 c, .bool (Maps.has D (nameL r n))]) W := by
  have hz : (zeroValue 3).run Tryz.prog W = .ok (.int .i64 0) W := by kernel_rfl
  obtain ⟨v, ps, hrun, hv⟩ := hown.look_ok (t := 52) keyedName Tryz.underlying52 hz (zd := .lit (.int .i64 0)) (zp := []) (plainElem_int Tryz.underlying3 (by decide)) (nameKey r n hr hn)
  obtain ⟨c', rfl, hc, _⟩ := plainElem_int_inv Tryz.underlying3 hv
  rw [hat] at hc
  simp only [Prod.mk.injEq, DataW.lit.injEq, Lit.int.injEq, true_and] at hc
  rw [hrun, hc.1]

theorem ret_un {w w' : World} {v : Value} {l m out : List ActM} {n : Int} {lo : Nat} (hU : unionM l m n = some out) (hr : Row w' lo v out) (hlo : w.heap.size ≤ lo) (hb : Below w.heap.size w w') : RetLB w (unL l m n) (unB l m n) (.returned (.tuple #[v, .bool true])) w' := by
  obtain ⟨bs, ho, hge⟩ := hr.own
  have e1 : unL l m n = out := by simp [unL, hU]
  have e2 : unB l m n = true := by simp [unB, hU]
  rw [e1, e2]
  exact ⟨v, bs, rfl, ho, fun b hb => Nat.le_trans hlo (hge b hb), hb⟩
theorem ret_no {w w' : World} {l m : List ActM} {n : Int} (hU : unionM l m n = none) (hb : Below w.heap.size w w') : RetLB w (unL l m n) (unB l m n) (.returned (.tuple #[.slice none 0 0, .bool false])) w' := by
  have e1 : unL l m n = [] := by simp [unL, hU]
  have e2 : unB l m n = false := by simp [unB, hU]
  rw [e1, e2]
  exact ⟨_, [], rfl, .inl ⟨rfl, rfl, _, _, rfl⟩, (fun b hb => nomatch hb), hb⟩
theorem uni_no1 {l m : List ActM} {n : Int} (h : setOkM l n = false) : unionM l m n = none := by simp [unionM, h]
theorem uni_no2 {l m : List ActM} {n : Int} (h : setOkM m n = false) : unionM l m n = none := by simp [unionM, h]

set_option maxRecDepth 100000 in
set_option maxHeartbeats 6400000 in
theorem implUnion_any (v v' : Value) (l m : List ActM) (n : Int) (w : World) (h : Acts w v l) (h' : Acts w v' m) (hn : I64 n) : Calls Tryz.prog 21 #[v, v', .int .i64 n] w (RetLB w (unL l m n) (unB l m n)) := by
  obtain ⟨ts, rfl, ht⟩ := h
  obtain ⟨us, rfl, hu⟩ := h'
  obtain ⟨a, cap, rfl⟩ := actsT_len ht
  obtain ⟨x, xcap, rfl⟩ := actsT_len hu
  obtain ⟨L, hL⟩ : ∃ L, L = ts.length := ⟨_, rfl⟩
  obtain ⟨M, hM⟩ : ∃ M, M = us.length := ⟨_, rfl⟩
  have RS := Lib.hid (fun W (hW : Below w.heap.size w W) => readSet_any (.slice a ts.length cap) ts n W (ht.below hW) hn)
  have SO := Lib.hid (fun W (hW : Below w.heap.size w W) => implSetOk_any (.slice x us.length xcap) (us.map ActT.a) n W ⟨us, rfl, hu.below hW⟩ hn)
  have CV := Lib.hid (fun (hs : SmallL (ts.map ActT.a)) G W (hW : Below w.heap.size w W) (k : Blk W G [.slice a ts.length cap]) => copyVals_any (.slice a ts.length cap) ts G W (ht.below hW) hs k)
  rw [← hL] at RS CV ht ⊢
  rw [← hM] at SO hu ⊢
  have HL := Lib.hid hL
  have HMl := Lib.hid hM
  have HA := Lib.hid ht
  have HU := Lib.hid hu
  clear hL hM ht hu
  obtain ⟨RL, hRL⟩ : ∃ R, R = unL (ts.map ActT.a) (us.map ActT.a) n := ⟨_, rfl⟩
  obtain ⟨RB, hRB⟩ : ∃ R, R = unB (ts.map ActT.a) (us.map ActT.a) n := ⟨_, rfl⟩
  rw [← hRL, ← hRB]
  have HR := Lib.hid (And.intro hRL hRB)
  clear hRL hRB
  cases hs : setOkM (ts.map ActT.a) n
  · have HN := Lib.hid (fun w' (hb : Below w.heap.size w w') => (show RetLB w RL RB (.returned (.tuple #[.slice none 0 0, .bool false])) w' by rw [HR.out.1, HR.out.2]; exact ret_no (uni_no1 hs) hb))
    have H1 := Lib.hid hs
    clear hs CV SO
    go_enter Tryz.func21, Tryz.ntmps21
    go_wp2_with fail
    refine (RS.out w (Below.refl _ _)).mono ?_
    rintro e w1 ⟨b1, (⟨hs, mb, hmb, rfl, own1⟩ | ⟨hs, rfl⟩)⟩
    · rw [H1.out] at hs; cases hs
    · have B1 := Lib.hid b1
      clear b1 hs
      simp only [noSet]
      go_wp2_with fail
      go_ret2
      exact HN.out _ (B1.out.alloc B1.out.size _)
  cases hs2 : setOkM (us.map ActT.a) n
  · have HN := Lib.hid (fun w' (hb : Below w.heap.size w w') => (show RetLB w RL RB (.returned (.tuple #[.slice none 0 0, .bool false])) w' by rw [HR.out.1, HR.out.2]; exact ret_no (uni_no2 hs2) hb))
    have H1 := Lib.hid hs
    have H2 := Lib.hid hs2
    clear hs hs2 CV
    go_enter Tryz.func21, Tryz.ntmps21
    go_wp2_with fail
    refine (RS.out w (Below.refl _ _)).mono ?_
    rintro e w1 ⟨b1, (⟨hs, mb, hmb, rfl, own1⟩ | ⟨hs, rfl⟩)⟩
    rotate_left
    · rw [H1.out] at hs; cases hs
    · have B1 := Lib.hid b1
      clear b1 hs own1 hmb
      simp only [setVal]
      go_wp2_with fail
      refine (SO.out _ (B1.out.alloc B1.out.size _)).mono ?_
      rintro e w2 ⟨rfl, b2⟩
      rw [H2.out]
      have B2 := Lib.hid ((B1.out.alloc B1.out.size _).trans (b2.mono (B1.out.alloc B1.out.size _).size))
      clear b2
      go_wp2_with fail
      go_ret2
      exact HN.out _ B2.out
  have HN := Lib.hid (fun (hU : doneM n (uniP (ts.map ActT.a) (ts.map ActT.a) (us.map ActT.a)) = none) w' (hb : Below w.heap.size w w') => (show RetLB w RL RB (.returned (.tuple #[.slice none 0 0, .bool false])) w' by rw [HR.out.1, HR.out.2]; exact ret_no (by rw [union_prog hs hs2]; exact hU) hb))
  have HY := Lib.hid (fun out (hU : doneM n (uniP (ts.map ActT.a) (ts.map ActT.a) (us.map ActT.a)) = some out) w' v lo (hr : Row w' lo v out) (hlo : w.heap.size ≤ lo) (hb : Below w.heap.size w w') => (show RetLB w RL RB (.returned (.tuple #[v, .bool true])) w' by rw [HR.out.1, HR.out.2]; exact ret_un (by rw [union_prog hs hs2]; exact hU) hr hlo hb))
  obtain ⟨O, hO⟩ : ∃ O, O = uniP (ts.map ActT.a) (ts.map ActT.a) (us.map ActT.a) := ⟨_, rfl⟩
  rw [← hO] at HN HY
  have HO := Lib.hid hO
  have H1 := Lib.hid hs
  have H2 := Lib.hid hs2
  have L60 : L ≤ 60 := by rw [HL.out]; have := (setOk_all hs).2.2.1; simpa using this
  have M60 : M ≤ 60 := by rw [HMl.out]; have := (setOk_all hs2).2.2.1; simpa using this
  have SL := Lib.hid (setOk_small hs)
  have OKT := Lib.hid (fun t (ht : t ∈ ts) => (setOk_all hs).2.2.2 t.a (List.mem_map_of_mem ht))
  have OKU := Lib.hid (fun t (ht : t ∈ us) => (setOk_all hs2).2.2.2 t.a (List.mem_map_of_mem ht))
  have APT := Lib.hid (apart_of hs)
  clear hs hs2 hO HR
  go_enter Tryz.func21, Tryz.ntmps21
  go_wp2_with fail
  refine (RS.out w (Below.refl _ _)).mono ?_
  rintro e w1 ⟨b1, (⟨hs, mb, hmb, rfl, own1⟩ | ⟨hs, rfl⟩)⟩
  rotate_left
  · rw [H1.out] at hs; cases hs
  have B1 := Lib.hid b1
  have OWN1 := Lib.hid own1
  clear b1 hs own1 hmb RS
  simp only [setVal]
  go_upto_region 2 with (fail)
  have b2 := B1.out.alloc B1.out.size (.cells #[.slice a L cap, .map (some mb), .int .i64 n, .int .i64 (cntM (ts.map ActT.a) 0), .int .i64 (cntM (ts.map ActT.a) 1), .int .i64 (cntM (ts.map ActT.a) 2), .int .i64 (cntM (ts.map ActT.a) 3)] 57)
  have o2 := OWN1.out.alloc (.cells #[.slice a L cap, .map (some mb), .int .i64 n, .int .i64 (cntM (ts.map ActT.a) 0), .int .i64 (cntM (ts.map ActT.a) 1), .int .i64 (cntM (ts.map ActT.a) 2), .int .i64 (cntM (ts.map ActT.a) 3)] 57)
  have k2 := Blk.new w1 #[.slice a L cap, .map (some mb), .int .i64 n, .int .i64 (cntM (ts.map ActT.a) 0), .int .i64 (cntM (ts.map ActT.a) 1), .int .i64 (cntM (ts.map ActT.a) 2), .int .i64 (cntM (ts.map ActT.a) 3)] 57
  obtain ⟨SB, hSB⟩ : ∃ q, q = w1.heap.size := ⟨_, rfl⟩
  rw [← hSB] at k2 ⊢
  obtain ⟨w2, hw2⟩ : ∃ W, W = w1.alloc (.cells #[.slice a L cap, .map (some mb), .int .i64 n, .int .i64 (cntM (ts.map ActT.a) 0), .int .i64 (cntM (ts.map ActT.a) 1), .int .i64 (cntM (ts.map ActT.a) 2), .int .i64 (cntM (ts.map ActT.a) 3)] 57) := ⟨_, rfl⟩
  rw [← hw2] at b2 o2 k2 ⊢
  have B2 := Lib.hid b2
  have O2 := Lib.hid o2
  have K2 := Lib.hid k2
  clear b2 o2 k2 hw2 hSB OWN1 B1
  go_wp2_with fail
  refine (SO.out _ B2.out).mono ?_
  rintro e w3 ⟨rfl, b3⟩
  rw [H2.out]
  have B3 := Lib.hid (B2.out.trans (b3.mono B2.out.size))
  have O3 := Lib.hid (O2.out.kept (below_grown b3 none) (by simp))
  have K3 := Lib.hid (K2.out.below b3 K2.out.lt)
  clear b3 B2 O2 K2 SO H2
  go_wp2_with fail
  refine (values_any _ _ _ _).mono ?_
  rintro e w4 ⟨G, rfl, hG, kG, b4⟩
  have B4 := Lib.hid (B3.out.trans (b4.mono B3.out.size))
  have O4 := Lib.hid (O3.out.kept (below_grown b4 none) (by simp))
  have K4 := Lib.hid (K3.out.below b4 K3.out.lt)
  have KG := Lib.hid kG
  clear b4 B3 O3 K3 kG hG
  go_wp2_with fail
  refine (CV.out SL.out G w4 B4.out KG.out).mono ?_
  rintro e w5 ⟨v5, rfl, r5, b5⟩
  have R5 := Lib.hid r5
  have B5 := Lib.hid b5
  clear r5 b5 KG CV
  go_wp2_with fail
  go_loopw [10, 34] (fun sv i wr => ∃ (k : Nat) (us' : List ActM) (u : Value), u = sv ∧ k ≤ M ∧ i = .int .i64 k ∧ us'.length ≤ 60 + k ∧ Hid (O = uniP (ts.map ActT.a) us' ((us.map ActT.a).drop k)) ∧ Hid (Row wr w4.heap.size u us') ∧ Hid (Below w4.heap.size w4 wr)) (fun _ i _ => M - (intOf i).toNat)
  case atStart => exact ⟨0, ts.map ActT.a, _, rfl, Nat.zero_le _, rfl, by rw [List.length_map, ← HL.out]; omega, HO.out, R5.out, B5.out⟩
  case round =>
    obtain ⟨k, out, u, hu, hk, rfl, hul, hg, ho, hbel⟩ := hrel
    subst hu
    clear R5 B5
    have hszw := Lib.hid (Nat.le_trans B4.out.size hbel.out.size)
    have BW := Lib.hid (B4.out.trans (hbel.out.mono B4.out.size))
    obtain ⟨ua, uc, hsh⟩ : ∃ ua uc, u = .slice ua out.length uc := by
      obtain ⟨tt, cs, h1, h2, _⟩ := ho.out
      obtain ⟨x, c, hx⟩ := row_shape h2
      exact ⟨x, c, by rw [hx, ← h1, List.length_map]⟩
    subst hsh
    by_cases hlt : k < M
    · obtain ⟨hz, b, off, rfl, hb, hc⟩ := actsT_at HU.out (by omega)
      clear hz
      have hm := getD_mem (ts := us) (i := k) (by rw [← HMl.out]; exact hlt)
      have AT := Lib.hid ((hc k hlt).below BW.out hb)
      have HT := Lib.hid ((HU.out.1 _ hm).below BW.out)
      have OKP := Lib.hid (OKU.out _ hm)
      have hst := hg.out
      rw [drop_ts (by rw [← HMl.out]; exact hlt), uniP] at hst
      obtain ⟨p, htt⟩ : ∃ p, p = us.getD k t0 := ⟨_, rfl⟩
      rw [← htt] at AT HT OKP hst
      clear hc hm hg htt hb
      obtain ⟨pa, pvd, pvs⟩ := p
      obtain ⟨da, dc, hda⟩ : ∃ da dc, pvd = .slice da pa.dep.length dc := ints_len HT.out.1
      obtain ⟨dua, duc, hdu⟩ : ∃ da dc, pvs = .slice da pa.ups.length dc := ups_len HT.out.2
      subst hda
      subst hdu
      simp only at hst
      have HST := Lib.hid hst
      clear hst
      have i0 : (0 : Int) ≤ (k : Int) := by omega
      have i1 : (k : Int) < (M : Int) := by omega
      have c0 := AT.out.c0
      have c1 := AT.out.c1
      have c2 := AT.out.c2
      have c3 := AT.out.c3
      have c4 := AT.out.c4
      have c5 := AT.out.c5
      have c6 := AT.out.c6
      have c7 := AT.out.c7
      have c8 := AT.out.c8
      have c9 := AT.out.c9
      have c10 := AT.out.c10
      simp only at c0 c1 c2 c3 c4 c5 c6 c7 c8 c9 c10
      go_upto_region 8 with (fail)
      clear c0 c1 c2 c3 c4 c5 c6 c7 c8 c9 c10 i0 i1
      have bC := (Below.refl wr.heap.size wr).alloc (Nat.le_refl _) (.cells #[.int .i64 pa.r, .int .i64 pa.n, .slice da pa.dep.length dc, .int .i64 pa.actor, .int .i64 pa.kind, .int .i64 pa.to, .int .i64 pa.bucket, .int .i64 pa.mask, .int .i64 pa.gr, .int .i64 pa.gn, .slice dua pa.ups.length duc] 33)
      have kC := Blk.new wr #[.int .i64 pa.r, .int .i64 pa.n, .slice da pa.dep.length dc, .int .i64 pa.actor, .int .i64 pa.kind, .int .i64 pa.to, .int .i64 pa.bucket, .int .i64 pa.mask, .int .i64 pa.gr, .int .i64 pa.gn, .slice dua pa.ups.length duc] 33
      obtain ⟨CB, hCB⟩ : ∃ q, q = wr.heap.size := ⟨_, rfl⟩
      rw [← hCB] at kC ⊢
      obtain ⟨W5, hW5⟩ : ∃ W, W = wr.alloc (.cells #[.int .i64 pa.r, .int .i64 pa.n, .slice da pa.dep.length dc, .int .i64 pa.actor, .int .i64 pa.kind, .int .i64 pa.to, .int .i64 pa.bucket, .int .i64 pa.mask, .int .i64 pa.gr, .int .i64 pa.gn, .slice dua pa.ups.length duc] 33) := ⟨_, rfl⟩
      rw [← hW5] at bC kC ⊢
      have C5 := Lib.hid bC
      have KC := Lib.hid kC
      clear bC kC hW5 hCB
      have T5 := Lib.hid (HT.out.below C5.out)
      have B5 := Lib.hid (BW.out.trans (C5.out.mono BW.out.size))
      have KS5 := Lib.hid ((K4.out.below hbel.out K4.out.lt).below C5.out (K4.out.below hbel.out K4.out.lt).lt)
      have HM := Lib.hid ((O4.out.kept (below_grown hbel.out none) (by simp)).kept (below_grown C5.out none) (by simp))
      have HB := Lib.hid (name_bounds OKP.out)
      have NM := Lib.hid (fun W (hW : Below W5.heap.size W5 W) => (show Calls Tryz.prog 60 #[.agg #[.int .i64 pa.r, .int .i64 pa.n, .slice da pa.dep.length dc, .int .i64 pa.actor, .int .i64 pa.kind, .int .i64 pa.to, .int .i64 pa.bucket, .int .i64 pa.mask, .int .i64 pa.gr, .int .i64 pa.gn, .slice dua pa.ups.length duc]] W (NameMade W pa) from nameOf_any (⟨pa, .slice da pa.dep.length dc, .slice dua pa.ups.length duc⟩ : ActT) W (T5.out.below hW)))
      have hhas := has_atD (ts.map ActT.a) 0 (.map []) pa.r pa.n Maps.isMap_empty (fun b hb => by obtain ⟨t, ht, rfl⟩ := List.mem_map.1 hb; exact name_bounds (OKT.out t ht)) HB.out.1 HB.out.2
      rw [show Maps.has (.map [] : DataW Unit) (nameL pa.r pa.n) = false from rfl, Bool.or_false] at hhas
      have hhas : Maps.has (atD (ts.map ActT.a) 0 (.map [])) (nameL pa.r pa.n) = hasM (ts.map ActT.a) pa.r pa.n := hhas
      have hat := atKey_atD (ts.map ActT.a) 0 (.map []) pa.r pa.n (.lit (.int .i64 0)) Maps.isMap_empty (fun b hb => by obtain ⟨t, ht, rfl⟩ := List.mem_map.1 hb; exact name_bounds (OKT.out t ht)) HB.out.1 HB.out.2 APT.out
      have hfm : findFrom pa.r pa.n (ts.map ActT.a) 0 = findM (ts.map ActT.a) pa.r pa.n := rfl
      rw [hfm] at hat
      by_cases hf : findM (ts.map ActT.a) pa.r pa.n < 0
      · rw [if_pos hf] at hat
        have hno := (find_has _ _ _).1 hf
        rw [hno] at hhas
        have HX := Lib.hid hhas
        have HAT := Lib.hid (show (atD (ts.map ActT.a) 0 (.map [])).atKey (nameL pa.r pa.n) (.lit (.int .i64 0)) = .lit (.int .i64 0) from hat)
        have HSTEP := Lib.hid (show O = uniP (ts.map ActT.a) (insM out pa) ((us.map ActT.a).drop (k + 1)) by rw [HST.out, if_neg (by rw [hno]; decide)])
        clear hat hhas hfm hf hno HST
        refine wp_region_held_drew (S := fun w' => Below W5.heap.size W5 w') (by kernel_rfl) ((Below.refl W5.heap.size W5).drew) (fun hHeld => ?_)
        refine held_take (i := 0) (d := some 39) (v := ?_) rfl (by kernel_rfl) (by kernel_rfl) (by kernel_rfl) (by kernel_rfl) (fun _ _ _ h => h) (by kernel_rfl) ?_ hHeld ?_
        rotate_left
        · intro w' hSw
          go_simp
          first | done | with_reducible rfl
        simp only [Act.put, List.setIfInBounds_toArray, List.set_cons_zero, List.set_cons_succ]
        refine held_take (i := 1) (d := some 40) (v := ?_) rfl (by kernel_rfl) (by kernel_rfl) (by kernel_rfl) (by kernel_rfl) (fun _ _ _ h => h) (by kernel_rfl) ?_ hHeld ?_
        rotate_left
        · intro w' hSw
          have gS := KS5.out.below hSw KS5.out.lt
          have s0 := gS.cell 0
          have s1 := gS.cell 1
          have s2 := gS.cell 2
          have s3 := gS.cell 3
          have s4 := gS.cell 4
          have s5 := gS.cell 5
          have s6 := gS.cell 6
          simp only [List.getElem?_cons_zero, List.getElem?_cons_succ] at s0 s1 s2 s3 s4 s5 s6
          go_simp
          first | done | with_reducible rfl
        simp only [Act.put, List.setIfInBounds_toArray, List.set_cons_zero, List.set_cons_succ]
        refine held_take (i := 2) (d := some 41) (v := ?_) rfl (by kernel_rfl) (by kernel_rfl) (by kernel_rfl) (by kernel_rfl) (fun _ _ _ h => h) (by kernel_rfl) ?_ hHeld ?_
        rotate_left
        · intro w' hSw
          have gC := KC.out.below hSw KC.out.lt
          have s0 := gC.cell 0
          have s1 := gC.cell 1
          have s2 := gC.cell 2
          have s3 := gC.cell 3
          have s4 := gC.cell 4
          have s5 := gC.cell 5
          have s6 := gC.cell 6
          have s7 := gC.cell 7
          have s8 := gC.cell 8
          have s9 := gC.cell 9
          have s10 := gC.cell 10
          simp only [List.getElem?_cons_zero, List.getElem?_cons_succ] at s0 s1 s2 s3 s4 s5 s6 s7 s8 s9 s10
          go_simp
          first | done | with_reducible rfl
        simp only [Act.put, List.setIfInBounds_toArray, List.set_cons_zero, List.set_cons_succ]
        refine wpAnyH_ready (rs := [3]) (by kernel_rfl) (by simp) ?_
        refine AllReadyH.cons rfl (fun K hK => ?_) AllReadyH.nil
        go_simp
        refine (NM.out _ hHeld).mono ?_
        rintro e W6 ⟨rfl, b6⟩
        have D6 := hHeld.trans (b6.mono hHeld.size)
        refine hK.out _ _ D6 (fun hHeld => ?_)
        clear hK K
        refine held_take (i := 4) (d := some 43) (v := ?_) rfl (by kernel_rfl) (by kernel_rfl) (by kernel_rfl) (by kernel_rfl) (fun _ _ _ h => h) (by kernel_rfl) ?_ hHeld ?_
        rotate_left
        · intro w' hSw
          have hl := look_is _ (HM.out.kept (below_grown hSw none) (by simp)) HB.out.1 HB.out.2 HAT.out
          rw [HX.out] at hl
          go_simp
          first | done | (rw [hl]; done) | with_reducible rfl | skip
        simp only [Act.put, List.setIfInBounds_toArray, List.set_cons_zero, List.set_cons_succ]
        refine held_take (i := 5) (d := some 38) (v := ?_) rfl (by kernel_rfl) (by kernel_rfl) (by kernel_rfl) (by kernel_rfl) (fun _ _ _ h => h) (by kernel_rfl) ?_ hHeld ?_
        rotate_left
        · intro w' hSw
          go_simp
          first | done | with_reducible rfl
        simp only [Act.put, List.setIfInBounds_toArray, List.set_cons_zero, List.set_cons_succ]
        refine held_take (i := 6) (d := some 44) (v := ?_) rfl (by kernel_rfl) (by kernel_rfl) (by kernel_rfl) (by kernel_rfl) (fun _ _ _ h => h) (by kernel_rfl) ?_ hHeld ?_
        rotate_left
        · intro w' hSw
          go_simp
          first | done | with_reducible rfl
        simp only [Act.put, List.setIfInBounds_toArray, List.set_cons_zero, List.set_cons_succ]
        refine held_take (i := 7) (d := some 45) (v := ?_) rfl (by kernel_rfl) (by kernel_rfl) (by kernel_rfl) (by kernel_rfl) (fun _ _ _ h => h) (by kernel_rfl) ?_ hHeld ?_
        rotate_left
        · intro w' hSw
          go_simp
          first | done | with_reducible rfl
        simp only [Act.put, List.setIfInBounds_toArray, List.set_cons_zero, List.set_cons_succ]
        refine held_take (i := 8) (d := some 13) (v := ?_) rfl (by kernel_rfl) (by kernel_rfl) (by kernel_rfl) (by kernel_rfl) (fun _ _ _ h => h) (by kernel_rfl) ?_ hHeld ?_
        rotate_left
        · intro w' hSw
          go_simp
          first | done | with_reducible rfl
        simp only [Act.put, List.setIfInBounds_toArray, List.set_cons_zero, List.set_cons_succ]
        refine held_take (i := 9) (d := some 14) (v := ?_) rfl (by kernel_rfl) (by kernel_rfl) (by kernel_rfl) (by kernel_rfl) (fun _ _ _ h => h) (by kernel_rfl) ?_ hHeld ?_
        rotate_left
        · intro w' hSw
          go_simp
          first | done | with_reducible rfl
        simp only [Act.put, List.setIfInBounds_toArray, List.set_cons_zero, List.set_cons_succ]
        refine wpAnyH_done (by kernel_rfl) ?_ _
        have E6 := Lib.hid D6
        clear D6 hHeld b6
        have RW6 := Lib.hid ((ho.out.below C5.out).below E6.out)
        have B6 := Lib.hid (B5.out.trans (E6.out.mono B5.out.size))
        have L6 := Lib.hid ((hbel.out.trans (C5.out.mono hbel.out.size)).trans (E6.out.mono (hbel.out.trans (C5.out.mono hbel.out.size)).size))
        have KC6 := KC.out.below E6.out KC.out.lt
        have c0 := KC6.cell 0
        have c1 := KC6.cell 1
        have c2 := KC6.cell 2
        have c3 := KC6.cell 3
        have c4 := KC6.cell 4
        have c5 := KC6.cell 5
        have c6 := KC6.cell 6
        have c7 := KC6.cell 7
        have c8 := KC6.cell 8
        have c9 := KC6.cell 9
        have c10 := KC6.cell 10
        simp only [List.getElem?_cons_zero, List.getElem?_cons_succ] at c0 c1 c2 c3 c4 c5 c6 c7 c8 c9 c10
        clear KC6
        have PU := Lib.hid (put_any w4.heap.size (.slice ua out.length uc) (.agg #[.int .i64 pa.r, .int .i64 pa.n, .slice da pa.dep.length dc, .int .i64 pa.actor, .int .i64 pa.kind, .int .i64 pa.to, .int .i64 pa.bucket, .int .i64 pa.mask, .int .i64 pa.gr, .int .i64 pa.gn, .slice dua pa.ups.length duc]) out pa W6 RW6.out L6.out.size (by omega) ((T5.out.below E6.out).is) (ok_small OKP.out))
        go_wp2_with fail
        refine PU.out.mono ?_
        rintro e w7 ⟨v7, rfl, r7, b7⟩
        clear c0 c1 c2 c3 c4 c5 c6 c7 c8 c9 c10
        have R7 := Lib.hid r7
        have L7 := Lib.hid (L6.out.trans (b7.mono (Nat.le_refl _)))
        clear r7 b7
        go_wp2_with fail
        go_roundw
        case rel =>
          exact ⟨k + 1, _, _, rfl, by omega, by go_num, by rw [insM_len]; omega, HSTEP.out, R7.out, L7.out⟩
        case measure => simp [intOf]; omega
      · rw [if_neg hf] at hat
        have hyes : hasM (ts.map ActT.a) pa.r pa.n = true := by
          cases h : hasM (ts.map ActT.a) pa.r pa.n
          · exact absurd ((find_has _ _ _).2 h) hf
          · rfl
        rw [hyes] at hhas
        have HX := Lib.hid hhas
        have hfr := find_range (ts.map ActT.a) pa.r pa.n (by omega)
        have hst := HST.out
        rw [if_pos hyes] at hst
        obtain ⟨f, hff⟩ : ∃ f, f = findM (ts.map ActT.a) pa.r pa.n := ⟨_, rfl⟩
        rw [← hff] at hat hfr hst hf
        obtain ⟨fk, rfl⟩ := Int.eq_ofNat_of_zero_le (show 0 ≤ f by omega)
        simp only [Int.toNat_natCast] at hfr hst
        have HAT := Lib.hid (show (atD (ts.map ActT.a) 0 (.map [])).atKey (nameL pa.r pa.n) (.lit (.int .i64 0)) = .lit (.int .i64 ((fk : Nat) : Int)) from hat)
        rw [List.length_map, ← HL.out] at hfr
        obtain ⟨hul2, b2, off2, rfl, hb2, hc2⟩ := actsT_at HA.out (by omega)
        have hm2 := getD_mem (ts := ts) (i := fk) (by omega)
        have AT2 := Lib.hid ((hc2 fk hfr).below B5.out hb2)
        have HT2 := Lib.hid ((HA.out.1 _ hm2).below B5.out)
        have hga : (ts.map ActT.a).getD fk act0 = (ts.getD fk t0).a := by rw [getD_map (by omega)]
        simp only [hga] at hst
        obtain ⟨t2, htt⟩ : ∃ t2, t2 = ts.getD fk t0 := ⟨_, rfl⟩
        rw [← htt] at AT2 HT2 hst
        clear hm2 htt hc2 hga hul2 hat hhas hfm hf hyes HST hff
        have hb5 := Lib.hid (Nat.lt_of_lt_of_le hb2 B5.out.size)
        clear hb2
        have hfr := Lib.hid hfr
        have HST2 := Lib.hid hst
        clear hst
        refine wp_region_held_drew (S := fun w' => Below W5.heap.size W5 w') (by kernel_rfl) ((Below.refl W5.heap.size W5).drew) (fun hHeld => ?_)
        refine held_take (i := 0) (d := some 39) (v := ?_) rfl (by kernel_rfl) (by kernel_rfl) (by kernel_rfl) (by kernel_rfl) (fun _ _ _ h => h) (by kernel_rfl) ?_ hHeld ?_
        rotate_left
        · intro w' hSw
          go_simp
          first | done | with_reducible rfl
        simp only [Act.put, List.setIfInBounds_toArray, List.set_cons_zero, List.set_cons_succ]
        refine held_take (i := 1) (d := some 40) (v := ?_) rfl (by kernel_rfl) (by kernel_rfl) (by kernel_rfl) (by kernel_rfl) (fun _ _ _ h => h) (by kernel_rfl) ?_ hHeld ?_
        rotate_left
        · intro w' hSw
          have gS := KS5.out.below hSw KS5.out.lt
          have s0 := gS.cell 0
          have s1 := gS.cell 1
          have s2 := gS.cell 2
          have s3 := gS.cell 3
          have s4 := gS.cell 4
          have s5 := gS.cell 5
          have s6 := gS.cell 6
          simp only [List.getElem?_cons_zero, List.getElem?_cons_succ] at s0 s1 s2 s3 s4 s5 s6
          go_simp
          first | done | with_reducible rfl
        simp only [Act.put, List.setIfInBounds_toArray, List.set_cons_zero, List.set_cons_succ]
        refine held_take (i := 2) (d := some 41) (v := ?_) rfl (by kernel_rfl) (by kernel_rfl) (by kernel_rfl) (by kernel_rfl) (fun _ _ _ h => h) (by kernel_rfl) ?_ hHeld ?_
        rotate_left
        · intro w' hSw
          have gC := KC.out.below hSw KC.out.lt
          have s0 := gC.cell 0
          have s1 := gC.cell 1
          have s2 := gC.cell 2
          have s3 := gC.cell 3
          have s4 := gC.cell 4
          have s5 := gC.cell 5
          have s6 := gC.cell 6
          have s7 := gC.cell 7
          have s8 := gC.cell 8
          have s9 := gC.cell 9
          have s10 := gC.cell 10
          simp only [List.getElem?_cons_zero, List.getElem?_cons_succ] at s0 s1 s2 s3 s4 s5 s6 s7 s8 s9 s10
          go_simp
          first | done | with_reducible rfl
        simp only [Act.put, List.setIfInBounds_toArray, List.set_cons_zero, List.set_cons_succ]
        refine wpAnyH_ready (rs := [3]) (by kernel_rfl) (by simp) ?_
        refine AllReadyH.cons rfl (fun K hK => ?_) AllReadyH.nil
        go_simp
        refine (NM.out _ hHeld).mono ?_
        rintro e W6 ⟨rfl, b6⟩
        have D6 := hHeld.trans (b6.mono hHeld.size)
        refine hK.out _ _ D6 (fun hHeld => ?_)
        clear hK K
        refine held_take (i := 4) (d := some 43) (v := ?_) rfl (by kernel_rfl) (by kernel_rfl) (by kernel_rfl) (by kernel_rfl) (fun _ _ _ h => h) (by kernel_rfl) ?_ hHeld ?_
        rotate_left
        · intro w' hSw
          have hl := look_is _ (HM.out.kept (below_grown hSw none) (by simp)) HB.out.1 HB.out.2 HAT.out
          rw [HX.out] at hl
          go_simp
          first | done | (rw [hl]; done) | with_reducible rfl | skip
        simp only [Act.put, List.setIfInBounds_toArray, List.set_cons_zero, List.set_cons_succ]
        refine held_take (i := 5) (d := some 38) (v := ?_) rfl (by kernel_rfl) (by kernel_rfl) (by kernel_rfl) (by kernel_rfl) (fun _ _ _ h => h) (by kernel_rfl) ?_ hHeld ?_
        rotate_left
        · intro w' hSw
          go_simp
          first | done | with_reducible rfl
        simp only [Act.put, List.setIfInBounds_toArray, List.set_cons_zero, List.set_cons_succ]
        refine held_take (i := 6) (d := some 44) (v := ?_) rfl (by kernel_rfl) (by kernel_rfl) (by kernel_rfl) (by kernel_rfl) (fun _ _ _ h => h) (by kernel_rfl) ?_ hHeld ?_
        rotate_left
        · intro w' hSw
          go_simp
          first | done | with_reducible rfl
        simp only [Act.put, List.setIfInBounds_toArray, List.set_cons_zero, List.set_cons_succ]
        refine held_take (i := 7) (d := some 45) (v := ?_) rfl (by kernel_rfl) (by kernel_rfl) (by kernel_rfl) (by kernel_rfl) (fun _ _ _ h => h) (by kernel_rfl) ?_ hHeld ?_
        rotate_left
        · intro w' hSw
          go_simp
          first | done | with_reducible rfl
        simp only [Act.put, List.setIfInBounds_toArray, List.set_cons_zero, List.set_cons_succ]
        refine held_take (i := 8) (d := some 13) (v := ?_) rfl (by kernel_rfl) (by kernel_rfl) (by kernel_rfl) (by kernel_rfl) (fun _ _ _ h => h) (by kernel_rfl) ?_ hHeld ?_
        rotate_left
        · intro w' hSw
          go_simp
          first | done | with_reducible rfl
        simp only [Act.put, List.setIfInBounds_toArray, List.set_cons_zero, List.set_cons_succ]
        refine held_take (i := 9) (d := some 14) (v := ?_) rfl (by kernel_rfl) (by kernel_rfl) (by kernel_rfl) (by kernel_rfl) (fun _ _ _ h => h) (by kernel_rfl) ?_ hHeld ?_
        rotate_left
        · intro w' hSw
          go_simp
          first | done | with_reducible rfl
        simp only [Act.put, List.setIfInBounds_toArray, List.set_cons_zero, List.set_cons_succ]
        refine wpAnyH_done (by kernel_rfl) ?_ _
        have E6 := Lib.hid D6
        clear D6 hHeld b6
        have AT6 := Lib.hid (AT2.out.below E6.out hb5.out)
        have SM2 := Lib.hid (fun W (hW : Below W5.heap.size W5 W) => implSame_any t2.val (.agg #[.int .i64 pa.r, .int .i64 pa.n, .slice da pa.dep.length dc, .int .i64 pa.actor, .int .i64 pa.kind, .int .i64 pa.to, .int .i64 pa.bucket, .int .i64 pa.mask, .int .i64 pa.gr, .int .i64 pa.gn, .slice dua pa.ups.length duc]) t2.a pa W (HT2.out.below hW).is (T5.out.below hW).is)
        simp only [ActT.val] at SM2
        have KC6 := KC.out.below E6.out KC.out.lt
        have c0 := KC6.cell 0
        have c1 := KC6.cell 1
        have c2 := KC6.cell 2
        have c3 := KC6.cell 3
        have c4 := KC6.cell 4
        have c5 := KC6.cell 5
        have c6 := KC6.cell 6
        have c7 := KC6.cell 7
        have c8 := KC6.cell 8
        have c9 := KC6.cell 9
        have c10 := KC6.cell 10
        simp only [List.getElem?_cons_zero, List.getElem?_cons_succ] at c0 c1 c2 c3 c4 c5 c6 c7 c8 c9 c10
        clear KC6
        have d0 := AT6.out.c0
        have d1 := AT6.out.c1
        have d2 := AT6.out.c2
        have d3 := AT6.out.c3
        have d4 := AT6.out.c4
        have d5 := AT6.out.c5
        have d6 := AT6.out.c6
        have d7 := AT6.out.c7
        have d8 := AT6.out.c8
        have d9 := AT6.out.c9
        have d10 := AT6.out.c10
        have i2 : (0 : Int) ≤ (fk : Int) := by omega
        have i3 : (fk : Int) < (L : Int) := by have := hfr.out; omega
        cases hS : sameM t2.a pa
        · have HNO := Lib.hid (show O = none by rw [HST2.out, hS]; rfl)
          have HSm := Lib.hid hS
          clear hS HST2
          go_upto_region 11 with (fail)
          refine wp_region_still_tail 5 (by kernel_rfl) (by kernel_rfl) ?_
          simp only [List.take_succ_cons, List.take_zero, List.drop_succ_cons, List.drop_zero]
          change wpStill _ _ W6.drew _ _ _
          repeat still_step
          refine wpStill_nil ?_
          change wpList _ _ _ _ _ W6.drew
          have D7 : Hid (Below W5.heap.size W5 W6.drew) := E6.out.drew
          generalize W6.drew = W7 at D7 ⊢
          clear c0 c1 c2 c3 c4 c5 c6 c7 c8 c9 c10 d0 d1 d2 d3 d4 d5 d6 d7 d8 d9 d10 i2 i3
          go_wp2_with fail
          refine (SM2.out _ D7.out).mono ?_
          rintro e w8 ⟨rfl, b8⟩
          rw [HSm.out]
          have D8 := Lib.hid (D7.out.trans (b8.mono D7.out.size))
          clear b8
          go_wp2_with fail
          go_ret2
          exact HN.out (by rw [HNO.out]; rfl) _ (B5.out.trans (D8.out.mono B5.out.size))
        · have HSTEP := Lib.hid (show O = uniP (ts.map ActT.a) out ((us.map ActT.a).drop (k + 1)) by rw [HST2.out, hS]; rfl)
          have HSm := Lib.hid hS
          clear hS HST2
          go_upto_region 11 with (fail)
          refine wp_region_still_tail 5 (by kernel_rfl) (by kernel_rfl) ?_
          simp only [List.take_succ_cons, List.take_zero, List.drop_succ_cons, List.drop_zero]
          change wpStill _ _ W6.drew _ _ _
          repeat still_step
          refine wpStill_nil ?_
          change wpList _ _ _ _ _ W6.drew
          have D7 : Hid (Below W5.heap.size W5 W6.drew) := E6.out.drew
          generalize W6.drew = W7 at D7 ⊢
          clear c0 c1 c2 c3 c4 c5 c6 c7 c8 c9 c10 d0 d1 d2 d3 d4 d5 d6 d7 d8 d9 d10 i2 i3
          go_wp2_with fail
          refine (SM2.out _ D7.out).mono ?_
          rintro e w8 ⟨rfl, b8⟩
          rw [HSm.out]
          have D8 := Lib.hid (D7.out.trans (b8.mono D7.out.size))
          clear b8
          have L5 := hbel.out.trans (C5.out.mono hbel.out.size)
          have L8 := Lib.hid (L5.trans (D8.out.mono L5.size))
          have R8 := Lib.hid ((ho.out.below C5.out).below D8.out)
          clear L5
          go_wp2_with fail
          go_roundw
          case rel =>
            exact ⟨k + 1, _, _, rfl, by omega, by go_num, by omega, HSTEP.out, R8.out, L8.out⟩
          case measure => simp [intOf]; omega
    · have HO2 := Lib.hid (show O = some out by rw [hg.out, drop_end (by simp; rw [← HMl.out]; omega)]; rfl)
      obtain ⟨bs, hown, hge⟩ := ho.out.own
      have SE := Lib.hid (setOnly2_any (.slice ua out.length uc) out n wr hown.acts hn)
      clear bs hown hge hg
      go_wp2_with fail
      refine SE.out.mono ?_
      rintro e w6 ⟨(⟨hs, rfl⟩ | ⟨hs, rfl⟩), b6⟩
      · have HD := Lib.hid (show doneM n O = some out by rw [HO2.out, doneM, if_pos hs])
        have B6 := Lib.hid b6
        clear hs b6
        go_wp2_with fail
        go_ret2
        exact HY.out out HD.out _ _ _ (ho.out.below B6.out) B4.out.size (BW.out.trans (B6.out.mono BW.out.size))
      · have HD := Lib.hid (show doneM n O = none by rw [HO2.out, doneM, if_neg (by rw [hs]; decide)])
        have B6 := Lib.hid b6
        clear hs b6
        go_wp2_with fail
        go_ret2
        exact HN.out HD.out _ (BW.out.trans (B6.out.mono BW.out.size))
end Go.Proofs.YtkcfcmigcphjlaaGreat



namespace Go.Proofs.YtkcfcmigcphjlaaGreat
open Go.RowKit
set_option linter.unusedVariables false

theorem specAddAct2 (v : Value) (l : List ActM) (n : Int) (u : Value) (p : ActM) (w : World) (h : Acts w v l) (hn : -9223372036854775808 ≤ n ∧ n ≤ 9223372036854775807) (hp : ActIs w u p) (hs : p.Small) : Calls Tryz.prog 18 #[v, .int .i64 n, u] w (RetSB w (addL l n p) (addB l n p)) := by
  obtain ⟨vd, vs, rfl, ht⟩ := hp
  refine (addAct_any v l n ⟨p, vd, vs⟩ w h hn ht hs).mono ?_
  rintro e w' (⟨ho, rfl, hb⟩ | ⟨L, ho, v', rfl, h1, hb⟩)
  · have ho : addM l n p = none := ho
    have e1 : addL l n p = [] := by simp [addL, ho]
    have e2 : addB l n p = false := by simp [addB, ho]
    rw [e1, e2]
    exact ⟨.slice none 0 0, rfl, acts_nil w', hb⟩
  · have ho : addM l n p = some L := ho
    have e1 : addL l n p = L := by simp [addL, ho]
    have e2 : addB l n p = true := by simp [addB, ho]
    rw [e1, e2]
    exact ⟨v', rfl, ownActs_acts h1, hb⟩
theorem szL_add (l : List ActM) (n : Int) (p : ActM) : szL (addL l n p) ≤ 1980 := by
  unfold addL addM
  split
  · rename_i h; exact szL_setOk h.2.2
  · simp [szL]
end Go.Proofs.YtkcfcmigcphjlaaGreat


namespace Go.Proofs.YtkcfcmigcphjlaaGreat
open Go.RowKit
set_option linter.unusedVariables false

theorem specUnion2 (v v' : Value) (l m : List ActM) (n : Int) (w : World) (h : Acts w v l) (h' : Acts w v' m) (hn : -9223372036854775808 ≤ n ∧ n ≤ 9223372036854775807) : Calls Tryz.prog 22 #[v, v', .int .i64 n] w (RetSB w (unL l m n) (unB l m n)) := by
  refine (union_any v v' l m n w h h' hn).mono ?_
  rintro e w' (⟨ho, rfl, hb⟩ | ⟨L, ho, v', rfl, h1, hb⟩)
  · have e1 : unL l m n = [] := by simp [unL, ho]
    have e2 : unB l m n = false := by simp [unB, ho]
    rw [e1, e2]
    exact ⟨.slice none 0 0, rfl, acts_nil w', hb⟩
  · have e1 : unL l m n = L := by simp [unL, ho]
    have e2 : unB l m n = true := by simp [unB, ho]
    rw [e1, e2]
    exact ⟨v', rfl, ownActs_acts h1, hb⟩
end Go.Proofs.YtkcfcmigcphjlaaGreat
