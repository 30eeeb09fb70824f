/- The program's setOf: the map of a list and how many acts each place has. -/
import Derived.Test.YtghgiefciijoeaaGreatDoorNB
import Derived.Deep.DeepCutAuto

namespace Go.Proofs.YtghgiefciijoeaaGreatDoor
open Go.RowKit
set_option linter.unusedVariables false
def setVal (v : Value) (mb : Nat) (n : Int) (l : List ActM) : Value := .agg #[v, .map (some mb), .int .i64 n, .int .i64 (cntM l 0), .int .i64 (cntM l 1), .int .i64 (cntM l 2), .int .i64 (cntM l 3)]
def noSet : Value := .agg #[.slice none 0 0, .map none, .int .i64 0, .int .i64 0, .int .i64 0, .int .i64 0, .int .i64 0]
def SetRead (w : World) (v : Value) (l : List ActM) (n : Int) (e : Ending) (w' : World) : Prop := Below w.heap.size w w' ∧
 ((setOkM l n = true ∧ ∃ mb, w.heap.size ≤ mb ∧ e = .returned (.tuple #[setVal v mb n l, .bool true]) ∧ w'.ownsMap Tryz.prog 85 (plainElem Tryz.prog 3) mb l.length (atD l 0 (.map []))) ∨
   (setOkM l n = false ∧ e = .returned (.tuple #[noSet, .bool false])))
theorem setOk_prog (l : List ActM) (n : Int) : setOkM l n = (decide (1 ≤ n) && decide (n ≤ 4) && decide (l.length ≤ 60) && (orderM n none l && countsUpM l n.toNat && closedM l n.toNat)) := by
 unfold setOkM
 by_cases h : 1 ≤ n
 ·obtain ⟨m, rfl⟩ := Int.eq_ofNat_of_zero_le (show 0 ≤ n by omega)
  congr 1
  have := prog_ref l m
  unfold progM afterM at this
  rw [Int.toNat_natCast]
  exact this.symm
 ·simp [h]
theorem step_mapUpdate_own {H : Type} {P : Program} {ops : Array Oper} {o : Oper} {a : Act} {w : World} {K : Act → World → Prop} {Q : Exit → Act → World → Prop} {E : Prop}
  (hg : o.guard = none) (hd : o.dst = none) (m x v : Operand) (t : TypeId) (hop : o.op = Op.mapUpdate t m x v)
  (k e : TypeId) (kd : Maps.Keyed P k) (ht : P.underlying t = some (.map k e)) (R : Value → Option (DataW H × List MemPlace)) (b n : Nat) (D : DataW H)
  (hm : a.eval m = .map (some b)) (hown : w.ownsMap P k R b n D) (hn : n < maxLen) (key val : Value) (kl : Lit) (hx : a.eval x = key) (hv : a.eval v = val) (hkey : keyOf P k key = some kl)
  (d : DataW H) (ps : List MemPlace) (hval : R val = some (d, ps))
  (hK : ∀ w', w'.ownsMap P k R b (n + 1) (D.put kl d) → w.grownBy w' (some b) → K a w') :
  if Region.wanted o (yielded ops a.tmps) = true then Oper.wp P o a w K Q else E := by
 have hw : Region.wanted o (yielded ops a.tmps) = true := by simp [Region.wanted, hg]
 rw [if_pos hw]
 obtain ⟨w', hrun, r1, r2⟩ := hown.update kd ht hn hkey hval
 unfold Oper.wp
 simp [execOp, hop, hm, hx, hv, hrun, Result.andThen]
 unfold Oper.upon
 simp [hd, Act.put]
 exact hK w' r1 r2
theorem name_bounds {a : ActM} {n : Int} (h : actOkM a n = true) : I64 a.r ∧ I64 a.n := by
 simp only [actOkM, Bool.and_eq_true, decide_eq_true_eq] at h
 unfold I64
 omega
theorem wf_small (k : Nat) (h : k ≤ 60) : (Lit.int .i64 (k : Int)).wf = true := by
 rw [← wrap_small (k : Int) (by omega) (by omega)]
 exact wrap64_wf _
theorem cnt_le (l : List ActM) (q n : Nat) (h : l.length ≤ n) : cntM l q ≤ n := Nat.le_trans (List.length_filter_le _ _) h
theorem cnt_cell (a : Option Addr) (cap M : Nat) (m : Int) (l : List ActM) (q : Nat) (h : q < 4) (L : Nat) : ([.slice a L cap, .map (some M), .int .i64 m, .int .i64 (cntM l 0), .int .i64 (cntM l 1), .int .i64 (cntM l 2), .int .i64 (cntM l 3)] : List Value)[3 + q]? = some (.int .i64 (cntM l q)) := by
 match q, h with
 | 0, _ => rfl
 | 1, _ => rfl
 | 2, _ => rfl
 | 3, _ => rfl
theorem cnt_set (a : Option Addr) (cap M : Nat) (m : Int) (l : List ActM) (q : Nat) (h : q < 4) (L : Nat) (t : ActM) (ht : t.r = (q : Int)) : ([.slice a L cap, .map (some M), .int .i64 m, .int .i64 (cntM l 0), .int .i64 (cntM l 1), .int .i64 (cntM l 2), .int .i64 (cntM l 3)] : List Value).set (3 + q) (.int .i64 ((cntM l q : Int) + 1)) = [.slice a L cap, .map (some M), .int .i64 m, .int .i64 (cntM (l ++ [t]) 0), .int .i64 (cntM (l ++ [t]) 1), .int .i64 (cntM (l ++ [t]) 2), .int .i64 (cntM (l ++ [t]) 3)] := by
 simp only [cnt_app, cnt_one, ht]
 match q, h with
 | 0, _ => simp
 | 1, _ => simp
 | 2, _ => simp
 | 3, _ => simp
theorem cnt_range (l : List ActM) (q : Nat) (h : l.length ≤ 60) : (0 : Int) ≤ (cntM l q : Int) ∧ (cntM l q : Int) ≤ 100 := by
 have := cnt_le l q 60 h
 omega
theorem four_cnt (l : List ActM) (p : Nat) (h : p < 4) : [(cntM l 0 : Int), cntM l 1, cntM l 2, cntM l 3].getD p 0 = (cntM l p : Int) := by
 match p, h with
 | 0, _ => rfl
 | 1, _ => rfl
 | 2, _ => rfl
 | 3, _ => rfl
theorem clockM_len (l : List ActM) (n : Nat) : (clockM l n).length = n := by rw [clockM, clockFrom_length]; simp
theorem cnt_out (l : List ActM) (n p : Nat) (h : n ≤ p) (hl : ∀ a ∈ l, a.r < n) : cntM l p = 0 := by
 unfold cntM
 rw [List.length_eq_zero_iff, List.filter_eq_nil_iff]
 intro a ha
 have := hl a ha
 simp
 omega
theorem clock_counts (l : List ActM) (m : Nat) (h1 : 1 ≤ m) (h4 : m ≤ 4) (hl : l.length ≤ 60) (hok : ∀ a ∈ l, actOkM a m = true) :
  okB (clockM l m) = true ∧ (cntM l 0 : Int) = cx (clockM l m) 0 ∧ (cntM l 1 : Int) = cx (clockM l m) 1 ∧ (cntM l 2 : Int) = cx (clockM l m) 2 ∧ (cntM l 3 : Int) = cx (clockM l m) 3 := by
 have hr : ∀ a ∈ l, 0 ≤ a.r ∧ a.r < m := fun a ha => ⟨(ok_parts (hok a ha)).1, (ok_parts (hok a ha)).2.1⟩
 have hlen := clockM_len l m
 have key : ∀ p, (clockM l m).getD p 0 = (cntM l p : Int) := by
  intro p
  by_cases hp : p < m
  ·exact clockM_cnt l hr p hp
  ·rw [cnt_out l m p (by omega) (fun a ha => (hr a ha).2)]
   simp [List.getD, List.getElem?_eq_none (show (clockM l m).length ≤ p by omega)]
 have hok : okB (clockM l m) = true := by
  rw [okB_iff]
  refine ⟨by omega, by omega, fun x hx => ?_⟩
  obtain ⟨i, hi, rfl⟩ := List.mem_iff_getElem.1 hx
  have := key i
  simp only [List.getD, List.getElem?_eq_getElem hi, Option.getD_some] at this
  have := cnt_le l i 60 hl
  omega
 refine ⟨hok, ?_, ?_, ?_, ?_⟩ <;> rw [cx_ok hok, key]
theorem take_step (ts : List ActT) (k : Nat) (h : k < ts.length) : (ts.map ActT.a).take (k + 1) = (ts.map ActT.a).take k ++ [(ts.getD k t0).a] := by
 rw [List.take_add_one]
 simp [List.getD, h]
def SetMade (w : World) (v : Value) (l : List ActM) (n : Int) (e : Ending) (w' : World) : Prop := Below w.heap.size w w' ∧
 ∃ mb, w.heap.size ≤ mb ∧ e = .returned (setVal v mb n l) ∧ w'.ownsMap Tryz.prog 85 (plainElem Tryz.prog 3) mb l.length (atD l 0 (.map []))
set_option maxRecDepth 100000 in
set_option maxHeartbeats 6400000 in
theorem setOf_any (v : Value) (ts : List ActT) (n : Int) (m : Nat) (w : World) (h : ActsT w v ts) (h60 : ts.length ≤ 60) (hm4 : m ≤ 4) (hok : ∀ t ∈ ts, actOkM t.a m = true) :
  Calls Tryz.prog 76 #[v, .int .i64 n] w (SetMade w v (ts.map ActT.a) n) := by
 obtain ⟨a, cap, rfl⟩ := actsT_len h
 have HA := Lib.hid h
 have HOKS := Lib.hid hok
 obtain ⟨L, hL⟩ : ∃ L, L = ts.length := ⟨_, rfl⟩
 rw [← hL] at HA h60 ⊢
 have HL := Lib.hid hL
 have hL60 := h60
 clear h hL hok
 have b0 := (Below.refl w.heap.size w).alloc (Nat.le_refl _) (.cells #[.slice none 0 0, .map none, .int .i64 0, .int .i64 0, .int .i64 0, .int .i64 0, .int .i64 0] 73)
 obtain ⟨RB, hRB⟩ : ∃ RB, RB = w.heap.size := ⟨_, rfl⟩
 have kR := Blk.new w #[.slice none 0 0, .map none, .int .i64 0, .int .i64 0, .int .i64 0, .int .i64 0, .int .i64 0] 73
 rw [← hRB] at kR
 go_enter Tryz.func76, Tryz.ntmps76
 go_upto_region 1 with (fail)
 rw [← hRB] at b0 ⊢
 have HRB := Lib.hid hRB
 clear hRB
 generalize w.alloc (.cells #[.slice none 0 0, .map none, .int .i64 0, .int .i64 0, .int .i64 0, .int .i64 0, .int .i64 0] 73) = w1 at kR b0 ⊢
 have kR1 := Lib.hid kR
 have B1 := Lib.hid b0
 clear kR b0
 have hmm := @run_makeMap Tryz.prog
 go_upto_region 2 with (fail)
 have kS := Blk.new (w1.alloc (.map #[] 0)) #[.slice a L cap, .map (some w1.heap.size), .int .i64 n, .int .i64 0, .int .i64 0, .int .i64 0, .int .i64 0] 73
 have own := (World.ownsMap_made w1 Tryz.prog 85 (plainElem (H := Unit) Tryz.prog 3)).alloc (.cells #[.slice a L cap, .map (some w1.heap.size), .int .i64 n, .int .i64 0, .int .i64 0, .int .i64 0, .int .i64 0] 73)
 have b2 := ((Below.refl w1.heap.size w1).alloc (Nat.le_refl _) (.map #[] 0)).alloc (by simp) (.cells #[.slice a L cap, .map (some w1.heap.size), .int .i64 n, .int .i64 0, .int .i64 0, .int .i64 0, .int .i64 0] 73)
 rw [World.size_alloc] at kS
 obtain ⟨M, hM⟩ : ∃ M, M = w1.heap.size := ⟨_, rfl⟩
 rw [← hM] at kS own b2 ⊢
 have hRM : RB < M := by rw [hM]; exact kR1.out.lt
 have HM := Lib.hid hM
 generalize (w1.alloc (.map #[] 0)).alloc (.cells #[.slice a L cap, .map (some M), .int .i64 n, .int .i64 0, .int .i64 0, .int .i64 0, .int .i64 0] 73) = W2 at kS own b2 ⊢
 have kR2 := Lib.hid (kR1.out.below b2 hRM)
 have B2 := Lib.hid (B1.out.trans (b2.mono (by omega)))
 have HKS := Lib.hid kS
 have HOWN := Lib.hid own
 clear kS own b2 hmm kR1 B1 hM
 go_wp2_with fail
 go_loopw [15] (fun i wr => ∃ k : Nat, k ≤ L ∧ i = .int .i64 k ∧ Hid (wr.ownsMap Tryz.prog 85 (plainElem Tryz.prog 3) M k (atD ((ts.map ActT.a).take k) 0 (.map []))) ∧ Hid (Blk wr (M + 1) [.slice a L cap, .map (some M), .int .i64 n, .int .i64 (cntM ((ts.map ActT.a).take k) 0), .int .i64 (cntM ((ts.map ActT.a).take k) 1), .int .i64 (cntM ((ts.map ActT.a).take k) 2), .int .i64 (cntM ((ts.map ActT.a).take k) 3)]) ∧ Hid (Blk wr RB [.slice none 0 0, .map none, .int .i64 0, .int .i64 0, .int .i64 0, .int .i64 0, .int .i64 0]) ∧ Hid (Below RB w wr)) (fun i _ => L - (intOf i).toNat)
 case atStart => exact ⟨0, Nat.zero_le _, rfl, HOWN.out, HKS.out, kR2.out, B2.out⟩
 case round =>
  obtain ⟨k, hk, rfl, hown, hks, hkr, hbel⟩ := hrel
  have hA := Lib.hid (HA.out.below (by rw [← HRB.out]; exact hbel.out))
  clear HKS HOWN kR2 B2
  by_cases hlt : k < L
  ·have hlt2 : k < ts.length := by rw [← HL.out]; exact hlt
   have hgo := hA.out.1 _ (getD_mem hlt2)
   have hok := HOKS.out _ (getD_mem hlt2)
   have HTK := Lib.hid (take_step ts k hlt2)
   obtain ⟨b, off, rfl, hb, hat⟩ : ∃ b off, a = some ⟨b, off, none⟩ ∧ b < wr.heap.size ∧ ∀ i, i < ts.length → ActAt wr b (off + i * 11) (ts.getD i t0) := by
    rcases hA.out.2 with ⟨a', cap', he, hz⟩ | ⟨b, off, cap', he, q1, q2, q3, q4⟩
    ·rw [hz] at hlt2
     exact absurd hlt2 (by simp)
    ·simp only [Value.slice.injEq] at he
     exact ⟨b, off, he.1, q1, q4⟩
   have AT := Lib.hid (hat k hlt2)
   have HT := Lib.hid hgo
   obtain ⟨t, htt⟩ : ∃ t, t = ts.getD k t0 := ⟨_, rfl⟩
   rw [← htt] at AT HT hok HTK
   have HOK := Lib.hid hok
   clear hgo htt hat hok
   obtain ⟨⟨r, nn, dep, actor, kind, dst, bucket, mask, gr, gn, ups⟩, vd, vs⟩ := t
   have hsd := ints_len HT.out.1
   have hsu := ups_len HT.out.2
   simp only at hsd hsu
   obtain ⟨da, dc, rfl⟩ := hsd
   obtain ⟨ua, uc, rfl⟩ := hsu
   have c0 := AT.out.c0
   have c1 := AT.out.c1
   have c2 := AT.out.c2
   have c3 := AT.out.c3
   have c4 := AT.out.c4
   have c5 := AT.out.c5
   have c6 := AT.out.c6
   have c7 := AT.out.c7
   have c8 := AT.out.c8
   have c9 := AT.out.c9
   have c10 := AT.out.c10
   simp only at c0 c1 c2 c3 c4 c5 c6 c7 c8 c9 c10
   clear AT
   go_upto_region 5 with (fail)
   have kA := Blk.new wr #[.int .i64 r, .int .i64 nn, .slice da dep.length dc, .int .i64 actor, .int .i64 kind, .int .i64 dst, .int .i64 bucket, .int .i64 mask, .int .i64 gr, .int .i64 gn, .slice ua ups.length uc] 32
   have bA := (Below.refl wr.heap.size wr).alloc (Nat.le_refl _) (.cells #[.int .i64 r, .int .i64 nn, .slice da dep.length dc, .int .i64 actor, .int .i64 kind, .int .i64 dst, .int .i64 bucket, .int .i64 mask, .int .i64 gr, .int .i64 gn, .slice ua ups.length uc] 32)
   obtain ⟨Q, hQ⟩ : ∃ Q, Q = wr.heap.size := ⟨_, rfl⟩
   have own3 := hown.out.alloc (.cells #[.int .i64 r, .int .i64 nn, .slice da dep.length dc, .int .i64 actor, .int .i64 kind, .int .i64 dst, .int .i64 bucket, .int .i64 mask, .int .i64 gr, .int .i64 gn, .slice ua ups.length uc] 32)
   generalize wr.alloc (.cells #[.int .i64 r, .int .i64 nn, .slice da dep.length dc, .int .i64 actor, .int .i64 kind, .int .i64 dst, .int .i64 bucket, .int .i64 mask, .int .i64 gr, .int .i64 gn, .slice ua ups.length uc] 32) = W3 at kA bA own3 ⊢
   rw [← hQ] at kA ⊢
   have hMQ : M + 1 < Q := by rw [hQ]; exact hks.out.lt
   have kS3 := Lib.hid (hks.out.below bA (by rw [← hQ]; exact hMQ))
   have kR3 := Lib.hid (hkr.out.below bA hkr.out.lt)
   have HT3 := Lib.hid (HT.out.below bA)
   have B3 := Lib.hid (hbel.out.trans (bA.mono (by omega)))
   have kA3 := Lib.hid kA
   have HO3 := Lib.hid own3
   clear kA own3 bA hown hks hkr HT hA hbel c0 c1 c2 c3 c4 c5 c6 c7 c8 c9 c10 hQ hb
   refine wp_region_held_drew (S := fun W => W3.grownBy W (some M)) (by kernel_rfl) (⟨rfl, rfl, rfl, Nat.le_refl _, fun _ _ _ => rfl⟩) (fun hHeld => ?_)
   refine held_take (i := 0) (d := some 20) (v := ?_) rfl (by kernel_rfl) (by kernel_rfl) (by kernel_rfl) (by kernel_rfl) (fun _ _ _ h => h) (by kernel_rfl) ?_ hHeld ?_
   rotate_left
   ·intro w' hSw
    go_simp
    first | done | with_reducible rfl
   simp only [Act.put, List.setIfInBounds_toArray, List.set_cons_zero, List.set_cons_succ]
   refine held_take (i := 1) (d := some 21) (v := ?_) rfl (by kernel_rfl) (by kernel_rfl) (by kernel_rfl) (by kernel_rfl) (fun _ _ _ h => h) (by kernel_rfl) ?_ hHeld ?_
   rotate_left
   ·intro w' hSw
    have gS := kS3.out.same hSw.size (hSw.block (M + 1) kS3.out.lt (by simp))
    have s0 := gS.cell 0
    have s1 := gS.cell 1
    have s2 := gS.cell 2
    simp only [List.getElem?_cons_zero, List.getElem?_cons_succ] at s0 s1 s2
    go_simp
    first | done | with_reducible rfl
   simp only [Act.put, List.setIfInBounds_toArray, List.set_cons_zero, List.set_cons_succ]
   refine held_take (i := 2) (d := some 22) (v := ?_) rfl (by kernel_rfl) (by kernel_rfl) (by kernel_rfl) (by kernel_rfl) (fun _ _ _ h => h) (by kernel_rfl) ?_ hHeld ?_
   rotate_left
   ·intro w' hSw
    have gA := kA3.out.same hSw.size (hSw.block Q kA3.out.lt (by simp; omega))
    have a0 := gA.cell 0
    have a1 := gA.cell 1
    have a2 := gA.cell 2
    have a3 := gA.cell 3
    have a4 := gA.cell 4
    have a5 := gA.cell 5
    have a6 := gA.cell 6
    have a7 := gA.cell 7
    have a8 := gA.cell 8
    have a9 := gA.cell 9
    have a10 := gA.cell 10
    simp only [List.getElem?_cons_zero, List.getElem?_cons_succ] at a0 a1 a2 a3 a4 a5 a6 a7 a8 a9 a10
    go_simp
    first | done | with_reducible rfl
   simp only [Act.put, List.setIfInBounds_toArray, List.set_cons_zero, List.set_cons_succ]
   refine held_take (i := 4) (d := some 24) (v := ?_) rfl (by kernel_rfl) (by kernel_rfl) (by kernel_rfl) (by kernel_rfl) (fun _ _ _ h => h) (by kernel_rfl) ?_ hHeld ?_
   rotate_left
   ·intro w' hSw
    go_simp
    first | done | with_reducible rfl
   simp only [Act.put, List.setIfInBounds_toArray, List.set_cons_zero, List.set_cons_succ]
   refine wpAnyH_ready (rs := [3]) (by kernel_rfl) (by simp) ?_
   refine AllReadyH.cons rfl (fun K hK => ?_) AllReadyH.nil
   go_simp
   refine (nameOf_any (⟨⟨r, nn, dep, actor, kind, dst, bucket, mask, gr, gn, ups⟩, .slice da dep.length dc, .slice ua ups.length uc⟩ : ActT) W3.drew (by exact HT3.out)).mono ?_
   rintro e W4 ⟨rfl, b4⟩
   refine hK.out _ _ ((grown_drewN W3 1 (some M)).trans (below_grown b4 (some M))) (fun hHeld => ?_)
   clear hK K
   have o3d : W3.drew.ownsMap Tryz.prog 85 (plainElem Tryz.prog 3) M k (atD ((ts.map ActT.a).take k) 0 (.map [])) := HO3.out
   have own4 := o3d.kept (below_grown b4 none) (by simp)
   refine wpAnyH_ready (rs := [5]) (by kernel_rfl) (by simp) ?_
   refine AllReadyH.cons rfl (fun K hK => ?_) AllReadyH.nil
   have hbd := name_bounds HOK.out
   refine step_mapUpdate_own rfl rfl (.tmp 21) (.tmp 23) (.tmp 24) 68 rfl 85 3 keyedName Tryz.underlying68 (plainElem Tryz.prog 3) M k _ rfl own4 (by unfold maxLen; omega) (nameV r nn) (.int .i64 k) (nameL r nn) rfl rfl (nameKey r nn hbd.1 hbd.2) _ _ (plainElem_int Tryz.underlying3 (wf_small k (by omega))) ?_
   intro W5 own5 g5
   have G5 := Lib.hid (hHeld.trans g5)
   refine hK.out _ _ (hHeld.trans g5) (fun _ => ?_)
   clear hK K hHeld g5 own4 o3d b4
   refine wpAnyH_done (by kernel_rfl) ?_ _
   have HO5 := Lib.hid own5
   have kS5 := Lib.hid (kS3.out.same G5.out.size (G5.out.block (M + 1) kS3.out.lt (by simp)))
   have kA5 := Lib.hid (kA3.out.same G5.out.size (G5.out.block Q kA3.out.lt (by simp; omega)))
   have kR5 := Lib.hid (kR3.out.same G5.out.size (G5.out.block RB kR3.out.lt (by simp; omega)))
   have B5 := Lib.hid (B3.out.trans ((Below.refl RB W3).grown G5.out (by have := kR3.out.lt; omega) (fun k e => by cases e; omega)))
   clear own5 kS3 kA3 kR3 B3 G5 HO3 HT3
   obtain ⟨q, rfl⟩ := Int.eq_ofNat_of_zero_le (ok_parts HOK.out).1
   have hq : q < m := by have hq2 : (q : Int) < (m : Int) := (ok_parts HOK.out).2.1; omega
   have a0 := kA5.out.cell 0
   simp only [List.getElem?_cons_zero] at a0
   have hcx := cnt_cell (some ⟨b, off, none⟩) cap M n ((ts.map ActT.a).take k) q (by omega) L
   have cx := (kS5.out.cell (3 + q)).trans hcx
   have hcb := cnt_le ((ts.map ActT.a).take k) q 60 (by simp; omega)
   have f0 := kS5.out.free (3 + q)
   clear hcx
   obtain ⟨x, hx⟩ : ∃ x, x = cntM ((ts.map ActT.a).take k) q := ⟨_, rfl⟩
   rw [← hx] at cx hcb
   have HXC := Lib.hid hx
   clear hx
   have i0 : (0 : Int) ≤ (q : Int) := by omega
   have i1 : (q : Int) < 4 := by omega
   go_wp2_with fail
   have hlk : ((ts.map ActT.a).take k).length = k := by simp; omega
   refine ⟨⟨k + 1, by omega, by simp, ?_, ?_, ?_, ?_⟩, ?_⟩
   ·have h1 := HO5.out.kept (grown_set (w := W5) (M + 1) (3 + q) (.int .i64 ((x : Int) + 1))) (by simp)
    rw [HTK.out, atD_snoc, hlk, Nat.zero_add]
    exact h1
   ·have h1 := kS5.out.set (j := 3 + q) (by simp; omega) (.int .i64 ((x : Int) + 1))
    rw [HXC.out, cnt_set (some ⟨b, off, none⟩) cap M n ((ts.map ActT.a).take k) q (by omega) L (⟨(q : Int), nn, dep, actor, kind, dst, bucket, mask, gr, gn, ups⟩ : ActM) rfl] at h1
    rw [HTK.out, HXC.out]
    exact h1
   ·exact kR5.out.other (by simp; omega) _
   ·exact B5.out.setCell (p := ⟨M + 1, 3 + q, none⟩) (by simp; omega) _
   ·simp [intOf]; omega
  ·obtain rfl : k = L := by omega
   have hown2 := hown.out
   have hks2 := hks.out
   have htl : (ts.map ActT.a).take k = ts.map ActT.a := List.take_of_length_le (by rw [List.length_map, ← HL.out]; exact Nat.le_refl _)
   rw [htl] at hown2 hks2
   have HOW := Lib.hid hown2
   obtain ⟨x0, hc0⟩ : ∃ x : Int, x = (cntM (ts.map ActT.a) 0 : Int) := ⟨_, rfl⟩
   obtain ⟨x1, hc1⟩ : ∃ x : Int, x = (cntM (ts.map ActT.a) 1 : Int) := ⟨_, rfl⟩
   obtain ⟨x2, hc2⟩ : ∃ x : Int, x = (cntM (ts.map ActT.a) 2 : Int) := ⟨_, rfl⟩
   obtain ⟨x3, hc3⟩ : ∃ x : Int, x = (cntM (ts.map ActT.a) 3 : Int) := ⟨_, rfl⟩
   have HSV : Hid (setVal (.slice a k cap) M n (ts.map ActT.a) = .agg #[.slice a k cap, .map (some M), .int .i64 n, .int .i64 x0, .int .i64 x1, .int .i64 x2, .int .i64 x3]) := by
    subst hc0 hc1 hc2 hc3
    exact rfl
   rw [← hc0, ← hc1, ← hc2, ← hc3] at hks2
   have s0 := hks2.cell 0
   have s1 := hks2.cell 1
   have s2 := hks2.cell 2
   have s3 := hks2.cell 3
   have s4 := hks2.cell 4
   have s5 := hks2.cell 5
   have s6 := hks2.cell 6
   have r0 := hkr.out.cell 0
   have r1 := hkr.out.cell 1
   have r2 := hkr.out.cell 2
   have r3 := hkr.out.cell 3
   have r4 := hkr.out.cell 4
   have r5 := hkr.out.cell 5
   have r6 := hkr.out.cell 6
   simp only [List.getElem?_cons_zero, List.getElem?_cons_succ] at s0 s1 s2 s3 s4 s5 s6 r0 r1 r2 r3 r4 r5 r6
   have f0 := hkr.out.free
   clear hown hks hown2 hks2 htl hc0 hc1 hc2 hc3 HA hA
   go_wp2_with fail
   have hMR : (some M : Option Nat) ≠ some RB := by simp; omega
   refine bodyPost_ret (v := setVal (.slice a k cap) M n (ts.map ActT.a)) (by rw [HSV.out]; simp [results, Tryz.results76, go_sem, r0, r1, r2, r3, r4, r5, r6]) rfl ⟨?_, M, by rw [← HRB.out]; omega, rfl, ?_⟩
   ·rw [← HRB.out]
    exact ((((((hbel.out.setCell (by simp) _).setCell (by simp) _).setCell (by simp) _).setCell (by simp) _).setCell (by simp) _).setCell (by simp) _).setCell (by simp) _
   ·rw [List.length_map, ← HL.out]
    exact (((((((HOW.out.kept (grown_set RB 0 _) hMR).kept (grown_set RB 1 _) hMR).kept (grown_set RB 2 _) hMR).kept (grown_set RB 3 _) hMR).kept (grown_set RB 4 _) hMR).kept (grown_set RB 5 _) hMR).kept (grown_set RB 6 _) hMR)
end Go.Proofs.YtghgiefciijoeaaGreatDoor
