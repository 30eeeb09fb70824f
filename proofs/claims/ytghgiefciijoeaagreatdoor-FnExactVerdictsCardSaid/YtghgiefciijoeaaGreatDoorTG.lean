/- EyeOf: the reference's, the program's. -/
import Derived.Test.YtghgiefciijoeaaGreatDoorKA
import Derived.Test.YtghgiefciijoeaaGreatDoorML

namespace Go.Proofs.YtghgiefciijoeaaGreatDoor
open Go.RowKit
set_option linter.unusedVariables false
set_option linter.unusedSimpArgs false
theorem step_app {P : Program} {w : World} {ops : Array Oper} {o : Oper} {a : Act} {K : Act → World → Prop} {Q : Exit → Act → World → Prop} {E : Prop} (hgd : o.guard = none) (s x : Operand) (t : TypeId)
  (ho : o.op = .call { callee := .builtin .append, args := #[s, x], argTypes := #[t, t] })
  (base : Nat) (e : TypeId) (i : TypeInfo) (z : Value) (size bytes : Nat) (ht : P.underlying t = some (.slice e)) (hi : P.info? e = some i) (hz : i.zero = some z)
  (hsize : i.size = size) (hby : i.bytes = bytes) (hzs : z.cells.size = size) (hsz : 0 < size)
  (v sv : Value) (n m : Nat) (xs news : List Value) (hs : a.eval s = v) (hx : a.eval x = sv) (hown : w.ownsRow base e size v n xs) (hsrc : Src w size sv m news) (h1 : ∀ u ∈ news, u.oneCell' = true)
  (h63 : n + m ≤ maxLen) (hbytes : (n + m) * bytes ≤ 140737488355328) (hbase : base ≤ w.heap.size)
  (h : ∀ v' w', w'.ownsRow base e size v' (n + m) (xs ++ news) → w.grownBy w' v.ownBlock → (v'.ownBlock = v.ownBlock ∨ v'.ownBlock = some w.heap.size) → K (a.put o.dst v') w') :
  if Region.wanted o (yielded ops a.tmps) = true then Oper.wp P o a w K Q else E := by
 have hw : Region.wanted o (yielded ops a.tmps) = true := by simp [Region.wanted, hgd]
 rw [if_pos hw]
 rcases hsrc with ⟨ad, c, rfl, rfl, rfl⟩ | ⟨ad, c, rfl, hl, hc⟩
 ·rcases ad with _ | ad
  ·have hrun := append_none (P := P) base t o.type e i size ht hi v n xs hown c
   have h' := h v w (by simpa using hown) (World.grownBy.refl w _) (.inl rfl)
   unfold Oper.wp execOp
   simp only [ho, resolve, invoke, builtin, Sem.run_bind, Sem.run_pure, Result.andThen_ok, List.map_toArray, List.map_cons, List.map_nil, hs, hx, hrun]
   exact h'
  ·obtain ⟨v', w', hr, h2, h3, h4, h5⟩ := run_append_own_at (P := P) w base t o.type e i z size bytes ht hi hz hsize hby hzs hsz v n xs hown ad 0 c [] (by simp) (by intro j u hu; simp at hu) (by simp) h63 hbytes hbase
   unfold Oper.wp execOp
   simp only [ho, resolve, invoke, builtin, Sem.run_bind, Sem.run_pure, Result.andThen_ok, List.map_toArray, List.map_cons, List.map_nil, hs, hx, hr]
   exact h v' w' h2 h3 h5
 ·obtain ⟨v', w', hr, h2, h3, h4, h5⟩ := run_append_own_at (P := P) w base t o.type e i z size bytes ht hi hz hsize hby hzs hsz v n xs hown ad m c news hl hc h1 h63 hbytes hbase
  unfold Oper.wp execOp
  simp only [ho, resolve, invoke, builtin, Sem.run_bind, Sem.run_pure, Result.andThen_ok, List.map_toArray, List.map_cons, List.map_nil, hs, hx, hr]
  exact h v' w' h2 h3 h5
theorem run_fieldDep (r n x3 x4 x5 x6 x7 x8 x9 : Int) (a : Option Addr) (m c : Nat) (u : Value) (w : World) : (Instr.field 32 (.agg #[.int .i64 r, .int .i64 n, .slice a m c, .int .i64 x3, .int .i64 x4, .int .i64 x5, .int .i64 x6, .int .i64 x7, .int .i64 x8, .int .i64 x9, u]) 2).run Tryz.prog w = .ok (.slice a m c) w := by kernel_rfl
theorem copyA_any (v : Value) (a : ActM) (w : World) (h : ActIs w v a) (hs : a.Small) : Calls Tryz.prog 146 #[v] w (RetA w a) := by
 obtain ⟨vd, vs, rfl, hd, hu⟩ := h
 exact (copyAct_any ⟨a, vd, vs⟩ w ⟨hd, hu⟩ hs).mono fun e w' h => Copied.ret h
set_option maxRecDepth 100000 in
set_option maxHeartbeats 3200000 in
theorem specEyeOf2 (v : Value) (a : ActM) (w : World) (h : ActIs w v a) (hs : a.Small) : Calls Tryz.prog 81 #[v] w (RetE a.r a.n w a.dep) := by
 obtain ⟨i0, hi, hz0, hz1, hz2⟩ := info_parts Tryz.info3
 obtain ⟨da, dc, ua, uc, hv⟩ := act_shape h
 subst hv
 have HA := Lib.hid h
 have HSM := Lib.hid hs
 obtain ⟨r, nn, dep, actor, kind, dst, bucket, mask, gr, gn, ups⟩ := a
 simp only at HA ⊢
 have HDP := Lib.hid (show dep.length ≤ 1048576 from HSM.out.1)
 obtain ⟨dl, hdl⟩ : ∃ x, x = dep.length := ⟨_, rfl⟩
 obtain ⟨ul, hul⟩ : ∃ x, x = ups.length := ⟨_, rfl⟩
 rw [← hdl] at HA ⊢
 rw [← hul] at HA ⊢
 have HDL := Lib.hid hdl
 clear h hs hdl hul
 have kA : Blk ((w.alloc (.cells #[.int .i64 r, .int .i64 nn, .slice da dl dc, .int .i64 actor, .int .i64 kind, .int .i64 dst, .int .i64 bucket, .int .i64 mask, .int .i64 gr, .int .i64 gn, .slice ua ul uc] 32)).alloc (.cells #[.int .i64 0, .int .i64 0, .slice none 0 0] 109)) w.heap.size [.int .i64 r, .int .i64 nn, .slice da dl dc, .int .i64 actor, .int .i64 kind, .int .i64 dst, .int .i64 bucket, .int .i64 mask, .int .i64 gr, .int .i64 gn, .slice ua ul uc] := (Blk.new w _ _).alloc _
 have kR : Blk ((w.alloc (.cells #[.int .i64 r, .int .i64 nn, .slice da dl dc, .int .i64 actor, .int .i64 kind, .int .i64 dst, .int .i64 bucket, .int .i64 mask, .int .i64 gr, .int .i64 gn, .slice ua ul uc] 32)).alloc (.cells #[.int .i64 0, .int .i64 0, .slice none 0 0] 109)) (w.heap.size + 1) [.int .i64 0, .int .i64 0, .slice none 0 0] := by
  have := Blk.new (w.alloc (.cells #[.int .i64 r, .int .i64 nn, .slice da dl dc, .int .i64 actor, .int .i64 kind, .int .i64 dst, .int .i64 bucket, .int .i64 mask, .int .i64 gr, .int .i64 gn, .slice ua ul uc] 32)) #[.int .i64 0, .int .i64 0, .slice none 0 0] 109
  rw [World.size_alloc] at this
  exact this
 have b0 := ((Below.refl w.heap.size w).alloc (Nat.le_refl _) (.cells #[.int .i64 r, .int .i64 nn, .slice da dl dc, .int .i64 actor, .int .i64 kind, .int .i64 dst, .int .i64 bucket, .int .i64 mask, .int .i64 gr, .int .i64 gn, .slice ua ul uc] 32)).alloc (by simp) (.cells #[.int .i64 0, .int .i64 0, .slice none 0 0] 109)
 obtain ⟨RB, hRB⟩ : ∃ R, R = w.heap.size + 1 := ⟨_, rfl⟩
 obtain ⟨AB, hAB⟩ : ∃ R, R = w.heap.size := ⟨_, rfl⟩
 go_enter Tryz.func81, Tryz.ntmps81
 go_upto_region 1 with (fail)
 rw [← hRB] at kR ⊢
 rw [← hAB] at kA ⊢
 generalize ((w.alloc (.cells #[.int .i64 r, .int .i64 nn, .slice da dl dc, .int .i64 actor, .int .i64 kind, .int .i64 dst, .int .i64 bucket, .int .i64 mask, .int .i64 gr, .int .i64 gn, .slice ua ul uc] 32)).alloc (.cells #[.int .i64 0, .int .i64 0, .slice none 0 0] 109)) = W0 at kA kR b0 ⊢
 have HRB := Lib.hid hRB
 have HAB := Lib.hid hAB
 have HRA := Lib.hid (show AB + 1 = RB by omega)
 clear hRB hAB
 refine wp_region_held_drew (S := fun w' => Blk w' AB [.int .i64 r, .int .i64 nn, .slice da dl dc, .int .i64 actor, .int .i64 kind, .int .i64 dst, .int .i64 bucket, .int .i64 mask, .int .i64 gr, .int .i64 gn, .slice ua ul uc]) (by kernel_rfl) (kA.drew) (fun hHeld => ?_)
 refine held_take (i := 0) (d := some 3) (v := ?_) rfl (by kernel_rfl) (by kernel_rfl) (by kernel_rfl) (by kernel_rfl) (fun _ _ _ h => h) (by kernel_rfl) ?_ hHeld ?_
 rotate_left
 ·intro w' hSw
  go_simp
  first | done | with_reducible rfl
 simp only [Act.put, List.setIfInBounds_toArray, List.set_cons_zero, List.set_cons_succ]
 refine held_take (i := 1) (d := some 4) (v := ?_) rfl (by kernel_rfl) (by kernel_rfl) (by kernel_rfl) (by kernel_rfl) (fun _ _ _ h => h) (by kernel_rfl) ?_ hHeld ?_
 rotate_left
 ·intro w' hSw
  have g0 := hSw.cell 0
  have g1 := hSw.cell 1
  have g2 := hSw.cell 2
  have g3 := hSw.cell 3
  have g4 := hSw.cell 4
  have g5 := hSw.cell 5
  have g6 := hSw.cell 6
  have g7 := hSw.cell 7
  have g8 := hSw.cell 8
  have g9 := hSw.cell 9
  have g10 := hSw.cell 10
  simp only [List.getElem?_cons_zero, List.getElem?_cons_succ] at g0 g1 g2 g3 g4 g5 g6 g7 g8 g9 g10
  go_simp
  first | done | with_reducible rfl
 simp only [Act.put, List.setIfInBounds_toArray, List.set_cons_zero, List.set_cons_succ]
 refine held_take (i := 2) (d := some 5) (v := ?_) rfl (by kernel_rfl) (by kernel_rfl) (by kernel_rfl) (by kernel_rfl) (fun _ _ _ h => h) (by kernel_rfl) ?_ hHeld ?_
 rotate_left
 ·intro w' hSw
  go_simp
  first | done | with_reducible rfl
 simp only [Act.put, List.setIfInBounds_toArray, List.set_cons_zero, List.set_cons_succ]
 refine held_take (i := 3) (d := some 6) (v := ?_) rfl (by kernel_rfl) (by kernel_rfl) (by kernel_rfl) (by kernel_rfl) (fun _ _ _ h => h) (by kernel_rfl) ?_ hHeld ?_
 rotate_left
 ·intro w' hSw
  have g0 := hSw.cell 0
  have g1 := hSw.cell 1
  have g2 := hSw.cell 2
  have g3 := hSw.cell 3
  have g4 := hSw.cell 4
  have g5 := hSw.cell 5
  have g6 := hSw.cell 6
  have g7 := hSw.cell 7
  have g8 := hSw.cell 8
  have g9 := hSw.cell 9
  have g10 := hSw.cell 10
  simp only [List.getElem?_cons_zero, List.getElem?_cons_succ] at g0 g1 g2 g3 g4 g5 g6 g7 g8 g9 g10
  go_simp
  first | done | with_reducible rfl
 simp only [Act.put, List.setIfInBounds_toArray, List.set_cons_zero, List.set_cons_succ]
 refine held_take (i := 5) (d := some 8) (v := ?_) rfl (by kernel_rfl) (by kernel_rfl) (by kernel_rfl) (by kernel_rfl) (fun _ _ _ h => h) (by kernel_rfl) ?_ hHeld ?_
 rotate_left
 ·intro w' hSw
  go_simp
  first | done | with_reducible rfl
 simp only [Act.put, List.setIfInBounds_toArray, List.set_cons_zero, List.set_cons_succ]
 refine held_take (i := 6) (d := some 9) (v := ?_) rfl (by kernel_rfl) (by kernel_rfl) (by kernel_rfl) (by kernel_rfl) (fun _ _ _ h => h) (by kernel_rfl) ?_ hHeld ?_
 rotate_left
 ·intro w' hSw
  have g0 := hSw.cell 0
  have g1 := hSw.cell 1
  have g2 := hSw.cell 2
  have g3 := hSw.cell 3
  have g4 := hSw.cell 4
  have g5 := hSw.cell 5
  have g6 := hSw.cell 6
  have g7 := hSw.cell 7
  have g8 := hSw.cell 8
  have g9 := hSw.cell 9
  have g10 := hSw.cell 10
  simp only [List.getElem?_cons_zero, List.getElem?_cons_succ] at g0 g1 g2 g3 g4 g5 g6 g7 g8 g9 g10
  go_simp
  first | done | with_reducible rfl
 simp only [Act.put, List.setIfInBounds_toArray, List.set_cons_zero, List.set_cons_succ]
 refine wpAnyH_ready (rs := [4]) (by kernel_rfl) (by simp) ?_
 refine AllReadyH.cons rfl (fun K hK => ?_) AllReadyH.nil
 go_simp
 have O0 := Lib.hid (World.ownsRow_lit (size := 1) (e := 3) (base := W0.drew.heap.size) W0.drew #[] 0 (Nat.le_refl _) (by unfold maxLen; omega) rfl)
 have kA1 := kA.drew.alloc (.cells #[] 3)
 have kR1 := kR.drew.alloc (.cells #[] 3)
 have b1 := (b0.drew).alloc (by have := b0.size; exact this) (.cells #[] 3)
 have hsz : W0.drew.heap.size = W0.heap.size := rfl
 have hbz : w.heap.size ≤ W0.heap.size := b0.size
 refine hK.out _ _ kA1 (fun hHeld => ?_)
 clear hK K
 try simp only [Act.put, List.setIfInBounds_toArray, List.set_cons_zero, List.set_cons_succ]
 refine wpAnyH_ready (rs := [7]) (by kernel_rfl) (by simp) ?_
 refine AllReadyH.cons rfl (fun K hK => ?_) AllReadyH.nil
 refine step_app rfl (.tmp 7) (.tmp 9) 29 rfl W0.drew.heap.size 3 i0 (.int .i64 0) 1 8 Tryz.underlying29 hi hz0 hz1 hz2 rfl (by decide) _ (.slice da dl dc) 0 dep.length [] (vi dep) rfl rfl O0.out (src_ints (by have h9 := (HA.out.below b1); obtain ⟨vd, vs, he, hd, hu⟩ := h9; simp only [Value.agg.injEq, Array.mk.injEq, List.cons.injEq] at he; rw [he.2.2.1]; exact hd)) (vi_one dep) (by have := HDP.out; unfold maxLen; omega) (by have := HDP.out; omega) (by simp [World.size_alloc]) ?_
 intro v1 w1 hown1 hgrow1 _
 try simp only [Nat.zero_add, List.nil_append] at hown1
 obtain ⟨a1, c1, rfl⟩ := row_shape hown1
 have G1 : (W0.drew.alloc (.cells #[] 3)).grownBy w1 (some W0.drew.heap.size) := hgrow1
 have kA3 := kA1.grown G1 (by have := kA.lt; show _ ≠ _; intro h; simp at h; omega)
 have kR3 := kR1.grown G1 (by have := kR.lt; show _ ≠ _; intro h; simp at h; omega)
 have B3 := b1.grown G1 b1.size (fun k hk => by cases hk; exact hbz)
 obtain ⟨g, hg, hO⟩ := own_of_row rfl hown1
 obtain ⟨bs, hI, _, hbs⟩ := own_I hO (W0.drew.heap.size) hg
 refine hK.out _ _ kA3 (fun hHeld => ?_)
 clear hK K
 try simp only [Act.put, List.setIfInBounds_toArray, List.set_cons_zero, List.set_cons_succ]
 refine held_take (i := 8) (d := some 11) (v := ?_) rfl (by kernel_rfl) (by kernel_rfl) (by kernel_rfl) (by kernel_rfl) (fun _ _ _ h => h) (by kernel_rfl) ?_ hHeld ?_
 rotate_left
 ·intro w' hSw
  go_simp
  first | done | with_reducible rfl
 simp only [Act.put, List.setIfInBounds_toArray, List.set_cons_zero, List.set_cons_succ]
 refine wpAnyH_ready (rs := [9]) (by kernel_rfl) (by simp) ?_
 refine AllReadyH.cons rfl (fun K hK => ?_) AllReadyH.nil
 have r0 := kR3.cell 0
 have r1 := kR3.cell 1
 have r2 := kR3.cell 2
 have f0 := kR3.free
 simp only [List.getElem?_cons_zero, List.getElem?_cons_succ] at r0 r1 r2
 go_simp
 refine hK.out _ _ (((kA3.other (p := ⟨RB, 0, none⟩) (by have := HRA.out; simp; omega) _).other (p := ⟨RB, 1, none⟩) (by have := HRA.out; simp; omega) _).other (p := ⟨RB, 2, none⟩) (by have := HRA.out; simp; omega) _) (fun hHeld => ?_)
 clear hK K
 try simp only [Act.put, List.setIfInBounds_toArray, List.set_cons_zero, List.set_cons_succ]
 refine wpAnyH_done (by kernel_rfl) ?_ _
 go_wp2
 have hlt : ∀ b ∈ bs, RB < b := fun b hb => by have h1 := hbs b hb; have h2 := kR.lt; omega
 have hwl : w.heap.size ≤ RB := by have := HRB.out; omega
 refine bodyPost_ret (v := .agg #[.int .i64 r, .int .i64 nn, .slice a1 dep.length c1]) (by simp [results, Tryz.results81, go_sem, r0, r1, r2]) rfl ⟨_, bs, rfl, ((hI.setCell hlt 0 _).setCell hlt 1 _).setCell hlt 2 _, fun b hb => by have := hlt b hb; omega, ?_⟩
 exact ((B3.setCell (by simpa using hwl) _).setCell (by simpa using hwl) _).setCell (by simpa using hwl) _
end Go.Proofs.YtghgiefciijoeaaGreatDoor
