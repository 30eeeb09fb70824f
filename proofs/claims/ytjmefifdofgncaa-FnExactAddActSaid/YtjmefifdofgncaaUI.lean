/- The program's with: the set and one act more. -/
import Derived.Test.YtjmefifdofgncaaUF
import Derived.Test.YtjmefifdofgncaaUH
namespace Go.Proofs.Ytjmefifdofgncaa
open Go.RowKit
set_option linter.unusedVariables false
set_option linter.unusedSimpArgs false

/-- a set whose acts lie in a row of its own -/
def WithMade (w : World) (l : List ActM) (n : Int) (e : Ending) (w' : World) : Prop := Below w.heap.size w w' ∧
  ∃ v mb, e = .returned (setVal v mb n l) ∧ Row w' w.heap.size v l ∧ w.heap.size ≤ mb ∧ w'.ownsMap Try.prog 111 (plainElem Try.prog 3) mb l.length (atD l 0 (.map []))
theorem Row.below {w w' : World} {lo : Nat} {v : Value} {l : List ActM} (h : Row w lo v l) (hb : Below w.heap.size w w') : Row w' lo v l := by
  obtain ⟨ts, cs, h1, h2, h3, h4, h5⟩ := h
  exact ⟨ts, cs, h1, row_past h2 hb, h3.keep fun b hm => hb.block b (h3.lt b hm), h4, h5⟩
theorem Row.less {w : World} {lo lo' : Nat} {v : Value} {l : List ActM} (h : Row w lo v l) (hl : lo' ≤ lo) : Row w lo' v l := by
  obtain ⟨ts, cs, h1, h2, h3, h4, h5⟩ := h
  exact ⟨ts, cs, h1, row_less h2 hl, h3, h4, fun b hb => Nat.le_trans hl (h5 b hb)⟩
theorem setCell_row {w : World} {lo R : Nat} {v : Value} {l : List ActM} (h : Row w lo v l) (hR : R < lo) (o : Nat) (u : Value) : Row (w.setCell ⟨R, o, none⟩ u) lo v l := by
  obtain ⟨ts, cs, h1, h2, h3, h4, h5⟩ := h
  have hk : ∀ b, lo ≤ b → (w.setCell ⟨R, o, none⟩ u).heap[b]? = w.heap[b]? := fun b hb => Below.heap_setCell _ _ _ _ (by simp; omega)
  refine ⟨ts, cs, h1, ?_, h3.keep fun b hm => hk b (h5 b hm), h4, h5⟩
  exact row_grown h2 (grown_set R o u) (fun g e => by cases e; exact hR)
theorem insM_len (l : List ActM) (p : ActM) : (insM l p).length = l.length + 1 := by
  unfold insM
  rw [List.length_append, List.length_cons, List.length_take, List.length_drop]
  have := List.findIdx_le_length (p := fun b => aheadM p b) (xs := l)
  omega
theorem insM_mem (l : List ActM) (p b : ActM) (h : b ∈ insM l p) : b = p ∨ b ∈ l := by
  unfold insM at h
  rcases List.mem_append.1 h with h | h
  · exact .inr (List.mem_of_mem_take h)
  · rcases List.mem_cons.1 h with h | h
    · exact .inl h
    · exact .inr (List.mem_of_mem_drop h)

set_option maxRecDepth 100000 in
set_option maxHeartbeats 6400000 in
theorem with_any (a : Option Addr) (cap mb m : Nat) (ts : List ActT) (L : Nat) (x0 x1 x2 x3 : Int) (u : Value) (p : ActM) (w : World) (h : ActsT w (.slice a L cap) ts) (hL : ts.length = L) (hL60 : L < 60) (hm4 : m ≤ 4) (hok : ∀ t ∈ ts, actOkM t.a m = true)
    (hp : ActIs w u p) (hpo : actOkM p m = true) (hsl : SmallL (ts.map ActT.a)) :
    Calls Try.prog 127 #[.agg #[.slice a L cap, .map (some mb), .int .i64 m, .int .i64 x0, .int .i64 x1, .int .i64 x2, .int .i64 x3], u] w (WithMade w (insM (ts.map ActT.a) p) m) := by
  have hps : p.Small := ok_small hpo
  have hml : (ts.map ActT.a).length = L := by rw [List.length_map, hL]
  obtain ⟨NL, hNL⟩ : ∃ NL, NL = insM (ts.map ActT.a) p := ⟨_, rfl⟩
  have hNLl : NL.length = L + 1 := by rw [hNL, insM_len, hml]
  have hNLo : ∀ b ∈ NL, actOkM b m = true := fun b hb => by
    rw [hNL] at hb
    rcases insM_mem _ _ _ hb with rfl | hb
    · exact hpo
    · obtain ⟨t, ht, rfl⟩ := List.mem_map.1 hb
      exact hok t ht
  have CV := Lib.hid (fun W (hW : Below w.heap.size w W) G (k : Blk W G [.slice a L cap]) => copyVals_any (.slice a L cap) ts G W (h.below hW) hsl k)
  have PU := Lib.hid (fun W (hW : Below w.heap.size w W) lo v (hr : Row W lo v (ts.map ActT.a)) (hlo : lo ≤ W.heap.size) => put_any lo v u (ts.map ActT.a) p W hr hlo (by omega) (hp.below hW) hps)
  have SO := Lib.hid (fun W v lo (hr : Row W lo v NL) => (show Calls Try.prog 121 #[v, .int .i64 m] W (SetMade W v NL m) by
    obtain ⟨t2, cs, h1, h2, h3, h4, h5⟩ := hr
    rw [← h1]
    exact setOf_any v t2 m m W (Row.acts h2 h3) (by have := hNLl; rw [← h1, List.length_map] at this; omega) hm4 (fun t ht => hNLo _ (by rw [← h1]; exact List.mem_map_of_mem ht))))
  rw [← hNL] at PU ⊢
  have HP := Lib.hid hp
  obtain ⟨da, dc, ua, uc, hu⟩ := act_shape hp
  obtain ⟨⟨r, nn, dep, actor, kind, dst, bucket, mask, gr, gn, ups⟩, hpp⟩ : ∃ x, p = x := ⟨_, rfl⟩
  simp only [hpp] at hu
  obtain ⟨dl, hdl⟩ : ∃ x, x = dep.length := ⟨_, rfl⟩
  obtain ⟨ul, hul⟩ : ∃ x, x = ups.length := ⟨_, rfl⟩
  rw [← hdl, ← hul] at hu
  subst hu
  have HNL := Lib.hid hNLl
  clear hNL hNLl hNLo hps hml hdl hul h hp hok hpo hsl hpp hL
  have kS : Blk (((w.alloc (.cells #[.slice a L cap, .map (some mb), .int .i64 m, .int .i64 x0, .int .i64 x1, .int .i64 x2, .int .i64 x3] 93)).alloc (.cells #[.int .i64 r, .int .i64 nn, .slice da dl dc, .int .i64 actor, .int .i64 kind, .int .i64 dst, .int .i64 bucket, .int .i64 mask, .int .i64 gr, .int .i64 gn, .slice ua ul uc] 42)).alloc (.cells #[.slice none 0 0, .map none, .int .i64 0, .int .i64 0, .int .i64 0, .int .i64 0, .int .i64 0] 93)) w.heap.size [.slice a L cap, .map (some mb), .int .i64 m, .int .i64 x0, .int .i64 x1, .int .i64 x2, .int .i64 x3] := ((Blk.new w _ _).alloc _).alloc _
  have kA : Blk (((w.alloc (.cells #[.slice a L cap, .map (some mb), .int .i64 m, .int .i64 x0, .int .i64 x1, .int .i64 x2, .int .i64 x3] 93)).alloc (.cells #[.int .i64 r, .int .i64 nn, .slice da dl dc, .int .i64 actor, .int .i64 kind, .int .i64 dst, .int .i64 bucket, .int .i64 mask, .int .i64 gr, .int .i64 gn, .slice ua ul uc] 42)).alloc (.cells #[.slice none 0 0, .map none, .int .i64 0, .int .i64 0, .int .i64 0, .int .i64 0, .int .i64 0] 93)) (w.heap.size + 1) [.int .i64 r, .int .i64 nn, .slice da dl dc, .int .i64 actor, .int .i64 kind, .int .i64 dst, .int .i64 bucket, .int .i64 mask, .int .i64 gr, .int .i64 gn, .slice ua ul uc] := by
    have := (Blk.new (w.alloc (.cells #[.slice a L cap, .map (some mb), .int .i64 m, .int .i64 x0, .int .i64 x1, .int .i64 x2, .int .i64 x3] 93)) #[.int .i64 r, .int .i64 nn, .slice da dl dc, .int .i64 actor, .int .i64 kind, .int .i64 dst, .int .i64 bucket, .int .i64 mask, .int .i64 gr, .int .i64 gn, .slice ua ul uc] 42).alloc (.cells #[.slice none 0 0, .map none, .int .i64 0, .int .i64 0, .int .i64 0, .int .i64 0, .int .i64 0] 93)
    rw [World.size_alloc] at this
    exact this
  have kR : Blk (((w.alloc (.cells #[.slice a L cap, .map (some mb), .int .i64 m, .int .i64 x0, .int .i64 x1, .int .i64 x2, .int .i64 x3] 93)).alloc (.cells #[.int .i64 r, .int .i64 nn, .slice da dl dc, .int .i64 actor, .int .i64 kind, .int .i64 dst, .int .i64 bucket, .int .i64 mask, .int .i64 gr, .int .i64 gn, .slice ua ul uc] 42)).alloc (.cells #[.slice none 0 0, .map none, .int .i64 0, .int .i64 0, .int .i64 0, .int .i64 0, .int .i64 0] 93)) (w.heap.size + 1 + 1) [.slice none 0 0, .map none, .int .i64 0, .int .i64 0, .int .i64 0, .int .i64 0, .int .i64 0] := by
    have := Blk.new ((w.alloc (.cells #[.slice a L cap, .map (some mb), .int .i64 m, .int .i64 x0, .int .i64 x1, .int .i64 x2, .int .i64 x3] 93)).alloc (.cells #[.int .i64 r, .int .i64 nn, .slice da dl dc, .int .i64 actor, .int .i64 kind, .int .i64 dst, .int .i64 bucket, .int .i64 mask, .int .i64 gr, .int .i64 gn, .slice ua ul uc] 42)) #[.slice none 0 0, .map none, .int .i64 0, .int .i64 0, .int .i64 0, .int .i64 0, .int .i64 0] 93
    rw [World.size_alloc, World.size_alloc] at this
    exact this
  have b0 := (((Below.refl w.heap.size w).alloc (Nat.le_refl _) (.cells #[.slice a L cap, .map (some mb), .int .i64 m, .int .i64 x0, .int .i64 x1, .int .i64 x2, .int .i64 x3] 93)).alloc (by simp) (.cells #[.int .i64 r, .int .i64 nn, .slice da dl dc, .int .i64 actor, .int .i64 kind, .int .i64 dst, .int .i64 bucket, .int .i64 mask, .int .i64 gr, .int .i64 gn, .slice ua ul uc] 42)).alloc (by simp <;> omega) (.cells #[.slice none 0 0, .map none, .int .i64 0, .int .i64 0, .int .i64 0, .int .i64 0, .int .i64 0] 93)
  obtain ⟨SB, hSB⟩ : ∃ q, q = w.heap.size := ⟨_, rfl⟩
  go_enter Try.func127, Try.ntmps127
  go_upto_region 1 with (fail)
  rw [← hSB] at kS kA kR ⊢
  generalize (((w.alloc (.cells #[.slice a L cap, .map (some mb), .int .i64 m, .int .i64 x0, .int .i64 x1, .int .i64 x2, .int .i64 x3] 93)).alloc (.cells #[.int .i64 r, .int .i64 nn, .slice da dl dc, .int .i64 actor, .int .i64 kind, .int .i64 dst, .int .i64 bucket, .int .i64 mask, .int .i64 gr, .int .i64 gn, .slice ua ul uc] 42)).alloc (.cells #[.slice none 0 0, .map none, .int .i64 0, .int .i64 0, .int .i64 0, .int .i64 0, .int .i64 0] 93)) = W0 at kS kA kR b0 ⊢
  have HSB := Lib.hid hSB
  clear hSB
  refine wp_region_held_drew (S := fun w' => Blk w' SB [.slice a L cap, .map (some mb), .int .i64 m, .int .i64 x0, .int .i64 x1, .int .i64 x2, .int .i64 x3] ∧ Blk w' (SB + 1) [.int .i64 r, .int .i64 nn, .slice da dl dc, .int .i64 actor, .int .i64 kind, .int .i64 dst, .int .i64 bucket, .int .i64 mask, .int .i64 gr, .int .i64 gn, .slice ua ul uc]) (by kernel_rfl) (⟨kS.drew, kA.drew⟩) (fun hHeld => ?_)
  refine held_take (i := 0) (d := some 5) (v := ?_) rfl (by kernel_rfl) (by kernel_rfl) (by kernel_rfl) (by kernel_rfl) (fun _ _ _ h => h) (by kernel_rfl) ?_ hHeld ?_
  rotate_left
  · intro w' hSw
    go_simp
    first | done | with_reducible rfl
  simp only [Act.put, List.setIfInBounds_toArray, List.set_cons_zero, List.set_cons_succ]
  refine held_take (i := 1) (d := some 6) (v := ?_) rfl (by kernel_rfl) (by kernel_rfl) (by kernel_rfl) (by kernel_rfl) (fun _ _ _ h => h) (by kernel_rfl) ?_ hHeld ?_
  rotate_left
  · intro w' hSw
    have s0 := hSw.1.cell 0
    have s1 := hSw.1.cell 1
    have s2 := hSw.1.cell 2
    have s3 := hSw.1.cell 3
    have s4 := hSw.1.cell 4
    have s5 := hSw.1.cell 5
    have s6 := hSw.1.cell 6
    simp only [List.getElem?_cons_zero, List.getElem?_cons_succ] at s0 s1 s2 s3 s4 s5 s6
    go_simp
    first | done | with_reducible rfl
  simp only [Act.put, List.setIfInBounds_toArray, List.set_cons_zero, List.set_cons_succ]
  refine held_take (i := 4) (d := some 9) (v := ?_) rfl (by kernel_rfl) (by kernel_rfl) (by kernel_rfl) (by kernel_rfl) (fun _ _ _ h => h) (by kernel_rfl) ?_ hHeld ?_
  rotate_left
  · intro w' hSw
    have c0 := hSw.2.cell 0
    have c1 := hSw.2.cell 1
    have c2 := hSw.2.cell 2
    have c3 := hSw.2.cell 3
    have c4 := hSw.2.cell 4
    have c5 := hSw.2.cell 5
    have c6 := hSw.2.cell 6
    have c7 := hSw.2.cell 7
    have c8 := hSw.2.cell 8
    have c9 := hSw.2.cell 9
    have c10 := hSw.2.cell 10
    simp only [List.getElem?_cons_zero, List.getElem?_cons_succ] at c0 c1 c2 c3 c4 c5 c6 c7 c8 c9 c10
    go_simp
    first | done | with_reducible rfl
  simp only [Act.put, List.setIfInBounds_toArray, List.set_cons_zero, List.set_cons_succ]
  refine held_take (i := 6) (d := some 11) (v := ?_) rfl (by kernel_rfl) (by kernel_rfl) (by kernel_rfl) (by kernel_rfl) (fun _ _ _ h => h) (by kernel_rfl) ?_ hHeld ?_
  rotate_left
  · intro w' hSw
    go_simp
    first | done | with_reducible rfl
  simp only [Act.put, List.setIfInBounds_toArray, List.set_cons_zero, List.set_cons_succ]
  refine held_take (i := 7) (d := some 12) (v := ?_) rfl (by kernel_rfl) (by kernel_rfl) (by kernel_rfl) (by kernel_rfl) (fun _ _ _ h => h) (by kernel_rfl) ?_ hHeld ?_
  rotate_left
  · intro w' hSw
    go_simp
    first | done | with_reducible rfl
  simp only [Act.put, List.setIfInBounds_toArray, List.set_cons_zero, List.set_cons_succ]
  refine held_take (i := 8) (d := some 13) (v := ?_) rfl (by kernel_rfl) (by kernel_rfl) (by kernel_rfl) (by kernel_rfl) (fun _ _ _ h => h) (by kernel_rfl) ?_ hHeld ?_
  rotate_left
  · intro w' hSw
    have s0 := hSw.1.cell 0
    have s1 := hSw.1.cell 1
    have s2 := hSw.1.cell 2
    have s3 := hSw.1.cell 3
    have s4 := hSw.1.cell 4
    have s5 := hSw.1.cell 5
    have s6 := hSw.1.cell 6
    simp only [List.getElem?_cons_zero, List.getElem?_cons_succ] at s0 s1 s2 s3 s4 s5 s6
    go_simp
    first | done | with_reducible rfl
  simp only [Act.put, List.setIfInBounds_toArray, List.set_cons_zero, List.set_cons_succ]
  refine wpAnyH_ready (rs := [2]) (by kernel_rfl) (by simp) ?_
  refine AllReadyH.cons rfl (fun K hK => ?_) AllReadyH.nil
  go_simp
  refine (values_any a L cap _).mono ?_
  rintro e w1 ⟨G, rfl, hG, kG, b1⟩
  have kS1 := kS.drew.below b1 kS.lt
  have kA1 := kA.drew.below b1 kA.lt
  have kR1 := kR.drew.below b1 kR.lt
  have B1 := b0.drew.trans (b1.mono b0.size)
  refine hK.out _ _ (⟨kS1, kA1⟩) (fun hHeld => ?_)
  clear hK K
  try simp only [Act.put, List.setIfInBounds_toArray, List.set_cons_zero, List.set_cons_succ]
  refine wpAnyH_ready (rs := [3]) (by kernel_rfl) (by simp) ?_
  refine AllReadyH.cons rfl (fun K hK => ?_) AllReadyH.nil
  go_simp
  refine (CV.out w1 B1 G kG).mono ?_
  rintro e w2 ⟨v2, rfl, hr2, b2⟩
  have kS2 := kS1.below b2 kS1.lt
  have kA2 := kA1.below b2 kA1.lt
  have kR2 := kR1.below b2 kR1.lt
  have B2 := B1.trans (b2.mono B1.size)
  refine hK.out _ _ (⟨kS2, kA2⟩) (fun hHeld => ?_)
  clear hK K
  try simp only [Act.put, List.setIfInBounds_toArray, List.set_cons_zero, List.set_cons_succ]
  refine wpAnyH_ready (rs := [5]) (by kernel_rfl) (by simp) ?_
  refine AllReadyH.cons rfl (fun K hK => ?_) AllReadyH.nil
  go_simp
  refine (PU.out w2 B2 w1.heap.size v2 hr2 b2.size).mono ?_
  rintro e w3 ⟨v3, rfl, hr3, b3⟩
  have kS3 := kS2.below b3 kS1.lt
  have kA3 := kA2.below b3 kA1.lt
  have kR3 := kR2.below b3 kR1.lt
  have B3 := B2.trans (b3.mono B1.size)
  refine hK.out _ _ (⟨kS3, kA3⟩) (fun hHeld => ?_)
  clear hK K
  try simp only [Act.put, List.setIfInBounds_toArray, List.set_cons_zero, List.set_cons_succ]
  refine wpAnyH_ready (rs := [9]) (by kernel_rfl) (by simp) ?_
  refine AllReadyH.cons rfl (fun K hK => ?_) AllReadyH.nil
  go_simp
  refine (SO.out w3 v3 _ hr3).mono ?_
  rintro e w4 ⟨b4, M, hM, rfl, own4⟩
  have kS4 := kS3.below b4 kS3.lt
  have kA4 := kA3.below b4 kA3.lt
  have kR4 := kR3.below b4 kR3.lt
  have B4 := B3.trans (b4.mono B3.size)
  have hr4 := hr3.below b4
  obtain ⟨va3, vc3, hv3⟩ : ∃ x c, v3 = .slice x NL.length c := by
    obtain ⟨t2, cs, h1, h2, h3, h4, h5⟩ := hr3
    obtain ⟨x, c, hx⟩ := row_shape h2
    exact ⟨x, c, by rw [hx, ← h1, List.length_map]⟩
  simp only [setVal]
  try simp only [hv3]
  refine hK.out _ _ (⟨kS4, kA4⟩) (fun hHeld => ?_)
  clear hK K
  try simp only [Act.put, List.setIfInBounds_toArray, List.set_cons_zero, List.set_cons_succ]
  obtain ⟨c0, hc0⟩ : ∃ x : Int, x = (cntM NL 0 : Int) := ⟨_, rfl⟩
  obtain ⟨c1, hc1⟩ : ∃ x : Int, x = (cntM NL 1 : Int) := ⟨_, rfl⟩
  obtain ⟨c2, hc2⟩ : ∃ x : Int, x = (cntM NL 2 : Int) := ⟨_, rfl⟩
  obtain ⟨c3, hc3⟩ : ∃ x : Int, x = (cntM NL 3 : Int) := ⟨_, rfl⟩
  have HSV : Hid (setVal (.slice va3 NL.length vc3) M m NL = .agg #[.slice va3 NL.length vc3, .map (some M), .int .i64 m, .int .i64 c0, .int .i64 c1, .int .i64 c2, .int .i64 c3]) := by
    subst hc0 hc1 hc2 hc3
    exact rfl
  simp only [← hc0, ← hc1, ← hc2, ← hc3]
  refine wpAnyH_ready (rs := [10]) (by kernel_rfl) (by simp) ?_
  refine AllReadyH.cons rfl (fun K hK => ?_) AllReadyH.nil
  have hne : ∀ o, (⟨SB + 1 + 1, o, none⟩ : Addr).block ≠ SB := fun o => by simp; omega
  have hne2 : ∀ o, (⟨SB + 1 + 1, o, none⟩ : Addr).block ≠ SB + 1 := fun o => by simp
  have r0 := kR4.cell 0
  have r1 := kR4.cell 1
  have r2 := kR4.cell 2
  have r3 := kR4.cell 3
  have r4 := kR4.cell 4
  have r5 := kR4.cell 5
  have r6 := kR4.cell 6
  simp only [List.getElem?_cons_zero, List.getElem?_cons_succ] at r0 r1 r2 r3 r4 r5 r6
  have f0 := kR4.free
  clear hc0 hc1 hc2 hc3
  go_simp
  refine hK.out _ _ ⟨(((((((kS4.other (hne 0) _).other (hne 1) _).other (hne 2) _).other (hne 3) _).other (hne 4) _).other (hne 5) _).other (hne 6) _), (((((((kA4.other (hne2 0) _).other (hne2 1) _).other (hne2 2) _).other (hne2 3) _).other (hne2 4) _).other (hne2 5) _).other (hne2 6) _)⟩ (fun hHeld => ?_)
  clear hK K
  try simp only [Act.put, List.setIfInBounds_toArray, List.set_cons_zero, List.set_cons_succ]
  refine wpAnyH_done (by kernel_rfl) ?_ _
  go_wp2
  have hRlo : SB + 1 + 1 < w1.heap.size := kR1.lt
  have hRM : SB + 1 + 1 < M := Nat.lt_of_lt_of_le kR3.lt hM
  have hwl : w.heap.size ≤ SB + 1 + 1 := by have := HSB.out; omega
  have hMR : (some M : Option Nat) ≠ some (SB + 1 + 1) := by simp; omega
  refine bodyPost_ret (v := setVal (.slice va3 NL.length vc3) M m NL) (by rw [HSV.out]; simp [results, Try.results127, go_sem, r0, r1, r2, r3, r4, r5, r6]) rfl ⟨?_, .slice va3 NL.length vc3, M, rfl, ?_, by have := B3.size; omega, ?_⟩
  · exact ((((((B4.setCell (by simpa using hwl) _).setCell (by simpa using hwl) _).setCell (by simpa using hwl) _).setCell (by simpa using hwl) _).setCell (by simpa using hwl) _).setCell (by simpa using hwl) _).setCell (by simpa using hwl) _
  · rw [← hv3]
    exact (setCell_row (setCell_row (setCell_row (setCell_row (setCell_row (setCell_row (setCell_row hr4 hRlo 0 _) hRlo 1 _) hRlo 2 _) hRlo 3 _) hRlo 4 _) hRlo 5 _) hRlo 6 _).less B1.size
  · exact (((((((own4.kept (grown_set (SB + 1 + 1) 0 _) hMR).kept (grown_set (SB + 1 + 1) 1 _) hMR).kept (grown_set (SB + 1 + 1) 2 _) hMR).kept (grown_set (SB + 1 + 1) 3 _) hMR).kept (grown_set (SB + 1 + 1) 4 _) hMR).kept (grown_set (SB + 1 + 1) 5 _) hMR).kept (grown_set (SB + 1 + 1) 6 _) hMR)
end Go.Proofs.Ytjmefifdofgncaa
