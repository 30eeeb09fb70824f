/- The reference's AddAct. -/
import Derived.Test.YtcgncaiehdcooaaCI
import Derived.Test.YtcgncaiehdcooaaCG
namespace Go.Proofs.Ytcgncaiehdcooaa
open Go.RowKit
set_option linter.unusedVariables false

theorem scan_all {n : Int} : ∀ (l : List ActM) (p : Option ActM) (next v : List Int), scanM n p next l = some v → ∀ a ∈ l, actOkM a n = true
  | [], _, _, _, _, a, ha => by cases ha
  | x :: l, p, next, v, h, a, ha => by
    rw [scanM] at h
    split at h
    · rename_i hx
      rcases List.mem_cons.1 ha with rfl | ha
      · exact hx.1
      · exact scan_all l _ _ v h a ha
    · cases h
theorem setOk_all {l : List ActM} {n : Int} (h : setOkM l n = true) : 1 ≤ n ∧ n ≤ 4 ∧ l.length ≤ 60 ∧ ∀ a ∈ l, actOkM a n = true := by
  simp only [setOkM, Bool.and_eq_true, decide_eq_true_eq] at h
  obtain ⟨⟨⟨h1, h2⟩, h3⟩, h4⟩ := h
  refine ⟨h1, h2, h3, ?_⟩
  cases hs : scanM n none (List.replicate n.toNat 0) l with
  | none => rw [hs] at h4; cases h4
  | some v => exact scan_all l none _ v hs
theorem ok_small {a : ActM} {n : Int} (h : actOkM a n = true) : a.Small := by
  have hu : a.ups.length ≤ 5 := by
    simp only [actOkM, Bool.and_eq_true, fieldsM, okUps, decide_eq_true_eq] at h
    have h := h.2
    split at h
    · simp only [Bool.and_eq_true, decide_eq_true_eq] at h; omega
    · split at h
      · simp only [Bool.and_eq_true, decide_eq_true_eq] at h; omega
      · split at h
        · simp only [Bool.and_eq_true, decide_eq_true_eq] at h; omega
        · split at h
          · simp only [Bool.and_eq_true, decide_eq_true_eq] at h; omega
          · cases h
  have hd : a.dep.length ≤ 4 := by
    simp only [actOkM, Bool.and_eq_true, decide_eq_true_eq] at h
    omega
  exact ⟨by omega, by omega⟩
theorem setOk_small {l : List ActM} {n : Int} (h : setOkM l n = true) : SmallL l := by
  obtain ⟨_, _, h3, h4⟩ := setOk_all h
  exact ⟨by omega, fun a ha => ok_small (h4 a ha)⟩

/-- the model of AddAct -/
def addM (l : List ActM) (n : Int) (a : ActM) : Option (List ActM) :=
  if setOkM l n = true ∧ findM l a.r a.n < 0 ∧ setOkM (putM l a) n = true then some (putM l a) else none
def AddedNo (w : World) (e : Ending) (w' : World) : Prop := e = .returned (.tuple #[.slice none 0 0, .bool false]) ∧ Below w.heap.size w w'
def AddedYes (w : World) (l : List ActM) (e : Ending) (w' : World) : Prop := ∃ v, e = .returned (.tuple #[v, .bool true]) ∧ OwnActs w' w.heap.size v l ∧ Below w.heap.size w w'
def Added (w : World) (o : Option (List ActM)) (e : Ending) (w' : World) : Prop := (o = none ∧ AddedNo w e w') ∨ ∃ l, o = some l ∧ AddedYes w l e w'

set_option maxRecDepth 100000 in
set_option maxHeartbeats 3200000 in
theorem addAct_any (v : Value) (l : List ActM) (n : Int) (t : ActT) (w : World) (h : Acts w v l) (hn : -9223372036854775808 ≤ n ∧ n ≤ 9223372036854775807) (ht : t.Reads w) (hs : t.a.Small) :
    Calls Try.prog 40 #[v, .int .i64 n, t.val] w (Added w (addM l n t.a)) := by
  have HA := Lib.hid h
  have HT := Lib.hid ht
  have HS := Lib.hid hs
  clear h ht hs
  obtain ⟨O, hO⟩ : ∃ O, O = addM l n t.a := ⟨_, rfl⟩
  rw [← hO]
  have HO := Lib.hid hO
  clear hO
  have SO := Lib.hid (fun W v l h => setOk_any v l n W h hn)
  have B0 := Lib.hid ((Below.refl w.heap.size w).alloc (Nat.le_refl _) (.cells #[.int .i64 t.a.r, .int .i64 t.a.n, t.vd, .int .i64 t.a.actor, .int .i64 t.a.kind, .int .i64 t.a.to, .int .i64 t.a.bucket, .int .i64 t.a.mask, .int .i64 t.a.gr, .int .i64 t.a.gn, t.vs] 26))
  have K0 := Lib.hid (Blk.new w #[.int .i64 t.a.r, .int .i64 t.a.n, t.vd, .int .i64 t.a.actor, .int .i64 t.a.kind, .int .i64 t.a.to, .int .i64 t.a.bucket, .int .i64 t.a.mask, .int .i64 t.a.gr, .int .i64 t.a.gn, t.vs] 26)
  cases h1 : setOkM l n
  · have HN := Lib.hid (show O = none by rw [HO.out, addM, h1]; simp)
    have H1 := Lib.hid h1
    clear h1
    go_enter Try.func40, Try.ntmps40
    simp only [ActT.val]
    go_wp2_with fail
    refine (SO.out _ v l (HA.out.below B0.out)).mono ?_
    rintro e w1 ⟨rfl, b1⟩
    rw [H1.out]
    have B1 := Lib.hid (B0.out.trans (b1.mono B0.out.size))
    clear b1
    go_wp2_with fail
    go_ret2
    exact .inl ⟨HN.out, rfl, B1.out⟩
  · have SM := Lib.hid (setOk_small h1)
    have H1 := Lib.hid h1
    obtain ⟨f, hf⟩ : ∃ f, f = findM l t.a.r t.a.n := ⟨_, rfl⟩
    have HF := Lib.hid hf
    clear h1 hf
    by_cases h2 : f < 0
    · obtain ⟨s, hs⟩ : ∃ s, s = setOkM (putM l t.a) n := ⟨_, rfl⟩
      have HSP := Lib.hid hs
      have HH := Lib.hid h2
      clear hs
      cases s
      · have HN := Lib.hid (show O = none by rw [HO.out, addM, ← HSP.out]; simp)
        have e1 : decide (0 ≤ f) = false := by simp; omega
        go_enter Try.func40, Try.ntmps40
        simp only [ActT.val]
        go_wp2_with fail
        refine (SO.out _ v l (HA.out.below B0.out)).mono ?_
        rintro e w1 ⟨rfl, b1⟩
        rw [H1.out]
        have B1 := Lib.hid (B0.out.trans (b1.mono B0.out.size))
        have K1 := Lib.hid (K0.out.below b1 K0.out.lt)
        have c0 := K1.out.cell
        clear b1
        go_wp2_with fail
        refine (find_any v l _ _ _ (HA.out.below B1.out)).mono ?_
        rintro e w2 ⟨rfl, hw2⟩
        subst hw2
        rw [← HF.out]
        go_wp2_with fail
        clear c0
        have D0 : Hid (Below w2.heap.size w2 w2.drew) := (Below.refl _ _).drew
        refine wp_region_held_drew (S := fun w' => Below w2.heap.size w2 w') (by kernel_rfl) (D0.out) (fun hHeld => ?_)
        refine held_take (i := 0) (d := some 22) (v := ?_) rfl (by kernel_rfl) (by kernel_rfl) (by kernel_rfl) (by kernel_rfl) (fun _ _ _ h => h) (by kernel_rfl) ?_ hHeld ?_
        rotate_left
        · intro w' hSw
          go_simp
          first | done | with_reducible rfl
        simp only [Act.put, List.setIfInBounds_toArray, List.set_cons_zero, List.set_cons_succ]
        refine held_take (i := 2) (d := some 24) (v := ?_) rfl (by kernel_rfl) (by kernel_rfl) (by kernel_rfl) (by kernel_rfl) (fun _ _ _ h => h) (by kernel_rfl) ?_ hHeld ?_
        rotate_left
        · intro w' hSw
          have cc := (K1.out.below hSw K1.out.lt).cell
          go_simp
          first | done | with_reducible rfl
        simp only [Act.put, List.setIfInBounds_toArray, List.set_cons_zero, List.set_cons_succ]
        refine wpAnyH_ready (rs := [1]) (by kernel_rfl) (by simp) ?_
        refine AllReadyH.cons rfl (fun K hK => ?_) AllReadyH.nil
        go_simp
        refine (l3own_any v l _ (HA.out.below (B1.out.trans (hHeld.mono B1.out.size))) SM.out).mono ?_
        rintro e w3 ⟨v3, rfl, o3, b3⟩
        have o3 := o3.less hHeld.size
        have D3 := Lib.hid (hHeld.trans (b3.mono hHeld.size))
        have O3 := Lib.hid o3
        clear b3 o3
        go_simp
        refine hK.out _ _ (D3.out) (fun hHeld => ?_)
        clear hK K
        try simp only [Act.put, List.setIfInBounds_toArray, List.set_cons_zero, List.set_cons_succ]
        refine wpAnyH_ready (rs := [3]) (by kernel_rfl) (by simp) ?_
        refine AllReadyH.cons rfl (fun K hK => ?_) AllReadyH.nil
        go_simp
        obtain ⟨us, hus, hot⟩ := O3.out
        refine (l3put_any w2.heap.size v3 us t _ hot D3.out.size (HT.out.below (B1.out.trans (D3.out.mono B1.out.size))) HS.out (by have := SM.out.1; rw [hus] at this; simpa using this)).mono ?_
        rintro e w4 ⟨v4, rfl, o4, b4⟩
        rw [← hus] at o4
        have D4 := Lib.hid (D3.out.trans (b4.mono D3.out.size))
        have P4 := Lib.hid o4
        clear b4 o4 hus hot
        go_simp
        refine hK.out _ _ (D4.out) (fun hHeld => ?_)
        clear hK K
        try simp only [Act.put, List.setIfInBounds_toArray, List.set_cons_zero, List.set_cons_succ]
        refine held_take (i := 4) (d := some 8) (v := ?_) rfl (by kernel_rfl) (by kernel_rfl) (by kernel_rfl) (by kernel_rfl) (fun _ _ _ h => h) (by kernel_rfl) ?_ hHeld ?_
        rotate_left
        · intro w' hSw
          go_simp
          first | done | with_reducible rfl
        simp only [Act.put, List.setIfInBounds_toArray, List.set_cons_zero, List.set_cons_succ]
        refine wpAnyH_done (by kernel_rfl) ?_ _
        have B4 := Lib.hid (B1.out.trans (D4.out.mono B1.out.size))
        go_wp2_with fail
        refine (SO.out _ v4 _ (ownActs_acts P4.out)).mono ?_
        rintro e w5 ⟨rfl, b5⟩
        rw [← HSP.out]
        have b5h := Lib.hid b5
        have B5 := Lib.hid (B4.out.trans (b5.mono B4.out.size))
        clear b5

        go_wp2_with fail
        go_ret2
        exact .inl ⟨HN.out, rfl, B5.out⟩
      · have HN := Lib.hid (show O = some (putM l t.a) by rw [HO.out, addM, ← HSP.out, H1.out, ← HF.out]; simp [h2])
        have e1 : decide (0 ≤ f) = false := by simp; omega
        go_enter Try.func40, Try.ntmps40
        simp only [ActT.val]
        go_wp2_with fail
        refine (SO.out _ v l (HA.out.below B0.out)).mono ?_
        rintro e w1 ⟨rfl, b1⟩
        rw [H1.out]
        have B1 := Lib.hid (B0.out.trans (b1.mono B0.out.size))
        have K1 := Lib.hid (K0.out.below b1 K0.out.lt)
        have c0 := K1.out.cell
        clear b1
        go_wp2_with fail
        refine (find_any v l _ _ _ (HA.out.below B1.out)).mono ?_
        rintro e w2 ⟨rfl, hw2⟩
        subst hw2
        rw [← HF.out]
        go_wp2_with fail
        clear c0
        have D0 : Hid (Below w2.heap.size w2 w2.drew) := (Below.refl _ _).drew
        refine wp_region_held_drew (S := fun w' => Below w2.heap.size w2 w') (by kernel_rfl) (D0.out) (fun hHeld => ?_)
        refine held_take (i := 0) (d := some 22) (v := ?_) rfl (by kernel_rfl) (by kernel_rfl) (by kernel_rfl) (by kernel_rfl) (fun _ _ _ h => h) (by kernel_rfl) ?_ hHeld ?_
        rotate_left
        · intro w' hSw
          go_simp
          first | done | with_reducible rfl
        simp only [Act.put, List.setIfInBounds_toArray, List.set_cons_zero, List.set_cons_succ]
        refine held_take (i := 2) (d := some 24) (v := ?_) rfl (by kernel_rfl) (by kernel_rfl) (by kernel_rfl) (by kernel_rfl) (fun _ _ _ h => h) (by kernel_rfl) ?_ hHeld ?_
        rotate_left
        · intro w' hSw
          have cc := (K1.out.below hSw K1.out.lt).cell
          go_simp
          first | done | with_reducible rfl
        simp only [Act.put, List.setIfInBounds_toArray, List.set_cons_zero, List.set_cons_succ]
        refine wpAnyH_ready (rs := [1]) (by kernel_rfl) (by simp) ?_
        refine AllReadyH.cons rfl (fun K hK => ?_) AllReadyH.nil
        go_simp
        refine (l3own_any v l _ (HA.out.below (B1.out.trans (hHeld.mono B1.out.size))) SM.out).mono ?_
        rintro e w3 ⟨v3, rfl, o3, b3⟩
        have o3 := o3.less hHeld.size
        have D3 := Lib.hid (hHeld.trans (b3.mono hHeld.size))
        have O3 := Lib.hid o3
        clear b3 o3
        go_simp
        refine hK.out _ _ (D3.out) (fun hHeld => ?_)
        clear hK K
        try simp only [Act.put, List.setIfInBounds_toArray, List.set_cons_zero, List.set_cons_succ]
        refine wpAnyH_ready (rs := [3]) (by kernel_rfl) (by simp) ?_
        refine AllReadyH.cons rfl (fun K hK => ?_) AllReadyH.nil
        go_simp
        obtain ⟨us, hus, hot⟩ := O3.out
        refine (l3put_any w2.heap.size v3 us t _ hot D3.out.size (HT.out.below (B1.out.trans (D3.out.mono B1.out.size))) HS.out (by have := SM.out.1; rw [hus] at this; simpa using this)).mono ?_
        rintro e w4 ⟨v4, rfl, o4, b4⟩
        rw [← hus] at o4
        have D4 := Lib.hid (D3.out.trans (b4.mono D3.out.size))
        have P4 := Lib.hid o4
        clear b4 o4 hus hot
        go_simp
        refine hK.out _ _ (D4.out) (fun hHeld => ?_)
        clear hK K
        try simp only [Act.put, List.setIfInBounds_toArray, List.set_cons_zero, List.set_cons_succ]
        refine held_take (i := 4) (d := some 8) (v := ?_) rfl (by kernel_rfl) (by kernel_rfl) (by kernel_rfl) (by kernel_rfl) (fun _ _ _ h => h) (by kernel_rfl) ?_ hHeld ?_
        rotate_left
        · intro w' hSw
          go_simp
          first | done | with_reducible rfl
        simp only [Act.put, List.setIfInBounds_toArray, List.set_cons_zero, List.set_cons_succ]
        refine wpAnyH_done (by kernel_rfl) ?_ _
        have B4 := Lib.hid (B1.out.trans (D4.out.mono B1.out.size))
        go_wp2_with fail
        refine (SO.out _ v4 _ (ownActs_acts P4.out)).mono ?_
        rintro e w5 ⟨rfl, b5⟩
        rw [← HSP.out]
        have b5h := Lib.hid b5
        have B5 := Lib.hid (B4.out.trans (b5.mono B4.out.size))
        clear b5

        go_wp2_with fail
        go_ret2
        exact .inr ⟨_, HN.out, _, rfl, (P4.out.below b5h.out).less B1.out.size, B5.out⟩
    · have HN := Lib.hid (show O = none by rw [HO.out, addM, ← HF.out]; simp [h2])
      have e1 : decide (0 ≤ f) = true := by simp; omega
      go_enter Try.func40, Try.ntmps40
      simp only [ActT.val]
      go_wp2_with fail
      refine (SO.out _ v l (HA.out.below B0.out)).mono ?_
      rintro e w1 ⟨rfl, b1⟩
      rw [H1.out]
      have B1 := Lib.hid (B0.out.trans (b1.mono B0.out.size))
      have c0 := (K0.out.below b1 K0.out.lt).cell
      clear b1
      go_wp2_with fail
      refine (find_any v l _ _ _ (HA.out.below B1.out)).mono ?_
      rintro e w2 ⟨rfl, rfl⟩
      rw [← HF.out]
      go_wp2_with fail
      go_ret2
      exact .inl ⟨HN.out, rfl, B1.out⟩
end Go.Proofs.Ytcgncaiehdcooaa
