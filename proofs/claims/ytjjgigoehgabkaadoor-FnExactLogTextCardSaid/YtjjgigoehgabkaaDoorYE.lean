/- The numbers of an act: the reference's ActText, the program's rowOf. -/
import Derived.Test.YtjjgigoehgabkaaDoorYC
import Derived.Test.YtjjgigoehgabkaaDoorYD
import Derived.Test.YtjjgigoehgabkaaDoorMO
import Derived.StillTailTactics
import Derived.Deep.DeepCutAuto





namespace Go.Proofs.YtjjgigoehgabkaaDoor
open Go.RowKit
set_option linter.unusedVariables false
set_option linter.unusedSimpArgs false

theorem ups_get {w : World} {a : Option Addr} {n cap : Nat} {us : List UpM} (h : Ups w (.slice a n cap) us) (k : Nat) (hk : k < n) : ∃ b off, a = some ⟨b, off, none⟩ ∧ b < w.heap.size ∧ w.cell? ⟨b, off + k * 4, none⟩ = some (.int .i64 (us.getD k up0).kind) ∧ w.cell? ⟨b, off + k * 4 + 1, none⟩ = some (.int .i64 (us.getD k up0).bucket) ∧ w.cell? ⟨b, off + k * 4 + 2, none⟩ = some (.int .i64 (us.getD k up0).key) ∧ w.cell? ⟨b, off + k * 4 + 3, none⟩ = some (.int .i64 (us.getD k up0).val) := by
  rcases h with ⟨a', cap', h1, rfl⟩ | ⟨b, off, cap', h1, h2, h3, h4, h5⟩
  · simp only [Value.slice.injEq] at h1; omega
  · simp only [Value.slice.injEq] at h1
    exact ⟨b, off, h1.1, h2, h5 k (by omega)⟩
theorem lit_one {xs : List Int} : ∀ u ∈ vi xs, u.oneCell' = true := vi_one xs
theorem blk_own_grown {w w' : World} {B : Nat} {l : List Value} {r : Option Nat} (h : Blk w B l) (hg : w.grownBy w' r) (hr : ∀ g, r = some g → g ≠ B) : Blk w' B l :=
  h.same hg.size (hg.block B h.lt (fun e => hr B e.symm rfl))

set_option maxRecDepth 100000 in
set_option maxHeartbeats 6400000 in
theorem specActText_any (t : ActT) (w : World) (ht : t.Reads w) (hs : t.a.Small) (hB : ActB t.a) :
    Calls Tryd.prog 7 #[t.val] w fun e w' => e = .returned (.string ⟨(textM (numsM t.a)).toArray⟩) ∧ Below w.heap.size w w' := by
  obtain ⟨i0, hi, hz0, hz1, hz2⟩ := info_parts Tryd.info3
  have HT := Lib.hid ht
  have hs1 := hs.1
  have hs2 := hs.2
  obtain ⟨⟨r, nn, dep, actor, kind, dst, bucket, mask, gr, gn, ups⟩, vd, vs⟩ := t
  have hsd := ints_len HT.out.1
  have hsu := ups_len HT.out.2
  simp only at hsd hsu hs1 hs2
  obtain ⟨da, dc, rfl⟩ := hsd
  obtain ⟨ua, uc, rfl⟩ := hsu
  have ALL := Lib.hid (fun v W (h : Ints W v (numsM ⟨r, nn, dep, actor, kind, dst, bucket, mask, gr, gn, ups⟩)) => all_any v _ W h (nums_in hB hs) (by rw [nums_len]; simp only; omega))
  try simp only [ActT.val] at ⊢
  obtain ⟨NUMS, hN⟩ : ∃ N, N = numsM ⟨r, nn, dep, actor, kind, dst, bucket, mask, gr, gn, ups⟩ := ⟨_, rfl⟩
  rw [← hN] at ALL ⊢
  have HN0 := Lib.hid hN
  have UT := Lib.hid (fun k (hk : k < ups.length) => upNums_take ups k hk)
  have UD := Lib.hid (fun k (hk : ups.length ≤ k) => (show ups.take k = ups from List.take_of_length_le hk))
  have NL := Lib.hid (nums_len ⟨r, nn, dep, actor, kind, dst, bucket, mask, gr, gn, ups⟩)
  rw [← hN] at NL
  simp only at NL
  have UG := Lib.hid (fun k hk => ups_get HT.out.2 k hk)
  simp only at UG
  have HD := Lib.hid HT.out.1
  simp only at HD
  obtain ⟨HEAD, hH⟩ : ∃ H : List Int, H = ([r, nn, (dep.length : Int)] ++ dep) ++ [actor, kind, dst, bucket, mask, gr, gn, (ups.length : Int)] := ⟨_, rfl⟩
  have HH := Lib.hid hH
  have HN : Hid (NUMS = HEAD ++ upNums ups) := by show _ = _; rw [hN, hH]; rfl
  clear hN hH HT
  obtain ⟨dl, hdl⟩ : ∃ x, x = dep.length := ⟨_, rfl⟩
  obtain ⟨ul, hul⟩ : ∃ x, x = ups.length := ⟨_, rfl⟩
  rw [← hdl] at HD hs1 NL HH
  rw [← hul] at UT UD UG hs2 NL HH
  rw [← hdl, ← hul]
  have HDL := Lib.hid hdl
  have HUL := Lib.hid hul
  clear hdl hul
  clear hB hs
  have BW := Lib.hid (Below.refl w.heap.size w)
  go_enter Tryd.func7, Tryd.ntmps7
  have kB := Blk.new w #[.int .i64 r, .int .i64 nn, .slice da dl dc, .int .i64 actor, .int .i64 kind, .int .i64 dst, .int .i64 bucket, .int .i64 mask, .int .i64 gr, .int .i64 gn, .slice ua ul uc] 30
  have ba := (Below.refl w.heap.size w).alloc (Nat.le_refl _) (.cells #[.int .i64 r, .int .i64 nn, .slice da dl dc, .int .i64 actor, .int .i64 kind, .int .i64 dst, .int .i64 bucket, .int .i64 mask, .int .i64 gr, .int .i64 gn, .slice ua ul uc] 30)
  obtain ⟨pB, hpB⟩ : ∃ p, p = w.heap.size := ⟨_, rfl⟩
  go_upto_region 1 with (fail)
  rw [← hpB] at kB
  try rw [← hpB]
  obtain ⟨w1, hW⟩ : ∃ W, W = w.alloc (.cells #[.int .i64 r, .int .i64 nn, .slice da dl dc, .int .i64 actor, .int .i64 kind, .int .i64 dst, .int .i64 bucket, .int .i64 mask, .int .i64 gr, .int .i64 gn, .slice ua ul uc] 30) := ⟨_, rfl⟩
  rw [← hW] at ba kB ⊢
  have KB := Lib.hid kB
  have GB := Lib.hid (show w.heap.size ≤ pB by omega)
  replace BW := Lib.hid (BW.out.trans ((ba).mono BW.out.size))
  clear ba hW kB hpB
  have k0 := KB.out.cell 0
  have k1 := KB.out.cell 1
  have k2 := KB.out.cell 2
  have k3 := KB.out.cell 3
  have k4 := KB.out.cell 4
  have k5 := KB.out.cell 5
  have k6 := KB.out.cell 6
  have k7 := KB.out.cell 7
  have k8 := KB.out.cell 8
  have k9 := KB.out.cell 9
  have k10 := KB.out.cell 10
  simp only [List.getElem?_cons_zero, List.getElem?_cons_succ] at k0 k1 k2 k3 k4 k5 k6 k7 k8 k9 k10
  go_upto_region 2 with (fail)
  clear k0 k1 k2 k3 k4 k5 k6 k7 k8 k9 k10
  obtain ⟨BA, hBA⟩ : ∃ x, x = w1.heap.size := ⟨_, rfl⟩
  have o1 := World.ownsRow_lit (size := 1) (e := 3) (base := w1.heap.size) w1 #[.int .i64 r, .int .i64 nn, .int .i64 dl] 3 (Nat.le_refl _) (by unfold maxLen; omega) rfl
  have b1 := (Below.refl w1.heap.size w1).alloc (Nat.le_refl _) (.cells #[.int .i64 r, .int .i64 nn, .int .i64 dl] 3)
  have hlt := KB.out.lt
  obtain ⟨w2, hw2⟩ : ∃ W, W = w1.alloc (.cells #[.int .i64 r, .int .i64 nn, .int .i64 dl] 3) := ⟨_, rfl⟩
  rw [← hw2] at o1 b1 ⊢
  have hsz : BA ≤ w2.heap.size := by rw [hw2, hBA]; simp
  rw [← hBA] at o1 hlt ⊢
  have OR := Lib.hid o1
  have PB := Lib.hid hlt
  have SB := Lib.hid hsz
  have GBA := Lib.hid (show w.heap.size ≤ BA by rw [hBA]; exact BW.out.size)
  replace BW := Lib.hid (BW.out.trans ((b1).mono BW.out.size))
  replace KB := Lib.hid (KB.out.below (b1) KB.out.lt)
  clear b1 hw2 hBA hlt hsz o1
  have k0 := KB.out.cell 0
  have k1 := KB.out.cell 1
  have k2 := KB.out.cell 2
  have k3 := KB.out.cell 3
  have k4 := KB.out.cell 4
  have k5 := KB.out.cell 5
  have k6 := KB.out.cell 6
  have k7 := KB.out.cell 7
  have k8 := KB.out.cell 8
  have k9 := KB.out.cell 9
  have k10 := KB.out.cell 10
  simp only [List.getElem?_cons_zero, List.getElem?_cons_succ] at k0 k1 k2 k3 k4 k5 k6 k7 k8 k9 k10
  go_wp2_with (at_builtin; refine wpList_app rfl (.tmp 13) (.tmp 15) 22 rfl BA 3 i0 (.int .i64 0) 1 8 Tryd.underlying22 hi hz0 hz1 hz2 rfl (by decide) (.slice (some ⟨BA, 0, none⟩) 3 3) (.slice da dl dc) 3 dl (vi [r, nn, (dl : Int)]) (vi dep) rfl rfl OR.out (by have := src_ints (HD.out.below (B := 0) BW.out); rw [← HDL.out] at this; exact this) (vi_one dep) (by unfold maxLen; omega) (by omega) SB.out ?_)
  intro v2 w3 hown hgrow _
  obtain ⟨a2, c2, rfl⟩ := row_shape hown
  clear k0 k1 k2 k3 k4 k5 k6 k7 k8 k9 k10
  have kb := KB.out.grown (w' := w3) hgrow (by have := PB.out; show pB ≠ BA; omega)
  have bw := BW.out.grown hgrow BW.out.size (fun k hk => by cases hk; exact GBA.out)
  have sb : BA ≤ w3.heap.size := Nat.le_trans SB.out hgrow.size
  have OG := Lib.hid (own_block_ge hown)
  have O3 := Lib.hid hown
  replace KB := Lib.hid kb
  replace BW := Lib.hid bw
  replace SB := Lib.hid sb
  clear kb bw sb hown hgrow OR
  have k0 := KB.out.cell 0
  have k1 := KB.out.cell 1
  have k2 := KB.out.cell 2
  have k3 := KB.out.cell 3
  have k4 := KB.out.cell 4
  have k5 := KB.out.cell 5
  have k6 := KB.out.cell 6
  have k7 := KB.out.cell 7
  have k8 := KB.out.cell 8
  have k9 := KB.out.cell 9
  have k10 := KB.out.cell 10
  simp only [List.getElem?_cons_zero, List.getElem?_cons_succ] at k0 k1 k2 k3 k4 k5 k6 k7 k8 k9 k10
  have SR := Lib.hid (src_lit (w := w3) #[.int .i64 actor, .int .i64 kind, .int .i64 dst, .int .i64 bucket, .int .i64 mask, .int .i64 gr, .int .i64 gn, .int .i64 ul] 3 8 rfl)
  have O4 := Lib.hid (row_grown (r := none) O3.out (grown_alloc w3 (.cells #[.int .i64 actor, .int .i64 kind, .int .i64 dst, .int .i64 bucket, .int .i64 mask, .int .i64 gr, .int .i64 gn, .int .i64 ul] 3) none) (fun g e => by cases e))
  have KB4 := Lib.hid (KB.out.alloc (.cells #[.int .i64 actor, .int .i64 kind, .int .i64 dst, .int .i64 bucket, .int .i64 mask, .int .i64 gr, .int .i64 gn, .int .i64 ul] 3))
  have BW4 := Lib.hid (BW.out.alloc BW.out.size (.cells #[.int .i64 actor, .int .i64 kind, .int .i64 dst, .int .i64 bucket, .int .i64 mask, .int .i64 gr, .int .i64 gn, .int .i64 ul] 3))
  have SB4 := Lib.hid (show BA ≤ (w3.alloc (.cells #[.int .i64 actor, .int .i64 kind, .int .i64 dst, .int .i64 bucket, .int .i64 mask, .int .i64 gr, .int .i64 gn, .int .i64 ul] 3)).heap.size by have := SB.out; simp; omega)
  go_wp2_with (at_builtin; refine wpList_app rfl (.tmp 17) (.tmp 35) 22 rfl BA 3 i0 (.int .i64 0) 1 8 Tryd.underlying22 hi hz0 hz1 hz2 rfl (by decide) (.slice a2 (3 + dl) c2) (.slice (some ⟨w3.heap.size, 0, none⟩) 8 8) (3 + dl) 8 _ (vi [actor, kind, dst, bucket, mask, gr, gn, (ul : Int)]) rfl rfl O4.out SR.out (vi_one _) (by unfold maxLen; omega) (by omega) SB4.out ?_)
  intro v4 w4 hown hgrow _
  clear k0 k1 k2 k3 k4 k5 k6 k7 k8 k9 k10
  have kb : Blk w4 pB _ := blk_own_grown KB4.out hgrow (fun g e => by have := OG.out g e; have := PB.out; omega)
  have bw := BW4.out.grown hgrow BW4.out.size (fun k hk => Nat.le_trans GBA.out (OG.out k hk))
  have sb : BA ≤ w4.heap.size := Nat.le_trans SB4.out hgrow.size
  have O5 : Hid (w4.ownsRow BA 3 1 v4 (11 + dl) (vi (HEAD ++ upNums (ups.take 0)))) := by
    have e : vi (HEAD ++ upNums (ups.take 0)) = (vi [r, nn, (dl : Int)] ++ vi dep) ++ vi [actor, kind, dst, bucket, mask, gr, gn, (ul : Int)] := by
      rw [HH.out]
      simp [vi, upNums]
    show World.ownsRow _ _ _ _ _ _ _
    rw [e, show 11 + dl = 3 + dl + 8 from by omega]
    exact hown
  replace KB := Lib.hid kb
  replace BW := Lib.hid bw
  replace SB := Lib.hid sb
  clear kb bw sb hown hgrow O3 O4 KB4 BW4 SB4 OG SR
  have U0 := Lib.hid True.intro
  have k0 := KB.out.cell 0
  have k1 := KB.out.cell 1
  have k2 := KB.out.cell 2
  have k3 := KB.out.cell 3
  have k4 := KB.out.cell 4
  have k5 := KB.out.cell 5
  have k6 := KB.out.cell 6
  have k7 := KB.out.cell 7
  have k8 := KB.out.cell 8
  have k9 := KB.out.cell 9
  have k10 := KB.out.cell 10
  simp only [List.getElem?_cons_zero, List.getElem?_cons_succ] at k0 k1 k2 k3 k4 k5 k6 k7 k8 k9 k10
  go_wp2_with fail
  clear k0 k1 k2 k3 k4 k5 k6 k7 k8 k9 k10
  go_loopw [3, 4] (fun t i wr => ∃ k : Nat, k ≤ ul ∧ i = .int .i64 k ∧ Hid (wr.ownsRow BA 3 1 t (11 + dl + 4 * k) (vi (HEAD ++ upNums (ups.take k)))) ∧ Hid (Blk wr pB [.int .i64 r, .int .i64 nn, .slice da dl dc, .int .i64 actor, .int .i64 kind, .int .i64 dst, .int .i64 bucket, .int .i64 mask, .int .i64 gr, .int .i64 gn, .slice ua ul uc]) ∧ Hid (BA ≤ wr.heap.size) ∧ Hid (Below w.heap.size w wr)) (fun _ i _ => ul - (intOf i).toNat)
  case atStart => exact ⟨0, Nat.zero_le _, rfl, O5.out, KB.out, SB.out, BW.out⟩
  case round =>
    rename_i t _
    obtain ⟨k, hk, rfl, ho, hkb, hsb, hbel⟩ := hrel
    clear O5 KB SB BW
    have BW := hbel
    have KB := hkb
    have SB := hsb
    clear hbel hkb hsb
    by_cases hlt : k < ul
    · obtain ⟨ub, uo, hua, hub, q0, q1, q2, q3⟩ := UG.out k hlt
      subst hua
      have z0 := (BW.out.cell (p := ⟨ub, uo + k * 4, none⟩) hub).trans q0
      have z1 := (BW.out.cell (p := ⟨ub, uo + k * 4 + 1, none⟩) hub).trans q1
      have z2 := (BW.out.cell (p := ⟨ub, uo + k * 4 + 2, none⟩) hub).trans q2
      have z3 := (BW.out.cell (p := ⟨ub, uo + k * 4 + 3, none⟩) hub).trans q3
      have hut := UT.out k hlt
      generalize (ups.getD k up0).kind = y0 at *
      generalize (ups.getD k up0).bucket = y1 at *
      generalize (ups.getD k up0).key = y2 at *
      generalize (ups.getD k up0).val = y3 at *
      have HUT := Lib.hid hut
      have Q0 := Lib.hid q0
      have Q1 := Lib.hid q1
      have Q2 := Lib.hid q2
      have Q3 := Lib.hid q3
      clear hut q0 q1 q2 q3
      have i0' : (0 : Int) ≤ (k : Int) := by omega
      have i1' : (k : Int) < (ul : Int) := by omega
      have OG := Lib.hid (own_block_ge ho.out)
      obtain ⟨a5, c5, rfl⟩ := row_shape ho.out
      have k0 := KB.out.cell 0
      have k1 := KB.out.cell 1
      have k2 := KB.out.cell 2
      have k3 := KB.out.cell 3
      have k4 := KB.out.cell 4
      have k5 := KB.out.cell 5
      have k6 := KB.out.cell 6
      have k7 := KB.out.cell 7
      have k8 := KB.out.cell 8
      have k9 := KB.out.cell 9
      have k10 := KB.out.cell 10
      simp only [List.getElem?_cons_zero, List.getElem?_cons_succ] at k0 k1 k2 k3 k4 k5 k6 k7 k8 k9 k10
      have HO := ho
      clear ho
      go_upto_region 7 with (fail)
      clear z0 z1 z2 z3
      clear k0 k1 k2 k3 k4 k5 k6 k7 k8 k9 k10
      refine wp_region_held_drew (S := fun w' => Below w.heap.size w w' ∧ Blk w' pB [.int .i64 r, .int .i64 nn, .slice da dl dc, .int .i64 actor, .int .i64 kind, .int .i64 dst, .int .i64 bucket, .int .i64 mask, .int .i64 gr, .int .i64 gn, .slice (some ⟨ub, uo, none⟩) ul uc]) (by kernel_rfl) ⟨BW.out.drew, KB.out.drew⟩ (fun hHeld => ?_)
      refine held_take (i := 0) (d := some 44) (v := ?_) rfl (by kernel_rfl) (by kernel_rfl) (by kernel_rfl) (by kernel_rfl) (fun _ _ _ h => h) (by kernel_rfl) ?_ hHeld ?_
      rotate_left
      · intro w' hSw
        go_simp
        first | done | with_reducible rfl
      simp only [Act.put, List.setIfInBounds_toArray, List.set_cons_zero, List.set_cons_succ]
      refine held_take (i := 1) (d := some 45) (v := ?_) rfl (by kernel_rfl) (by kernel_rfl) (by kernel_rfl) (by kernel_rfl) (fun _ _ _ h => h) (by kernel_rfl) ?_ hHeld ?_
      rotate_left
      · intro w' hSw
        go_simp
        first | done | with_reducible rfl
      simp only [Act.put, List.setIfInBounds_toArray, List.set_cons_zero, List.set_cons_succ]
      refine held_take (i := 2) (d := some 46) (v := ?_) rfl (by kernel_rfl) (by kernel_rfl) (by kernel_rfl) (by kernel_rfl) (fun _ _ _ h => h) (by kernel_rfl) ?_ hHeld ?_
      rotate_left
      · intro w' hSw
        have g10 := hSw.2.cell 10
        simp only [List.getElem?_cons_zero, List.getElem?_cons_succ] at g10
        go_simp
        first | done | with_reducible rfl
      simp only [Act.put, List.setIfInBounds_toArray, List.set_cons_zero, List.set_cons_succ]
      refine held_take (i := 3) (d := some 47) (v := ?_) rfl (by kernel_rfl) (by kernel_rfl) (by kernel_rfl) (by kernel_rfl) (fun _ _ _ h => h) (by kernel_rfl) ?_ hHeld ?_
      rotate_left
      · intro w' hSw
        go_simp
        first | done | with_reducible rfl
      simp only [Act.put, List.setIfInBounds_toArray, List.set_cons_zero, List.set_cons_succ]
      refine held_take (i := 4) (d := some 48) (v := ?_) rfl (by kernel_rfl) (by kernel_rfl) (by kernel_rfl) (by kernel_rfl) (fun _ _ _ h => h) (by kernel_rfl) ?_ hHeld ?_
      rotate_left
      · intro w' hSw
        go_simp
        first | done | with_reducible rfl
      simp only [Act.put, List.setIfInBounds_toArray, List.set_cons_zero, List.set_cons_succ]
      refine held_take (i := 5) (d := some 49) (v := ?_) rfl (by kernel_rfl) (by kernel_rfl) (by kernel_rfl) (by kernel_rfl) (fun _ _ _ h => h) (by kernel_rfl) ?_ hHeld ?_
      rotate_left
      · intro w' hSw
        go_simp
        first | done | with_reducible rfl
      simp only [Act.put, List.setIfInBounds_toArray, List.set_cons_zero, List.set_cons_succ]
      refine held_take (i := 6) (d := some 50) (v := ?_) rfl (by kernel_rfl) (by kernel_rfl) (by kernel_rfl) (by kernel_rfl) (fun _ _ _ h => h) (by kernel_rfl) ?_ hHeld ?_
      rotate_left
      · intro w' hSw
        have gz := (hSw.1.cell (p := ⟨ub, uo + k * 4, none⟩) hub).trans Q0.out
        go_simp
        first | done | with_reducible rfl
      simp only [Act.put, List.setIfInBounds_toArray, List.set_cons_zero, List.set_cons_succ]
      refine held_take (i := 7) (d := some 51) (v := ?_) rfl (by kernel_rfl) (by kernel_rfl) (by kernel_rfl) (by kernel_rfl) (fun _ _ _ h => h) (by kernel_rfl) ?_ hHeld ?_
      rotate_left
      · intro w' hSw
        go_simp
        first | done | with_reducible rfl
      simp only [Act.put, List.setIfInBounds_toArray, List.set_cons_zero, List.set_cons_succ]
      refine held_take (i := 8) (d := some 52) (v := ?_) rfl (by kernel_rfl) (by kernel_rfl) (by kernel_rfl) (by kernel_rfl) (fun _ _ _ h => h) (by kernel_rfl) ?_ hHeld ?_
      rotate_left
      · intro w' hSw
        have g10 := hSw.2.cell 10
        simp only [List.getElem?_cons_zero, List.getElem?_cons_succ] at g10
        go_simp
        first | done | with_reducible rfl
      simp only [Act.put, List.setIfInBounds_toArray, List.set_cons_zero, List.set_cons_succ]
      refine held_take (i := 9) (d := some 53) (v := ?_) rfl (by kernel_rfl) (by kernel_rfl) (by kernel_rfl) (by kernel_rfl) (fun _ _ _ h => h) (by kernel_rfl) ?_ hHeld ?_
      rotate_left
      · intro w' hSw
        go_simp
        first | done | with_reducible rfl
      simp only [Act.put, List.setIfInBounds_toArray, List.set_cons_zero, List.set_cons_succ]
      refine held_take (i := 10) (d := some 54) (v := ?_) rfl (by kernel_rfl) (by kernel_rfl) (by kernel_rfl) (by kernel_rfl) (fun _ _ _ h => h) (by kernel_rfl) ?_ hHeld ?_
      rotate_left
      · intro w' hSw
        go_simp
        first | done | with_reducible rfl
      simp only [Act.put, List.setIfInBounds_toArray, List.set_cons_zero, List.set_cons_succ]
      refine held_take (i := 11) (d := some 55) (v := ?_) rfl (by kernel_rfl) (by kernel_rfl) (by kernel_rfl) (by kernel_rfl) (fun _ _ _ h => h) (by kernel_rfl) ?_ hHeld ?_
      rotate_left
      · intro w' hSw
        go_simp
        first | done | with_reducible rfl
      simp only [Act.put, List.setIfInBounds_toArray, List.set_cons_zero, List.set_cons_succ]
      refine held_take (i := 12) (d := some 56) (v := ?_) rfl (by kernel_rfl) (by kernel_rfl) (by kernel_rfl) (by kernel_rfl) (fun _ _ _ h => h) (by kernel_rfl) ?_ hHeld ?_
      rotate_left
      · intro w' hSw
        have gz := (hSw.1.cell (p := ⟨ub, uo + k * 4 + 1, none⟩) hub).trans Q1.out
        go_simp
        first | done | with_reducible rfl
      simp only [Act.put, List.setIfInBounds_toArray, List.set_cons_zero, List.set_cons_succ]
      refine held_take (i := 13) (d := some 57) (v := ?_) rfl (by kernel_rfl) (by kernel_rfl) (by kernel_rfl) (by kernel_rfl) (fun _ _ _ h => h) (by kernel_rfl) ?_ hHeld ?_
      rotate_left
      · intro w' hSw
        go_simp
        first | done | with_reducible rfl
      simp only [Act.put, List.setIfInBounds_toArray, List.set_cons_zero, List.set_cons_succ]
      refine held_take (i := 14) (d := some 58) (v := ?_) rfl (by kernel_rfl) (by kernel_rfl) (by kernel_rfl) (by kernel_rfl) (fun _ _ _ h => h) (by kernel_rfl) ?_ hHeld ?_
      rotate_left
      · intro w' hSw
        have g10 := hSw.2.cell 10
        simp only [List.getElem?_cons_zero, List.getElem?_cons_succ] at g10
        go_simp
        first | done | with_reducible rfl
      simp only [Act.put, List.setIfInBounds_toArray, List.set_cons_zero, List.set_cons_succ]
      refine held_take (i := 15) (d := some 59) (v := ?_) rfl (by kernel_rfl) (by kernel_rfl) (by kernel_rfl) (by kernel_rfl) (fun _ _ _ h => h) (by kernel_rfl) ?_ hHeld ?_
      rotate_left
      · intro w' hSw
        go_simp
        first | done | with_reducible rfl
      simp only [Act.put, List.setIfInBounds_toArray, List.set_cons_zero, List.set_cons_succ]
      refine held_take (i := 16) (d := some 60) (v := ?_) rfl (by kernel_rfl) (by kernel_rfl) (by kernel_rfl) (by kernel_rfl) (fun _ _ _ h => h) (by kernel_rfl) ?_ hHeld ?_
      rotate_left
      · intro w' hSw
        go_simp
        first | done | with_reducible rfl
      simp only [Act.put, List.setIfInBounds_toArray, List.set_cons_zero, List.set_cons_succ]
      refine held_take (i := 17) (d := some 61) (v := ?_) rfl (by kernel_rfl) (by kernel_rfl) (by kernel_rfl) (by kernel_rfl) (fun _ _ _ h => h) (by kernel_rfl) ?_ hHeld ?_
      rotate_left
      · intro w' hSw
        go_simp
        first | done | with_reducible rfl
      simp only [Act.put, List.setIfInBounds_toArray, List.set_cons_zero, List.set_cons_succ]
      refine held_take (i := 18) (d := some 62) (v := ?_) rfl (by kernel_rfl) (by kernel_rfl) (by kernel_rfl) (by kernel_rfl) (fun _ _ _ h => h) (by kernel_rfl) ?_ hHeld ?_
      rotate_left
      · intro w' hSw
        have gz := (hSw.1.cell (p := ⟨ub, uo + k * 4 + 2, none⟩) hub).trans Q2.out
        go_simp
        first | done | with_reducible rfl
      simp only [Act.put, List.setIfInBounds_toArray, List.set_cons_zero, List.set_cons_succ]
      refine held_take (i := 19) (d := some 63) (v := ?_) rfl (by kernel_rfl) (by kernel_rfl) (by kernel_rfl) (by kernel_rfl) (fun _ _ _ h => h) (by kernel_rfl) ?_ hHeld ?_
      rotate_left
      · intro w' hSw
        go_simp
        first | done | with_reducible rfl
      simp only [Act.put, List.setIfInBounds_toArray, List.set_cons_zero, List.set_cons_succ]
      refine held_take (i := 20) (d := some 64) (v := ?_) rfl (by kernel_rfl) (by kernel_rfl) (by kernel_rfl) (by kernel_rfl) (fun _ _ _ h => h) (by kernel_rfl) ?_ hHeld ?_
      rotate_left
      · intro w' hSw
        have g10 := hSw.2.cell 10
        simp only [List.getElem?_cons_zero, List.getElem?_cons_succ] at g10
        go_simp
        first | done | with_reducible rfl
      simp only [Act.put, List.setIfInBounds_toArray, List.set_cons_zero, List.set_cons_succ]
      refine held_take (i := 21) (d := some 65) (v := ?_) rfl (by kernel_rfl) (by kernel_rfl) (by kernel_rfl) (by kernel_rfl) (fun _ _ _ h => h) (by kernel_rfl) ?_ hHeld ?_
      rotate_left
      · intro w' hSw
        go_simp
        first | done | with_reducible rfl
      simp only [Act.put, List.setIfInBounds_toArray, List.set_cons_zero, List.set_cons_succ]
      refine held_take (i := 22) (d := some 66) (v := ?_) rfl (by kernel_rfl) (by kernel_rfl) (by kernel_rfl) (by kernel_rfl) (fun _ _ _ h => h) (by kernel_rfl) ?_ hHeld ?_
      rotate_left
      · intro w' hSw
        go_simp
        first | done | with_reducible rfl
      simp only [Act.put, List.setIfInBounds_toArray, List.set_cons_zero, List.set_cons_succ]
      refine held_take (i := 23) (d := some 67) (v := ?_) rfl (by kernel_rfl) (by kernel_rfl) (by kernel_rfl) (by kernel_rfl) (fun _ _ _ h => h) (by kernel_rfl) ?_ hHeld ?_
      rotate_left
      · intro w' hSw
        go_simp
        first | done | with_reducible rfl
      simp only [Act.put, List.setIfInBounds_toArray, List.set_cons_zero, List.set_cons_succ]
      refine held_take (i := 24) (d := some 68) (v := ?_) rfl (by kernel_rfl) (by kernel_rfl) (by kernel_rfl) (by kernel_rfl) (fun _ _ _ h => h) (by kernel_rfl) ?_ hHeld ?_
      rotate_left
      · intro w' hSw
        have gz := (hSw.1.cell (p := ⟨ub, uo + k * 4 + 3, none⟩) hub).trans Q3.out
        go_simp
        first | done | with_reducible rfl
      simp only [Act.put, List.setIfInBounds_toArray, List.set_cons_zero, List.set_cons_succ]
      refine wpAnyH_ready (rs := [25]) (by kernel_rfl) (by simp) ?_
      refine AllReadyH.cons rfl (fun KQ hK => ?_) AllReadyH.nil
      go_simp
      have SR := Lib.hid (src_lit (w := wr.drew) #[.int .i64 y0, .int .i64 y1, .int .i64 y2, .int .i64 y3] 3 4 rfl)
      have O4 := Lib.hid (row_grown (r := none) (show wr.drew.ownsRow BA 3 1 (.slice a5 (11 + dl + 4 * k) c5) (11 + dl + 4 * k) (vi (HEAD ++ upNums (ups.take k))) from HO.out) (grown_alloc wr.drew (.cells #[.int .i64 y0, .int .i64 y1, .int .i64 y2, .int .i64 y3] 3) none) (fun g e => by cases e))
      have KB4 := Lib.hid (KB.out.drew.alloc (.cells #[.int .i64 y0, .int .i64 y1, .int .i64 y2, .int .i64 y3] 3))
      have BW4 := Lib.hid (BW.out.drew.alloc BW.out.drew.size (.cells #[.int .i64 y0, .int .i64 y1, .int .i64 y2, .int .i64 y3] 3))
      have SB4 := Lib.hid (show BA ≤ (wr.drew.alloc (.cells #[.int .i64 y0, .int .i64 y1, .int .i64 y2, .int .i64 y3] 3)).heap.size by have := SB.out; simp; omega)
      refine hK.out _ _ ⟨BW4.out, KB4.out⟩ (fun hHeld => ?_)
      clear hK KQ
      try simp only [Act.put, List.setIfInBounds_toArray, List.set_cons_zero, List.set_cons_succ]
      refine wpAnyH_ready (rs := [26]) (by kernel_rfl) (by simp) ?_
      refine AllReadyH.cons rfl (fun KQ hK => ?_) AllReadyH.nil
      refine step_appY rfl (.tmp 44) (.tmp 69) 22 rfl BA 3 i0 (.int .i64 0) 1 8 Tryd.underlying22 hi hz0 hz1 hz2 rfl (by decide) (.slice a5 (11 + dl + 4 * k) c5) (.slice (some ⟨wr.drew.heap.size, 0, none⟩) 4 4) (11 + dl + 4 * k) 4 _ (vi [y0, y1, y2, y3]) rfl rfl O4.out SR.out (vi_one _) (by unfold maxLen; omega) (by omega) SB4.out ?_
      intro v6 w6 hown hgrow _
      clear hHeld
      have kb : Blk w6 pB _ := blk_own_grown KB4.out hgrow (fun g e => by have := OG.out g e; have := PB.out; omega)
      have bw := BW4.out.grown hgrow BW4.out.size (fun k hk => Nat.le_trans GBA.out (OG.out k hk))
      have sb : BA ≤ w6.heap.size := Nat.le_trans SB4.out hgrow.size
      have O6 : Hid (w6.ownsRow BA 3 1 v6 (11 + dl + 4 * (k + 1)) (vi (HEAD ++ upNums (ups.take (k + 1))))) := by
        have e : vi (HEAD ++ upNums (ups.take (k + 1))) = vi (HEAD ++ upNums (ups.take k)) ++ vi [y0, y1, y2, y3] := by
          rw [HUT.out]
          simp [vi]
        show World.ownsRow _ _ _ _ _ _ _
        rw [e, show 11 + dl + 4 * (k + 1) = 11 + dl + 4 * k + 4 from by omega]
        exact hown
      replace KB := Lib.hid kb
      replace BW := Lib.hid bw
      replace SB := Lib.hid sb
      clear kb bw sb hown hgrow O4 KB4 BW4 SB4 SR
      refine hK.out _ _ ⟨BW.out, KB.out⟩ (fun hHeld => ?_)
      clear hK KQ
      try simp only [Act.put, List.setIfInBounds_toArray, List.set_cons_zero, List.set_cons_succ]
      refine held_take (i := 27) (d := some 3) (v := ?_) rfl (by kernel_rfl) (by kernel_rfl) (by kernel_rfl) (by kernel_rfl) (fun _ _ _ h => h) (by kernel_rfl) ?_ hHeld ?_
      rotate_left
      · intro w' hSw
        go_simp
        first | done | with_reducible rfl
      simp only [Act.put, List.setIfInBounds_toArray, List.set_cons_zero, List.set_cons_succ]
      refine wpAnyH_done (by kernel_rfl) ?_ _
      clear hHeld
      go_wp2_with fail
      go_roundw
      case rel => exact ⟨k + 1, by omega, by go_num, O6.out, KB.out, SB.out, BW.out⟩
      case measure => simp [intOf]; omega
    · have hku : k = ul := by omega
      have HX : Hid (HEAD ++ upNums (ups.take k) = NUMS) := by show _ = _; rw [HN.out, UD.out k (by omega)]
      have ho2 := ho.out
      rw [HX.out] at ho2
      obtain ⟨g, hg, hO⟩ := own_of_row (by rw [NL.out]; omega) ho2
      have AC := Lib.hid (ALL.out _ wr (own_ints hO))
      clear hO hg ho2
      have k0 := KB.out.cell 0
      have k1 := KB.out.cell 1
      have k2 := KB.out.cell 2
      have k3 := KB.out.cell 3
      have k4 := KB.out.cell 4
      have k5 := KB.out.cell 5
      have k6 := KB.out.cell 6
      have k7 := KB.out.cell 7
      have k8 := KB.out.cell 8
      have k9 := KB.out.cell 9
      have k10 := KB.out.cell 10
      simp only [List.getElem?_cons_zero, List.getElem?_cons_succ] at k0 k1 k2 k3 k4 k5 k6 k7 k8 k9 k10
      go_wp2_with fail
      refine AC.out.mono ?_
      rintro e w7 ⟨rfl, b7⟩
      have B7 := Lib.hid (BW.out.trans (b7.mono BW.out.size))
      clear b7
      go_wp2_with fail
      go_ret
      exact ⟨rfl, B7.out⟩

def RowMade (w : World) (xs : List Int) (e : Ending) (w' : World) : Prop := ∃ v, e = .returned v ∧ Ints w' v xs ∧ Below w.heap.size w w'

set_option maxRecDepth 100000 in
set_option maxHeartbeats 6400000 in
theorem rowOf_any (t : ActT) (w : World) (ht : t.Reads w) (hs : t.a.Small) :
    Calls Tryd.prog 23 #[t.val] w (RowMade w (numsM t.a)) := by
  obtain ⟨i0, hi, hz0, hz1, hz2⟩ := info_parts Tryd.info3
  have HT := Lib.hid ht
  have hs1 := hs.1
  have hs2 := hs.2
  obtain ⟨⟨r, nn, dep, actor, kind, dst, bucket, mask, gr, gn, ups⟩, vd, vs⟩ := t
  have hsd := ints_len HT.out.1
  have hsu := ups_len HT.out.2
  simp only at hsd hsu hs1 hs2
  obtain ⟨da, dc, rfl⟩ := hsd
  obtain ⟨ua, uc, rfl⟩ := hsu
  try simp only [ActT.val] at ⊢
  obtain ⟨NUMS, hN⟩ : ∃ N, N = numsM ⟨r, nn, dep, actor, kind, dst, bucket, mask, gr, gn, ups⟩ := ⟨_, rfl⟩
  rw [← hN]
  have HN0 := Lib.hid hN
  have UT := Lib.hid (fun k (hk : k < ups.length) => upNums_take ups k hk)
  have UD := Lib.hid (fun k (hk : ups.length ≤ k) => (show ups.take k = ups from List.take_of_length_le hk))
  have NL := Lib.hid (nums_len ⟨r, nn, dep, actor, kind, dst, bucket, mask, gr, gn, ups⟩)
  rw [← hN] at NL
  simp only at NL
  have UG := Lib.hid (fun k hk => ups_get HT.out.2 k hk)
  simp only at UG
  have HD := Lib.hid HT.out.1
  simp only at HD
  obtain ⟨HEAD, hH⟩ : ∃ H : List Int, H = ([r, nn, (dep.length : Int)] ++ dep) ++ [actor, kind, dst, bucket, mask, gr, gn, (ups.length : Int)] := ⟨_, rfl⟩
  have HH := Lib.hid hH
  have HN : Hid (NUMS = HEAD ++ upNums ups) := by show _ = _; rw [hN, hH]; rfl
  clear hN hH HT
  obtain ⟨dl, hdl⟩ : ∃ x, x = dep.length := ⟨_, rfl⟩
  obtain ⟨ul, hul⟩ : ∃ x, x = ups.length := ⟨_, rfl⟩
  rw [← hdl] at HD hs1 NL HH
  rw [← hul] at UT UD UG hs2 NL HH
  rw [← hdl, ← hul]
  have HDL := Lib.hid hdl
  have HUL := Lib.hid hul
  clear hdl hul
  clear hs
  have BW := Lib.hid (Below.refl w.heap.size w)
  go_enter Tryd.func23, Tryd.ntmps23
  have kB := Blk.new w #[.int .i64 r, .int .i64 nn, .slice da dl dc, .int .i64 actor, .int .i64 kind, .int .i64 dst, .int .i64 bucket, .int .i64 mask, .int .i64 gr, .int .i64 gn, .slice ua ul uc] 30
  have ba := (Below.refl w.heap.size w).alloc (Nat.le_refl _) (.cells #[.int .i64 r, .int .i64 nn, .slice da dl dc, .int .i64 actor, .int .i64 kind, .int .i64 dst, .int .i64 bucket, .int .i64 mask, .int .i64 gr, .int .i64 gn, .slice ua ul uc] 30)
  obtain ⟨pB, hpB⟩ : ∃ p, p = w.heap.size := ⟨_, rfl⟩
  go_upto_region 1 with (fail)
  rw [← hpB] at kB
  try rw [← hpB]
  obtain ⟨w1, hW⟩ : ∃ W, W = w.alloc (.cells #[.int .i64 r, .int .i64 nn, .slice da dl dc, .int .i64 actor, .int .i64 kind, .int .i64 dst, .int .i64 bucket, .int .i64 mask, .int .i64 gr, .int .i64 gn, .slice ua ul uc] 30) := ⟨_, rfl⟩
  rw [← hW] at ba kB ⊢
  have KB := Lib.hid kB
  have GB := Lib.hid (show w.heap.size ≤ pB by omega)
  replace BW := Lib.hid (BW.out.trans ((ba).mono BW.out.size))
  clear ba hW kB hpB
  have k0 := KB.out.cell 0
  have k1 := KB.out.cell 1
  have k2 := KB.out.cell 2
  have k3 := KB.out.cell 3
  have k4 := KB.out.cell 4
  have k5 := KB.out.cell 5
  have k6 := KB.out.cell 6
  have k7 := KB.out.cell 7
  have k8 := KB.out.cell 8
  have k9 := KB.out.cell 9
  have k10 := KB.out.cell 10
  simp only [List.getElem?_cons_zero, List.getElem?_cons_succ] at k0 k1 k2 k3 k4 k5 k6 k7 k8 k9 k10
  go_upto_region 2 with (fail)
  clear k0 k1 k2 k3 k4 k5 k6 k7 k8 k9 k10
  obtain ⟨BA, hBA⟩ : ∃ x, x = w1.heap.size := ⟨_, rfl⟩
  have o1 := World.ownsRow_lit (size := 1) (e := 3) (base := w1.heap.size) w1 #[.int .i64 r, .int .i64 nn, .int .i64 dl] 3 (Nat.le_refl _) (by unfold maxLen; omega) rfl
  have b1 := (Below.refl w1.heap.size w1).alloc (Nat.le_refl _) (.cells #[.int .i64 r, .int .i64 nn, .int .i64 dl] 3)
  have hlt := KB.out.lt
  obtain ⟨w2, hw2⟩ : ∃ W, W = w1.alloc (.cells #[.int .i64 r, .int .i64 nn, .int .i64 dl] 3) := ⟨_, rfl⟩
  rw [← hw2] at o1 b1 ⊢
  have hsz : BA ≤ w2.heap.size := by rw [hw2, hBA]; simp
  rw [← hBA] at o1 hlt ⊢
  have OR := Lib.hid o1
  have PB := Lib.hid hlt
  have SB := Lib.hid hsz
  have GBA := Lib.hid (show w.heap.size ≤ BA by rw [hBA]; exact BW.out.size)
  replace BW := Lib.hid (BW.out.trans ((b1).mono BW.out.size))
  replace KB := Lib.hid (KB.out.below (b1) KB.out.lt)
  clear b1 hw2 hBA hlt hsz o1
  have k0 := KB.out.cell 0
  have k1 := KB.out.cell 1
  have k2 := KB.out.cell 2
  have k3 := KB.out.cell 3
  have k4 := KB.out.cell 4
  have k5 := KB.out.cell 5
  have k6 := KB.out.cell 6
  have k7 := KB.out.cell 7
  have k8 := KB.out.cell 8
  have k9 := KB.out.cell 9
  have k10 := KB.out.cell 10
  simp only [List.getElem?_cons_zero, List.getElem?_cons_succ] at k0 k1 k2 k3 k4 k5 k6 k7 k8 k9 k10
  go_wp2_with (at_builtin; refine wpList_app2 rfl (.tmp 14) (.tmp 16) 48 22 rfl BA 3 i0 (.int .i64 0) 1 8 Tryd.underlying48 Tryd.underlying22 hi hz0 hz1 hz2 rfl (by decide) (.slice (some ⟨BA, 0, none⟩) 3 3) (.slice da dl dc) 3 dl (vi [r, nn, (dl : Int)]) (vi dep) rfl rfl OR.out (by have := src_ints (HD.out.below (B := 0) BW.out); rw [← HDL.out] at this; exact this) (vi_one dep) (by unfold maxLen; omega) (by omega) SB.out ?_)
  intro v2 w3 hown hgrow _
  obtain ⟨a2, c2, rfl⟩ := row_shape hown
  clear k0 k1 k2 k3 k4 k5 k6 k7 k8 k9 k10
  have kb := KB.out.grown (w' := w3) hgrow (by have := PB.out; show pB ≠ BA; omega)
  have bw := BW.out.grown hgrow BW.out.size (fun k hk => by cases hk; exact GBA.out)
  have sb : BA ≤ w3.heap.size := Nat.le_trans SB.out hgrow.size
  have OG := Lib.hid (own_block_ge hown)
  have O3 := Lib.hid hown
  replace KB := Lib.hid kb
  replace BW := Lib.hid bw
  replace SB := Lib.hid sb
  clear kb bw sb hown hgrow OR
  have k0 := KB.out.cell 0
  have k1 := KB.out.cell 1
  have k2 := KB.out.cell 2
  have k3 := KB.out.cell 3
  have k4 := KB.out.cell 4
  have k5 := KB.out.cell 5
  have k6 := KB.out.cell 6
  have k7 := KB.out.cell 7
  have k8 := KB.out.cell 8
  have k9 := KB.out.cell 9
  have k10 := KB.out.cell 10
  simp only [List.getElem?_cons_zero, List.getElem?_cons_succ] at k0 k1 k2 k3 k4 k5 k6 k7 k8 k9 k10
  have SR := Lib.hid (src_lit (w := w3) #[.int .i64 actor, .int .i64 kind, .int .i64 dst, .int .i64 bucket, .int .i64 mask, .int .i64 gr, .int .i64 gn, .int .i64 ul] 3 8 rfl)
  have O4 := Lib.hid (row_grown (r := none) O3.out (grown_alloc w3 (.cells #[.int .i64 actor, .int .i64 kind, .int .i64 dst, .int .i64 bucket, .int .i64 mask, .int .i64 gr, .int .i64 gn, .int .i64 ul] 3) none) (fun g e => by cases e))
  have KB4 := Lib.hid (KB.out.alloc (.cells #[.int .i64 actor, .int .i64 kind, .int .i64 dst, .int .i64 bucket, .int .i64 mask, .int .i64 gr, .int .i64 gn, .int .i64 ul] 3))
  have BW4 := Lib.hid (BW.out.alloc BW.out.size (.cells #[.int .i64 actor, .int .i64 kind, .int .i64 dst, .int .i64 bucket, .int .i64 mask, .int .i64 gr, .int .i64 gn, .int .i64 ul] 3))
  have SB4 := Lib.hid (show BA ≤ (w3.alloc (.cells #[.int .i64 actor, .int .i64 kind, .int .i64 dst, .int .i64 bucket, .int .i64 mask, .int .i64 gr, .int .i64 gn, .int .i64 ul] 3)).heap.size by have := SB.out; simp; omega)
  go_wp2_with (at_builtin; refine wpList_app rfl (.tmp 18) (.tmp 36) 48 rfl BA 3 i0 (.int .i64 0) 1 8 Tryd.underlying48 hi hz0 hz1 hz2 rfl (by decide) (.slice a2 (3 + dl) c2) (.slice (some ⟨w3.heap.size, 0, none⟩) 8 8) (3 + dl) 8 _ (vi [actor, kind, dst, bucket, mask, gr, gn, (ul : Int)]) rfl rfl O4.out SR.out (vi_one _) (by unfold maxLen; omega) (by omega) SB4.out ?_)
  intro v4 w4 hown hgrow _
  clear k0 k1 k2 k3 k4 k5 k6 k7 k8 k9 k10
  have kb : Blk w4 pB _ := blk_own_grown KB4.out hgrow (fun g e => by have := OG.out g e; have := PB.out; omega)
  have bw := BW4.out.grown hgrow BW4.out.size (fun k hk => Nat.le_trans GBA.out (OG.out k hk))
  have sb : BA ≤ w4.heap.size := Nat.le_trans SB4.out hgrow.size
  have O5 : Hid (w4.ownsRow BA 3 1 v4 (11 + dl) (vi (HEAD ++ upNums (ups.take 0)))) := by
    have e : vi (HEAD ++ upNums (ups.take 0)) = (vi [r, nn, (dl : Int)] ++ vi dep) ++ vi [actor, kind, dst, bucket, mask, gr, gn, (ul : Int)] := by
      rw [HH.out]
      simp [vi, upNums]
    show World.ownsRow _ _ _ _ _ _ _
    rw [e, show 11 + dl = 3 + dl + 8 from by omega]
    exact hown
  replace KB := Lib.hid kb
  replace BW := Lib.hid bw
  replace SB := Lib.hid sb
  clear kb bw sb hown hgrow O3 O4 KB4 BW4 SB4 OG SR
  have k0 := KB.out.cell 0
  have k1 := KB.out.cell 1
  have k2 := KB.out.cell 2
  have k3 := KB.out.cell 3
  have k4 := KB.out.cell 4
  have k5 := KB.out.cell 5
  have k6 := KB.out.cell 6
  have k7 := KB.out.cell 7
  have k8 := KB.out.cell 8
  have k9 := KB.out.cell 9
  have k10 := KB.out.cell 10
  simp only [List.getElem?_cons_zero, List.getElem?_cons_succ] at k0 k1 k2 k3 k4 k5 k6 k7 k8 k9 k10
  go_wp2_with fail
  clear k0 k1 k2 k3 k4 k5 k6 k7 k8 k9 k10
  go_loopw [3, 41] (fun t i wr => ∃ k : Nat, k ≤ ul ∧ i = .int .i64 k ∧ Hid (wr.ownsRow BA 3 1 t (11 + dl + 4 * k) (vi (HEAD ++ upNums (ups.take k)))) ∧ Hid (Blk wr pB [.int .i64 r, .int .i64 nn, .slice da dl dc, .int .i64 actor, .int .i64 kind, .int .i64 dst, .int .i64 bucket, .int .i64 mask, .int .i64 gr, .int .i64 gn, .slice ua ul uc]) ∧ Hid (BA ≤ wr.heap.size) ∧ Hid (Below w.heap.size w wr)) (fun _ i _ => ul - (intOf i).toNat)
  case atStart => exact ⟨0, Nat.zero_le _, rfl, O5.out, KB.out, SB.out, BW.out⟩
  case round =>
    rename_i t _
    obtain ⟨k, hk, rfl, ho, hkb, hsb, hbel⟩ := hrel
    clear O5 KB SB BW
    have BW := hbel
    have KB := hkb
    have SB := hsb
    clear hbel hkb hsb
    by_cases hlt : k < ul
    · obtain ⟨ub, uo, hua, hub, q0, q1, q2, q3⟩ := UG.out k hlt
      subst hua
      have z0 := (BW.out.cell (p := ⟨ub, uo + k * 4, none⟩) hub).trans q0
      have z1 := (BW.out.cell (p := ⟨ub, uo + k * 4 + 1, none⟩) hub).trans q1
      have z2 := (BW.out.cell (p := ⟨ub, uo + k * 4 + 2, none⟩) hub).trans q2
      have z3 := (BW.out.cell (p := ⟨ub, uo + k * 4 + 3, none⟩) hub).trans q3
      have hut := UT.out k hlt
      generalize (ups.getD k up0).kind = y0 at *
      generalize (ups.getD k up0).bucket = y1 at *
      generalize (ups.getD k up0).key = y2 at *
      generalize (ups.getD k up0).val = y3 at *
      have HUT := Lib.hid hut
      have Q0 := Lib.hid q0
      have Q1 := Lib.hid q1
      have Q2 := Lib.hid q2
      have Q3 := Lib.hid q3
      clear hut q0 q1 q2 q3
      have i0' : (0 : Int) ≤ (k : Int) := by omega
      have i1' : (k : Int) < (ul : Int) := by omega
      have OG := Lib.hid (own_block_ge ho.out)
      obtain ⟨a5, c5, rfl⟩ := row_shape ho.out
      go_upto_region 7 with (fail)
      clear z0 z1 z2 z3
      replace ho := Lib.hid ho.out
      have HOw := Lib.hid (row_grown (r := none) ho.out (grown_alloc wr (.cells #[.int .i64 y0, .int .i64 y1, .int .i64 y2, .int .i64 y3] 44) none) (fun g e => by cases e))
      have SBw := Lib.hid (show BA ≤ (wr.alloc (.cells #[.int .i64 y0, .int .i64 y1, .int .i64 y2, .int .i64 y3] 44)).heap.size by have := SB.out; simp; omega)
      have e : ∃ W, W = wr.alloc (.cells #[.int .i64 y0, .int .i64 y1, .int .i64 y2, .int .i64 y3] 44) := ⟨_, rfl⟩
      obtain ⟨wu, hwu⟩ := e
      rw [← hwu] at HOw SBw
      have k0 := Blk.new wr #[.int .i64 y0, .int .i64 y1, .int .i64 y2, .int .i64 y3] 44
      have kb0 := KB.out.alloc (.cells #[.int .i64 y0, .int .i64 y1, .int .i64 y2, .int .i64 y3] 44)
      have bw0 := BW.out.alloc BW.out.size (.cells #[.int .i64 y0, .int .i64 y1, .int .i64 y2, .int .i64 y3] 44)
      obtain ⟨pU, hpU⟩ : ∃ p, p = wr.heap.size := ⟨_, rfl⟩
      rw [← hwu, ← hpU] at k0
      rw [← hwu] at kb0 bw0
      rw [← hwu, ← hpU]
      have HO := HOw
      replace KB := Lib.hid kb0
      replace BW := Lib.hid bw0
      replace SB := SBw
      have KU := Lib.hid k0
      clear k0 kb0 bw0 HOw SBw ho hwu hpU
      have u0 := KU.out.cell 0
      have u1 := KU.out.cell 1
      have u2 := KU.out.cell 2
      have u3 := KU.out.cell 3
      simp only [List.getElem?_cons_zero, List.getElem?_cons_succ] at u0 u1 u2 u3
      have plu := KU.out.lt
      have SR := Lib.hid (src_lit (w := wu) #[.int .i64 y0, .int .i64 y1, .int .i64 y2, .int .i64 y3] 3 4 rfl)
      have O4 := Lib.hid (row_grown (r := none) HO.out (grown_alloc wu (.cells #[.int .i64 y0, .int .i64 y1, .int .i64 y2, .int .i64 y3] 3) none) (fun g e => by cases e))
      have KB4 := Lib.hid (KB.out.alloc (.cells #[.int .i64 y0, .int .i64 y1, .int .i64 y2, .int .i64 y3] 3))
      have BW4 := Lib.hid (BW.out.alloc BW.out.size (.cells #[.int .i64 y0, .int .i64 y1, .int .i64 y2, .int .i64 y3] 3))
      have SB4 := Lib.hid (show BA ≤ (wu.alloc (.cells #[.int .i64 y0, .int .i64 y1, .int .i64 y2, .int .i64 y3] 3)).heap.size by have := SB.out; simp; omega)
      go_wp2_with (at_builtin; refine wpList_app rfl (.tmp 45) (.tmp 54) 48 rfl BA 3 i0 (.int .i64 0) 1 8 Tryd.underlying48 hi hz0 hz1 hz2 rfl (by decide) (.slice a5 (11 + dl + 4 * k) c5) (.slice (some ⟨wu.heap.size, 0, none⟩) 4 4) (11 + dl + 4 * k) 4 _ (vi [y0, y1, y2, y3]) rfl rfl O4.out SR.out (vi_one _) (by unfold maxLen; omega) (by omega) SB4.out ?_)
      intro v6 w6 hown hgrow _
      clear u0 u1 u2 u3 plu
      have kb : Blk w6 pB _ := blk_own_grown KB4.out hgrow (fun g e => by have := OG.out g e; have := PB.out; omega)
      have bw := BW4.out.grown hgrow BW4.out.size (fun k hk => Nat.le_trans GBA.out (OG.out k hk))
      have sb : BA ≤ w6.heap.size := Nat.le_trans SB4.out hgrow.size
      have O6 : Hid (w6.ownsRow BA 3 1 v6 (11 + dl + 4 * (k + 1)) (vi (HEAD ++ upNums (ups.take (k + 1))))) := by
        have e : vi (HEAD ++ upNums (ups.take (k + 1))) = vi (HEAD ++ upNums (ups.take k)) ++ vi [y0, y1, y2, y3] := by
          rw [HUT.out]
          simp [vi]
        show World.ownsRow _ _ _ _ _ _ _
        rw [e, show 11 + dl + 4 * (k + 1) = 11 + dl + 4 * k + 4 from by omega]
        exact hown
      replace KB := Lib.hid kb
      replace BW := Lib.hid bw
      replace SB := Lib.hid sb
      clear kb bw sb hown hgrow O4 KB4 BW4 SB4 SR
      go_wp2_with fail
      go_roundw
      case rel => exact ⟨k + 1, by omega, by go_num, O6.out, KB.out, SB.out, BW.out⟩
      case measure => simp [intOf]; omega
    · have hku : k = ul := by omega
      have HX : Hid (HEAD ++ upNums (ups.take k) = NUMS) := by show _ = _; rw [HN.out, UD.out k (by omega)]
      have ho2 := ho.out
      rw [HX.out] at ho2
      obtain ⟨g, hg, hO⟩ := own_of_row (by rw [NL.out]; omega) ho2
      have AC := Lib.hid (own_ints hO)
      clear hO hg ho2
      go_wp2_with fail
      go_ret
      exact ⟨_, rfl, AC.out, BW.out⟩
end Go.Proofs.YtjjgigoehgabkaaDoor
