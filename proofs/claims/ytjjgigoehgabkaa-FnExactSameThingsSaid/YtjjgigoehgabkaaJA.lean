/- The program's copyAct. -/
import Derived.Test.YtjjgigoehgabkaaHB
namespace Go.Proofs.Ytjjgigoehgabkaa
open Go.RowKit
set_option linter.unusedVariables false

theorem own_I {w : World} {g : Nat} {v : Value} {xs : List Int} (h : Own w g v xs) (B : Nat) (hg : B ≤ g) : ∃ bs, OwnI w bs v xs ∧ bs.Nodup ∧ ∀ b ∈ bs, B ≤ b := by
  by_cases hp : 0 < xs.length
  · exact ⟨[g], .inr ⟨g, rfl, hp, h⟩, by simp, fun b hb => by rw [List.mem_singleton.1 hb]; exact hg⟩
  · rcases h with ⟨a, cap, h1, h2⟩ | ⟨h1, _⟩
    · exact ⟨[], .inl ⟨h2, rfl, a, cap, h1⟩, List.nodup_nil, fun b hb => by cases hb⟩
    · omega
theorem own_P {w : World} {g : Nat} {v : Value} {us : List UpM} (h : OwnU w g v us) (B : Nat) (hg : B ≤ g) : ∃ bs, OwnP w bs v us ∧ bs.Nodup ∧ ∀ b ∈ bs, B ≤ b := by
  by_cases hp : 0 < us.length
  · exact ⟨[g], .inr ⟨g, rfl, hp, h⟩, by simp, fun b hb => by rw [List.mem_singleton.1 hb]; exact hg⟩
  · rcases h with ⟨a, cap, h1, h2⟩ | ⟨h1, _⟩
    · exact ⟨[], .inl ⟨h2, rfl, a, cap, h1⟩, List.nodup_nil, fun b hb => by cases hb⟩
    · omega
theorem nodup_app {ds us : List Nat} {B : Nat} (h1 : ds.Nodup) (h2 : us.Nodup) (h3 : ∀ b ∈ ds, b < B) (h4 : ∀ b ∈ us, B ≤ b) : (ds ++ us).Nodup := by
  rw [List.nodup_append]
  refine ⟨h1, h2, fun a ha b hb => ?_⟩
  have := h3 a ha; have := h4 b hb; omega

/-- a copy of an act: its lists lie in blocks of their own, that are new -/
def Copied (w : World) (a : ActM) (e : Ending) (w' : World) : Prop := ∃ (t : ActT) (ds us : List Nat), t.a = a ∧ e = .returned t.val ∧ OwnI w' ds t.vd t.a.dep ∧ OwnP w' us t.vs t.a.ups ∧ (ds ++ us).Nodup ∧ (∀ b ∈ ds ++ us, w.heap.size ≤ b) ∧ Below w.heap.size w w'

set_option maxRecDepth 100000 in
set_option maxHeartbeats 3200000 in
theorem copyAct_any (t : ActT) (w : World) (h : t.Reads w) (hs : t.a.Small) : Calls Try.prog 110 #[t.val] w (Copied w t.a) := by
  obtain ⟨i0, hi, hz0, hz1, hz2⟩ := info_parts Try.info3
  obtain ⟨i1, hj, hy0, hy1, hy2⟩ := info_parts Try.infoUp
  obtain ⟨⟨r, n, dep, actor, kind, dst, bucket, mask, gr, gn, ups⟩, vd, vs⟩ := t
  obtain ⟨hd, hu⟩ := h
  obtain ⟨s1, s2⟩ := hs
  simp only at hd hu s1 s2
  show Calls _ _ #[Value.agg #[.int .i64 r, .int .i64 n, vd, .int .i64 actor, .int .i64 kind, .int .i64 dst, .int .i64 bucket, .int .i64 mask, .int .i64 gr, .int .i64 gn, vs]] w (Copied w ⟨r, n, dep, actor, kind, dst, bucket, mask, gr, gn, ups⟩)
  have od := ints_one hd
  have ou := ups_one hu
  have b2 := (((Below.refl w.heap.size w).alloc (Nat.le_refl _) (.cells #[.int .i64 r, .int .i64 n, vd, .int .i64 actor, .int .i64 kind, .int .i64 dst, .int .i64 bucket, .int .i64 mask, .int .i64 gr, .int .i64 gn, vs] 42)).alloc (by simp) (.cells #[.int .i64 0, .int .i64 0, .slice none 0 0, .int .i64 0, .int .i64 0, .int .i64 0, .int .i64 0, .int .i64 0, .int .i64 0, .int .i64 0, .slice none 0 0] 42))
  have k0 := (Blk.new w #[.int .i64 r, .int .i64 n, vd, .int .i64 actor, .int .i64 kind, .int .i64 dst, .int .i64 bucket, .int .i64 mask, .int .i64 gr, .int .i64 gn, vs] 42).alloc (.cells #[.int .i64 0, .int .i64 0, .slice none 0 0, .int .i64 0, .int .i64 0, .int .i64 0, .int .i64 0, .int .i64 0, .int .i64 0, .int .i64 0, .slice none 0 0] 42)
  have k1 := Blk.new (w.alloc (.cells #[.int .i64 r, .int .i64 n, vd, .int .i64 actor, .int .i64 kind, .int .i64 dst, .int .i64 bucket, .int .i64 mask, .int .i64 gr, .int .i64 gn, vs] 42)) #[.int .i64 0, .int .i64 0, .slice none 0 0, .int .i64 0, .int .i64 0, .int .i64 0, .int .i64 0, .int .i64 0, .int .i64 0, .int .i64 0, .slice none 0 0] 42
  simp only [World.size_alloc] at k1
  have B2 := Lib.hid b2
  have K0 := Lib.hid k0
  have K1 := Lib.hid k1
  have HD := Lib.hid hd
  have HU := Lib.hid hu
  have OD := Lib.hid od
  have OU := Lib.hid ou
  clear b2 k0 k1 hd hu od ou
  go_enter Try.func110, Try.ntmps110
  go_upto_region 1 with (fail)
  obtain ⟨W2, hW2⟩ : ∃ W2, W2 = ((w.alloc (.cells #[.int .i64 r, .int .i64 n, vd, .int .i64 actor, .int .i64 kind, .int .i64 dst, .int .i64 bucket, .int .i64 mask, .int .i64 gr, .int .i64 gn, vs] 42)).alloc (.cells #[.int .i64 0, .int .i64 0, .slice none 0 0, .int .i64 0, .int .i64 0, .int .i64 0, .int .i64 0, .int .i64 0, .int .i64 0, .int .i64 0, .slice none 0 0] 42)) := ⟨_, rfl⟩
  rw [← hW2] at B2 K0 K1 ⊢
  have hsz : W2.heap.size = w.heap.size + 2 := by rw [hW2]; simp
  have HSZ := Lib.hid hsz
  clear hW2 hsz
  have c0 := K0.out.cell
  have l0 := K0.out.lt
  go_wp2_with (at_builtin; refine wpList_app rfl _ (.tmp 4) 29 rfl W2.heap.size 3 i0 (.int .i64 0) 1 8 Try.underlying29 hi hz0 hz1 hz2 rfl (by decide) (.slice none 0 0) vd 0 dep.length [] (vi dep) rfl rfl (World.ownsRow_nil _ _ _ _) (src_ints (HD.out.below (B := 0) B2.out)) (vi_one dep) (by unfold maxLen; omega) (by omega) (by simp) ?_)
  intro v1 w1 hown1 hgrow1 _
  try simp only [Nat.zero_add, List.nil_append] at hown1
  obtain ⟨a1, c1, rfl⟩ := row_shape hown1
  have G1 : W2.grownBy w1 none := hgrow1
  have hbw : Below W2.heap.size W2 w1 := (Below.refl _ _).grown G1 (Nat.le_refl _) (fun k hk => by cases hk)
  have K0b := Lib.hid (K0.out.below hbw K0.out.lt)
  have K1b := Lib.hid (K1.out.below hbw K1.out.lt)
  have B4 := Lib.hid (B2.out.trans (hbw.mono B2.out.size))
  obtain ⟨g, hg, hO⟩ := own_of_row rfl hown1
  obtain ⟨ds, hds, hdn, hdl⟩ := own_I hO _ hg
  have HO := Lib.hid hds
  have HDL : Hid (∀ b ∈ ds, w.heap.size + 2 ≤ b) := fun b hb => by have := HSZ.out; have := hdl b hb; omega
  have HDN := Lib.hid hdn
  clear hgrow1 G1 hown1 hO hg c0 l0 hbw hds hdn hdl
  have c2 := K0b.out.cell
  have f2 := K0b.out.free
  go_upto_region 2 with (fail)
  obtain ⟨W4, hW4⟩ : ∃ W4, W4 = w1.setCell ⟨w.heap.size, 2, none⟩ (.slice a1 dep.length c1) := ⟨_, rfl⟩
  have K0c : Hid (Blk W4 w.heap.size [.int .i64 r, .int .i64 n, .slice a1 dep.length c1, .int .i64 actor, .int .i64 kind, .int .i64 dst, .int .i64 bucket, .int .i64 mask, .int .i64 gr, .int .i64 gn, vs]) := by rw [hW4]; exact K0b.out.set (j := 2) (by simp) _
  have K1c : Hid (Blk W4 (w.heap.size + 1) [.int .i64 0, .int .i64 0, .slice none 0 0, .int .i64 0, .int .i64 0, .int .i64 0, .int .i64 0, .int .i64 0, .int .i64 0, .int .i64 0, .slice none 0 0]) := by rw [hW4]; exact K1b.out.other (by simp) _
  have B5 : Hid (Below w.heap.size w W4) := by rw [hW4]; exact B4.out.setCell (by simp) _
  have O1 : Hid (OwnI W4 ds (.slice a1 dep.length c1) dep) := by
    rw [hW4]
    exact HO.out.keep fun b hb => Below.heap_setCell _ _ _ _ (by have := HDL.out b hb; simp; omega)
  have L4 : w.heap.size + 2 ≤ W4.heap.size := by
    have := K1c.out.lt
    omega
  rw [← hW4]
  clear hW4 c2 f2 K0b K1b B4 HO K0 K1
  have c0 := K0c.out.cell
  have l0 := K0c.out.lt
  go_wp2_with (at_builtin; refine wpList_app rfl _ (.tmp 8) 40 rfl W4.heap.size 158 i1 _ 4 32 Try.underlying40 hj hy0 hy1 hy2 rfl (by decide) (.slice none 0 0) vs 0 ups.length [] (vu ups) rfl rfl (World.ownsRow_nil _ _ _ _) (src_ups (HU.out.below B5.out)) (vu_one ups) (by unfold maxLen; omega) (by omega) (by simp) ?_)
  intro v2 w2 hown2 hgrow2 _
  try simp only [Nat.zero_add, List.nil_append] at hown2
  obtain ⟨a2, c2, rfl⟩ := row_shape hown2
  have G2 : W4.grownBy w2 none := hgrow2
  have hbw : Below W4.heap.size W4 w2 := (Below.refl _ _).grown G2 (Nat.le_refl _) (fun k hk => by cases hk)
  have K0b := Lib.hid (K0c.out.below hbw K0c.out.lt)
  have K1b := Lib.hid (K1c.out.below hbw K1c.out.lt)
  have B7 := Lib.hid (B5.out.trans (hbw.mono B5.out.size))
  obtain ⟨g, hg, hO⟩ := ownU_of_row rfl hown2
  obtain ⟨us, hus, hun, hul⟩ := own_P hO _ hg
  have HP := Lib.hid hus
  have HUN := Lib.hid hun
  have HUL := Lib.hid hul
  have O4 := Lib.hid (O1.out.keep fun b hb => hbw.block b (O1.out.lt b hb))
  have HND := Lib.hid (nodup_app HDN.out HUN.out O1.out.lt HUL.out)
  have HGE : Hid (∀ b ∈ ds ++ us, w.heap.size + 2 ≤ b) := fun b hb => by
    rcases List.mem_append.1 hb with hb | hb
    · exact HDL.out b hb
    · have := HUL.out b hb; omega
  clear hgrow2 G2 hown2 hO hg c0 l0 hbw hus hun hul
  have d2 := K0b.out.cell
  have f2 := K0b.out.free
  go_upto_region 3 with (fail)
  obtain ⟨W6, hW6⟩ : ∃ W6, W6 = w2.setCell ⟨w.heap.size, 10, none⟩ (.slice a2 ups.length c2) := ⟨_, rfl⟩
  have K0d : Hid (Blk W6 w.heap.size [.int .i64 r, .int .i64 n, .slice a1 dep.length c1, .int .i64 actor, .int .i64 kind, .int .i64 dst, .int .i64 bucket, .int .i64 mask, .int .i64 gr, .int .i64 gn, .slice a2 ups.length c2]) := by rw [hW6]; exact K0b.out.set (j := 10) (by simp) _
  have K1d : Hid (Blk W6 (w.heap.size + 1) [.int .i64 0, .int .i64 0, .slice none 0 0, .int .i64 0, .int .i64 0, .int .i64 0, .int .i64 0, .int .i64 0, .int .i64 0, .int .i64 0, .slice none 0 0]) := by rw [hW6]; exact K1b.out.other (by simp) _
  have B8 : Hid (Below w.heap.size w W6) := by rw [hW6]; exact B7.out.setCell (by simp) _
  have O5 : Hid (OwnI W6 ds (.slice a1 dep.length c1) dep) := by
    rw [hW6]
    exact O4.out.keep fun b hb => Below.heap_setCell _ _ _ _ (by have := HDL.out b hb; simp; omega)
  have P5 : Hid (OwnP W6 us (.slice a2 ups.length c2) ups) := by
    rw [hW6]
    exact HP.out.keep fun b hb => Below.heap_setCell _ _ _ _ (by have := HGE.out b (by simp [hb]); simp; omega)
  rw [← hW6]
  clear hW6 d2 f2 K0b K1b B7 HP O4 O1 K0c K1c B5
  have c0 := K0d.out.cell
  have c9 := K1d.out.cell
  have f9 := K1d.out.free
  go_wp2
  refine bodyPost_ret (v := .agg #[.int .i64 r, .int .i64 n, .slice a1 dep.length c1, .int .i64 actor, .int .i64 kind, .int .i64 dst, .int .i64 bucket, .int .i64 mask, .int .i64 gr, .int .i64 gn, .slice a2 ups.length c2]) (by simp [results, Try.results110, go_sem, c9]) rfl ⟨⟨⟨r, n, dep, actor, kind, dst, bucket, mask, gr, gn, ups⟩, .slice a1 dep.length c1, .slice a2 ups.length c2⟩, ds, us, rfl, rfl, O5.out.keep fun b hb => ?_, P5.out.keep fun b hb => ?_, HND.out, fun b hb => by have := HGE.out b hb; omega, ?_⟩
  · have := HGE.out b (by simp [hb])
    repeat rw [Below.heap_setCell _ _ _ _ (by simp; omega)]
  · have := HGE.out b (by simp [hb])
    repeat rw [Below.heap_setCell _ _ _ _ (by simp; omega)]
  · repeat (with_reducible refine Below.setCell ?_ ?_ _)
    all_goals (first | exact B8.out | (simp; done) | (simp; omega))
end Go.Proofs.Ytjjgigoehgabkaa
