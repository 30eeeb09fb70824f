/- The reference's l2own. -/
import Derived.Test.YtcgncaiehdcooaaCC
import Derived.Deep.DeepCutAuto
namespace Go.Proofs.Ytcgncaiehdcooaa
open Go.RowKit
set_option linter.unusedVariables false

def ActM.Small (a : ActM) : Prop := a.dep.length ≤ 1048576 ∧ a.ups.length ≤ 1048576
/-- an act with lists of its own, that reads as a -/
def Owned (w : World) (a : ActM) (e : Ending) (w' : World) : Prop := ∃ t : ActT, t.a = a ∧ e = .returned t.val ∧ t.Owns w' w.heap.size ∧ Below w.heap.size w w'

theorem Blk.grown {w w' : World} {B g : Nat} {l : List Value} (h : Blk w B l) (hg : w.grownBy w' (some g)) (hne : B ≠ g) : Blk w' B l :=
  h.same hg.size (hg.block B h.lt (fun e => hne (Option.some.inj e)))

set_option maxHeartbeats 3200000 in
theorem l2own_any (t : ActT) (w : World) (h : t.Reads w) (hs : t.a.Small) : Calls Try.prog 111 #[t.val] w (Owned w t.a) := by
  obtain ⟨i0, hi, hz0, hz1, hz2⟩ := info_parts Try.info3
  obtain ⟨i1, hj, hy0, hy1, hy2⟩ := info_parts Try.infoUp
  obtain ⟨⟨r, n, dep, actor, kind, dst, bucket, mask, gr, gn, ups⟩, vd, vs⟩ := t
  obtain ⟨hd, hu⟩ := h
  obtain ⟨s1, s2⟩ := hs
  simp only at hd hu s1 s2
  show Calls _ _ #[Value.agg #[.int .i64 r, .int .i64 n, vd, .int .i64 actor, .int .i64 kind, .int .i64 dst, .int .i64 bucket, .int .i64 mask, .int .i64 gr, .int .i64 gn, vs]] w (Owned w ⟨r, n, dep, actor, kind, dst, bucket, mask, gr, gn, ups⟩)
  have od := ints_one hd
  have ou := ups_one hu
  have b2 := (((Below.refl w.heap.size w).alloc (Nat.le_refl _) (.cells #[.int .i64 r, .int .i64 n, vd, .int .i64 actor, .int .i64 kind, .int .i64 dst, .int .i64 bucket, .int .i64 mask, .int .i64 gr, .int .i64 gn, vs] 26)).alloc (by simp) (.cells #[.int .i64 0, .int .i64 0, .slice none 0 0, .int .i64 0, .int .i64 0, .int .i64 0, .int .i64 0, .int .i64 0, .int .i64 0, .int .i64 0, .slice none 0 0] 26))
  have k0 := (Blk.new w #[.int .i64 r, .int .i64 n, vd, .int .i64 actor, .int .i64 kind, .int .i64 dst, .int .i64 bucket, .int .i64 mask, .int .i64 gr, .int .i64 gn, vs] 26).alloc (.cells #[.int .i64 0, .int .i64 0, .slice none 0 0, .int .i64 0, .int .i64 0, .int .i64 0, .int .i64 0, .int .i64 0, .int .i64 0, .int .i64 0, .slice none 0 0] 26)
  have k1 := Blk.new (w.alloc (.cells #[.int .i64 r, .int .i64 n, vd, .int .i64 actor, .int .i64 kind, .int .i64 dst, .int .i64 bucket, .int .i64 mask, .int .i64 gr, .int .i64 gn, vs] 26)) #[.int .i64 0, .int .i64 0, .slice none 0 0, .int .i64 0, .int .i64 0, .int .i64 0, .int .i64 0, .int .i64 0, .int .i64 0, .int .i64 0, .slice none 0 0] 26
  simp only [World.size_alloc] at k1
  have B2 := Lib.hid b2
  have K0 := Lib.hid k0
  have K1 := Lib.hid k1
  have HD := Lib.hid hd
  have HU := Lib.hid hu
  have OD := Lib.hid od
  have OU := Lib.hid ou
  clear b2 k0 k1 hd hu od ou
  go_enter Try.func111, Try.ntmps111
  go_upto_region 1 with (fail)
  obtain ⟨W2, hW2⟩ : ∃ W2, W2 = ((w.alloc (.cells #[.int .i64 r, .int .i64 n, vd, .int .i64 actor, .int .i64 kind, .int .i64 dst, .int .i64 bucket, .int .i64 mask, .int .i64 gr, .int .i64 gn, vs] 26)).alloc (.cells #[.int .i64 0, .int .i64 0, .slice none 0 0, .int .i64 0, .int .i64 0, .int .i64 0, .int .i64 0, .int .i64 0, .int .i64 0, .int .i64 0, .slice none 0 0] 26)) := ⟨_, rfl⟩
  rw [← hW2] at B2 K0 K1 ⊢
  have hsz : W2.heap.size = w.heap.size + 2 := by rw [hW2]; simp
  have HSZ := Lib.hid hsz
  clear hW2 hsz
  have O0 := Lib.hid (World.ownsRow_lit (size := 1) (e := 3) (base := W2.heap.size) W2 #[] 0 (Nat.le_refl _) (by unfold maxLen; omega) rfl)
  have c0 := K0.out.cell
  have l0 := K0.out.lt
  have K0a := Lib.hid (K0.out.alloc (.cells #[] 3))
  have K1a := Lib.hid (K1.out.alloc (.cells #[] 3))
  have B3 := Lib.hid (B2.out.alloc B2.out.size (.cells #[] 3))
  go_wp2_with (at_builtin; refine wpList_app rfl (.tmp 3) (.tmp 5) 23 rfl W2.heap.size 3 i0 (.int .i64 0) 1 8 Try.underlying23 hi hz0 hz1 hz2 rfl (by decide) _ vd 0 dep.length [] (vi dep) rfl rfl O0.out (src_ints (HD.out.below (B := 0) B3.out)) (vi_one dep) (by unfold maxLen; omega) (by omega) (by simp) ?_)
  intro v1 w1 hown1 hgrow1 _
  try simp only [Nat.zero_add, List.nil_append] at hown1
  obtain ⟨a1, c1, rfl⟩ := row_shape hown1
  have G1 : (W2.alloc (.cells #[] 3)).grownBy w1 (some W2.heap.size) := hgrow1
  have K0b := Lib.hid (K0a.out.grown G1 (by rw [HSZ.out]; omega))
  have K1b := Lib.hid (K1a.out.grown G1 (by rw [HSZ.out]; omega))
  have B4 := Lib.hid (B3.out.grown G1 B3.out.size (fun k hk => by cases hk; exact B2.out.size))
  obtain ⟨g, hg, hO⟩ := own_of_row rfl hown1
  have HO := Lib.hid hO
  have HG : w.heap.size + 2 ≤ g := by have := HSZ.out; omega
  clear hgrow1 G1 hown1 hO hg c0 l0
  have c2 := K0b.out.cell
  have f2 := K0b.out.free
  go_upto_region 2 with (fail)
  obtain ⟨W4, hW4⟩ : ∃ W4, W4 = w1.setCell ⟨w.heap.size, 2, none⟩ (.slice a1 dep.length c1) := ⟨_, rfl⟩
  have K0c : Hid (Blk W4 w.heap.size [.int .i64 r, .int .i64 n, .slice a1 dep.length c1, .int .i64 actor, .int .i64 kind, .int .i64 dst, .int .i64 bucket, .int .i64 mask, .int .i64 gr, .int .i64 gn, vs]) := by rw [hW4]; exact K0b.out.set (j := 2) (by simp) _
  have K1c : Hid (Blk W4 (w.heap.size + 1) [.int .i64 0, .int .i64 0, .slice none 0 0, .int .i64 0, .int .i64 0, .int .i64 0, .int .i64 0, .int .i64 0, .int .i64 0, .int .i64 0, .slice none 0 0]) := by rw [hW4]; exact K1b.out.other (by simp) _
  have B5 : Hid (Below w.heap.size w W4) := by rw [hW4]; exact B4.out.setCell (by simp) _
  have O1 : Hid (Own W4 g (.slice a1 dep.length c1) dep) := by
    rw [hW4]
    exact HO.out.block fun _ => Below.heap_setCell _ _ _ _ (by simp; omega)
  have L4 : w.heap.size + 2 ≤ W4.heap.size := by
    have := K1c.out.lt
    omega
  rw [← hW4]
  clear hW4 c2 f2 K0b K1b B4 HO K0a K1a B3 O0 K0 K1
  have O2 := Lib.hid (World.ownsRow_lit (size := 4) (e := 37) (base := W4.heap.size) W4 #[] 0 (Nat.le_refl _) (by unfold maxLen; omega) rfl)
  have c0 := K0c.out.cell
  have l0 := K0c.out.lt
  have K0a := Lib.hid (K0c.out.alloc (.cells #[] 37))
  have K1a := Lib.hid (K1c.out.alloc (.cells #[] 37))
  have B6 := Lib.hid (B5.out.alloc B5.out.size (.cells #[] 37))
  have O3 := Lib.hid (O1.out.block (w' := W4.alloc (.cells #[] 37)) fun hp => Below.heap_alloc _ _ _ (own_lt O1.out hp))
  go_wp2_with (at_builtin; refine wpList_app rfl (.tmp 8) (.tmp 10) 24 rfl W4.heap.size 37 i1 _ 4 32 Try.underlying24 hj hy0 hy1 hy2 rfl (by decide) _ vs 0 ups.length [] (vu ups) rfl rfl O2.out (src_ups (HU.out.below B6.out)) (vu_one ups) (by unfold maxLen; omega) (by omega) (by simp) ?_)
  intro v2 w2 hown2 hgrow2 _
  try simp only [Nat.zero_add, List.nil_append] at hown2
  obtain ⟨a2, c2, rfl⟩ := row_shape hown2
  have G2 : (W4.alloc (.cells #[] 37)).grownBy w2 (some W4.heap.size) := hgrow2
  have K0b := Lib.hid (K0a.out.grown G2 (by omega))
  have K1b := Lib.hid (K1a.out.grown G2 (by omega))
  have B7 := Lib.hid (B6.out.grown G2 B6.out.size (fun k hk => by cases hk; exact B5.out.size))
  have HP := Lib.hid hown2
  have O4 := Lib.hid (O3.out.other G2 (fun hp => by have := own_lt O1.out hp; omega))
  clear hgrow2 G2 hown2 c0 l0
  have d2 := K0b.out.cell
  have f2 := K0b.out.free
  go_upto_region 3 with (fail)
  obtain ⟨W6, hW6⟩ : ∃ W6, W6 = w2.setCell ⟨w.heap.size, 10, none⟩ (.slice a2 ups.length c2) := ⟨_, rfl⟩
  have K0d : Hid (Blk W6 w.heap.size [.int .i64 r, .int .i64 n, .slice a1 dep.length c1, .int .i64 actor, .int .i64 kind, .int .i64 dst, .int .i64 bucket, .int .i64 mask, .int .i64 gr, .int .i64 gn, .slice a2 ups.length c2]) := by rw [hW6]; exact K0b.out.set (j := 10) (by simp) _
  have K1d : Hid (Blk W6 (w.heap.size + 1) [.int .i64 0, .int .i64 0, .slice none 0 0, .int .i64 0, .int .i64 0, .int .i64 0, .int .i64 0, .int .i64 0, .int .i64 0, .int .i64 0, .slice none 0 0]) := by rw [hW6]; exact K1b.out.other (by simp) _
  have B8 : Hid (Below w.heap.size w W6) := by rw [hW6]; exact B7.out.setCell (by simp) _
  have O5 : Hid (Own W6 g (.slice a1 dep.length c1) dep) := by
    rw [hW6]
    exact O4.out.block fun _ => Below.heap_setCell _ _ _ _ (by simp; omega)
  have P5 : Hid (W6.ownsRow (w.heap.size + 2) 37 4 (.slice a2 ups.length c2) ups.length (vu ups)) := by
    rw [hW6]
    exact row_less (row_grown HP.out (grown_set w.heap.size 10 _) (fun g e => by cases e; omega)) (by omega)
  rw [← hW6]
  clear hW6 d2 f2 K0b K1b B7 HP O4 O3 O1 K0a K1a B6 O2 K0c K1c B5
  have c0 := K0d.out.cell
  have c9 := K1d.out.cell
  have f9 := K1d.out.free
  go_wp2
  refine bodyPost_ret (v := .agg #[.int .i64 r, .int .i64 n, .slice a1 dep.length c1, .int .i64 actor, .int .i64 kind, .int .i64 dst, .int .i64 bucket, .int .i64 mask, .int .i64 gr, .int .i64 gn, .slice a2 ups.length c2]) (by simp [results, Try.results111, go_sem, c9]) rfl ⟨⟨⟨r, n, dep, actor, kind, dst, bucket, mask, gr, gn, ups⟩, .slice a1 dep.length c1, .slice a2 ups.length c2⟩, rfl, rfl, ⟨⟨g, by omega, O5.out.block fun _ => ?_⟩, row_less (row_keep P5.out fun k hk hl _ => ?_) (by omega)⟩, ?_⟩
  · repeat rw [Below.heap_setCell _ _ _ _ (by simp; omega)]
  · repeat rw [Below.heap_setCell _ _ _ _ (by simp; omega)]
  · repeat (with_reducible refine Below.setCell ?_ ?_ _)
    all_goals (first | exact B8.out | (simp; done) | (simp; omega))
end Go.Proofs.Ytcgncaiehdcooaa
