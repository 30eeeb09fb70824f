/- Acts: szAct, toAct. -/
import Derived.Test.YtcgncaiehdcooaaAB
namespace Go.Proofs.Ytcgncaiehdcooaa
open Go.RowKit
set_option linter.unusedVariables false

set_option maxHeartbeats 400000 in
theorem szAct_any (v : Value) (a : ActM) (left : Int) (w : World) (h : ActIs w v a) (h0 : 0 ≤ left) (h1 : left ≤ 1048576) :
    Calls Try.prog 39 #[v, .int .i64 left] w fun e w' => e = .returned (.int .i64 (szM a.dep.length a.ups.length left)) ∧ Below w.heap.size w w' := by
  obtain ⟨vd, vs, rfl, hd, hs⟩ := h
  have m1 := ints_max hd
  have m2 := ups_max hs
  obtain ⟨da, dc, rfl⟩ : ∃ a' c', vd = .slice a' a.dep.length c' := by
    rcases hd with ⟨x, c, rfl, e⟩ | ⟨b, off, c, rfl, _⟩
    · exact ⟨x, c, by rw [e]; rfl⟩
    · exact ⟨_, c, rfl⟩
  obtain ⟨ua, uc, rfl⟩ := ups_len hs
  have s1 := szIntS_any da a.dep.length dc left
  have s2 := szUpS_any ua a.ups.length uc (left - a.dep.length)
  obtain ⟨r, n, dep, actor, kind, to, bucket, mask, gr, gn, ups⟩ := a
  simp only at s1 s2 m1 m2 ⊢
  clear hd hs
  generalize dep.length = d at *
  generalize ups.length = u at *
  have B0 := Lib.hid ((Below.refl w.heap.size w).alloc (Nat.le_refl _) (.cells #[.int .i64 r, .int .i64 n, .slice da d dc, .int .i64 actor, .int .i64 kind, .int .i64 to, .int .i64 bucket, .int .i64 mask, .int .i64 gr, .int .i64 gn, .slice ua u uc] 53))
  by_cases hd : left - d < 0
  · rw [if_pos hd] at s1
    have hz : szM d u left = -1 := by rw [szM, if_pos hd]
    rw [hz]
    have S1 := Lib.hid s1
    clear s1 s2 hz
    go_enter Try.func39, Try.ntmps39
    go_wp2_with fail
    refine (S1.out _ h0 h1 m1).mono ?_
    rintro e w1 ⟨rfl, rfl⟩
    go_wp2
    go_ret
    exact ⟨rfl, B0.out⟩
  · rw [if_neg hd] at s1
    by_cases hu : left - d - u < 0
    · rw [if_pos hu] at s2
      have hz : szM d u left = -1 := by rw [szM, if_neg hd, if_pos hu]
      rw [hz]
      have S1 := Lib.hid s1
      have S2 := Lib.hid s2
      clear s1 s2 hz
      go_enter Try.func39, Try.ntmps39
      go_wp2_with fail
      refine (S1.out _ h0 h1 m1).mono ?_
      rintro e w1 ⟨rfl, rfl⟩
      go_wp2_with fail
      refine (S2.out _ (by omega) (by omega) m2).mono ?_
      rintro e w2 ⟨rfl, rfl⟩
      go_wp2
      go_ret
      exact ⟨rfl, B0.out⟩
    · rw [if_neg hu] at s2
      have hz : szM d u left = left - d - u := by rw [szM, if_neg hd, if_neg hu]
      rw [hz]
      have S1 := Lib.hid s1
      have S2 := Lib.hid s2
      clear s1 s2 hz
      go_enter Try.func39, Try.ntmps39
      go_wp2_with fail
      refine (S1.out _ h0 h1 m1).mono ?_
      rintro e w1 ⟨rfl, rfl⟩
      go_wp2_with fail
      refine (S2.out _ (by omega) (by omega) m2).mono ?_
      rintro e w2 ⟨rfl, rfl⟩
      go_wp2
      go_ret
      exact ⟨rfl, B0.out⟩

theorem toUpS_nil (a : Option Addr) (cap : Nat) (w : World) :
    Calls Try.prog 81 #[.slice a 0 cap] w fun e w' =>
      e = .returned (.slice (some ⟨w.heap.size, 0, none⟩) 0 0) ∧
      w'.ownsRow w.heap.size 37 4 (.slice (some ⟨w.heap.size, 0, none⟩) 0 0) 0 (vu []) ∧ Below w.heap.size w w' := by
  obtain ⟨i0, hi, hz0, hz1, hz2⟩ := info_parts Try.infoUp
  have hmk : ∀ w : World, (Instr.makeSlice 24 (.int .i64 0) (.int .i64 0)).run Try.prog w = .ok (.slice (some ⟨w.heap.size, 0, none⟩) 0 0) (w.alloc (.cells #[] 37)) := by
    intro w
    have h := run_make (P := Try.prog) w 24 37 i0 _ Try.underlying24 hi hz0 .i64 .i64 (0:Nat) (0:Nat) (by omega) (by omega) (by rw [hz2]; omega) (by omega)
    rw [hz1] at h
    simp only [Int.toNat_natCast] at h
    rw [vu_zero] at h
    exact h
  clear hi hz0 hz1 hz2 i0
  go_enter Try.func81, Try.ntmps81
  go_wp2
  go_loop [4] (fun i => i = .int .i64 0) (fun _ => 0)
  case atStart => rfl
  case round =>
   obtain rfl := hrel
   go_wp2
   go_ret
   exact ⟨rfl, World.ownsRow_lit w #[] 0 (Nat.le_refl _) (by unfold maxLen; omega) rfl, (Below.refl _ _).alloc (Nat.le_refl _) _⟩
theorem toUpS_any (v : Value) (us : List UpM) (w : World) (h : Ups w v us) (hl : us.length ≤ 1048576) :
    Calls Try.prog 81 #[v] w fun e w' =>
      e = .returned (.slice (some ⟨w.heap.size, 0, none⟩) us.length us.length) ∧
      w'.ownsRow w.heap.size 37 4 (.slice (some ⟨w.heap.size, 0, none⟩) us.length us.length) us.length (vu us) ∧ Below w.heap.size w w' := by
  rcases h with ⟨a, cap, rfl, rfl⟩ | ⟨b, off, cap, rfl, h1, h2, h3, h4⟩
  · exact toUpS_nil _ _ w
  · exact toUpS_some _ _ _ _ us w rfl h1 hl h4

/-- toAct: the same act, its lists in new cells -/
def ActMade (w : World) (a : ActM) (e : Ending) (w' : World) : Prop := ∃ v g h, e = .returned v ∧ OwnA w' g h v a ∧ w.heap.size ≤ g ∧ g < h ∧ h < w'.heap.size ∧ Below w.heap.size w w'

set_option maxHeartbeats 800000 in
theorem toAct_any (v : Value) (a : ActM) (w : World) (h : ActIs w v a) (hl : a.dep.length ≤ 1048576) (hu : a.ups.length ≤ 1048576) :
    Calls Try.prog 41 #[v] w (ActMade w a) := by
  obtain ⟨vd, vs, rfl, hd, hs⟩ := h
  have HD := Lib.hid hd
  have HS := Lib.hid hs
  have HL := Lib.hid hl
  have HU := Lib.hid hu
  clear hd hs hl hu
  obtain ⟨r, n, dep, actor, kind, to, bucket, mask, gr, gn, ups⟩ := a
  have B0 := Lib.hid ((((Below.refl w.heap.size w).alloc (Nat.le_refl _) (.cells #[.int .i64 r, .int .i64 n, vd, .int .i64 actor, .int .i64 kind, .int .i64 to, .int .i64 bucket, .int .i64 mask, .int .i64 gr, .int .i64 gn, vs] 53)).alloc (by simp) (.cells #[.int .i64 0, .int .i64 0, .slice none 0 0, .int .i64 0, .int .i64 0, .int .i64 0, .int .i64 0, .int .i64 0, .int .i64 0, .int .i64 0, .slice none 0 0] 26)).alloc (by simp; omega) (.cells #[.int .i64 r, .int .i64 n, .slice none 0 0, .int .i64 0, .int .i64 0, .int .i64 0, .int .i64 0, .int .i64 0, .int .i64 0, .int .i64 0, .slice none 0 0] 26))
  have K1 := Lib.hid (((Blk.new w #[.int .i64 r, .int .i64 n, vd, .int .i64 actor, .int .i64 kind, .int .i64 to, .int .i64 bucket, .int .i64 mask, .int .i64 gr, .int .i64 gn, vs] 53).alloc (.cells #[.int .i64 0, .int .i64 0, .slice none 0 0, .int .i64 0, .int .i64 0, .int .i64 0, .int .i64 0, .int .i64 0, .int .i64 0, .int .i64 0, .slice none 0 0] 26)).alloc (.cells #[.int .i64 r, .int .i64 n, .slice none 0 0, .int .i64 0, .int .i64 0, .int .i64 0, .int .i64 0, .int .i64 0, .int .i64 0, .int .i64 0, .slice none 0 0] 26))
  have K2 := Lib.hid ((Blk.new (w.alloc (.cells #[.int .i64 r, .int .i64 n, vd, .int .i64 actor, .int .i64 kind, .int .i64 to, .int .i64 bucket, .int .i64 mask, .int .i64 gr, .int .i64 gn, vs] 53)) #[.int .i64 0, .int .i64 0, .slice none 0 0, .int .i64 0, .int .i64 0, .int .i64 0, .int .i64 0, .int .i64 0, .int .i64 0, .int .i64 0, .slice none 0 0] 26).alloc (.cells #[.int .i64 r, .int .i64 n, .slice none 0 0, .int .i64 0, .int .i64 0, .int .i64 0, .int .i64 0, .int .i64 0, .int .i64 0, .int .i64 0, .slice none 0 0] 26))
  have K3 := Lib.hid (Blk.new ((w.alloc (.cells #[.int .i64 r, .int .i64 n, vd, .int .i64 actor, .int .i64 kind, .int .i64 to, .int .i64 bucket, .int .i64 mask, .int .i64 gr, .int .i64 gn, vs] 53)).alloc (.cells #[.int .i64 0, .int .i64 0, .slice none 0 0, .int .i64 0, .int .i64 0, .int .i64 0, .int .i64 0, .int .i64 0, .int .i64 0, .int .i64 0, .slice none 0 0] 26)) #[.int .i64 r, .int .i64 n, .slice none 0 0, .int .i64 0, .int .i64 0, .int .i64 0, .int .i64 0, .int .i64 0, .int .i64 0, .int .i64 0, .slice none 0 0] 26)
  simp only [World.size_alloc] at K2 K3
  go_enter Try.func41, Try.ntmps41
  go_wp2_with fail
  refine (toIntS_any _ dep _ (HD.out.below (B := 0) B0.out) HL.out).mono ?_
  rintro e w1 ⟨rfl, o1, b1⟩
  have z1 : w.heap.size + 1 + 1 + 1 ≤ w1.heap.size := by have := b1.size; simpa using this
  have M1 := K1.out.below b1 (by simp; omega)
  have M2 := K2.out.below b1 (by simp)
  have M3 := K3.out.below b1 (by simp)
  have z1' := (own_at o1).2.2
  simp only [World.size_alloc] at z1'
  have d1 := own_new rfl o1
  simp only [World.size_alloc] at d1
  have D1 := Lib.hid d1
  clear d1
  have B1 := Lib.hid (B0.out.trans (b1.mono B0.out.size))
  have c1 := M1.cell
  have c3 := M3.cell
  have f3 := M3.free
  have P1 := Lib.hid ((((((((((((((((M1).other (p := ⟨w.heap.size + 1 + 1, 2, none⟩) (by simp; omega) (.slice (some ⟨w.heap.size + 1 + 1 + 1, 0, none⟩) dep.length dep.length))).other (p := ⟨w.heap.size + 1 + 1, 3, none⟩) (by simp; omega) (.int .i64 actor))).other (p := ⟨w.heap.size + 1 + 1, 4, none⟩) (by simp; omega) (.int .i64 kind))).other (p := ⟨w.heap.size + 1 + 1, 5, none⟩) (by simp; omega) (.int .i64 to))).other (p := ⟨w.heap.size + 1 + 1, 6, none⟩) (by simp; omega) (.int .i64 bucket))).other (p := ⟨w.heap.size + 1 + 1, 7, none⟩) (by simp; omega) (.int .i64 mask))).other (p := ⟨w.heap.size + 1 + 1, 8, none⟩) (by simp; omega) (.int .i64 gr))).other (p := ⟨w.heap.size + 1 + 1, 9, none⟩) (by simp; omega) (.int .i64 gn))
  have P2 := Lib.hid ((((((((((((((((M2).other (p := ⟨w.heap.size + 1 + 1, 2, none⟩) (by simp) (.slice (some ⟨w.heap.size + 1 + 1 + 1, 0, none⟩) dep.length dep.length))).other (p := ⟨w.heap.size + 1 + 1, 3, none⟩) (by simp) (.int .i64 actor))).other (p := ⟨w.heap.size + 1 + 1, 4, none⟩) (by simp) (.int .i64 kind))).other (p := ⟨w.heap.size + 1 + 1, 5, none⟩) (by simp) (.int .i64 to))).other (p := ⟨w.heap.size + 1 + 1, 6, none⟩) (by simp) (.int .i64 bucket))).other (p := ⟨w.heap.size + 1 + 1, 7, none⟩) (by simp) (.int .i64 mask))).other (p := ⟨w.heap.size + 1 + 1, 8, none⟩) (by simp) (.int .i64 gr))).other (p := ⟨w.heap.size + 1 + 1, 9, none⟩) (by simp) (.int .i64 gn))
  have P3 := Lib.hid ((((((((((((((((M3).set (j := 2) (by simp) (.slice (some ⟨w.heap.size + 1 + 1 + 1, 0, none⟩) dep.length dep.length))).set (j := 3) (by simp) (.int .i64 actor))).set (j := 4) (by simp) (.int .i64 kind))).set (j := 5) (by simp) (.int .i64 to))).set (j := 6) (by simp) (.int .i64 bucket))).set (j := 7) (by simp) (.int .i64 mask))).set (j := 8) (by simp) (.int .i64 gr))).set (j := 9) (by simp) (.int .i64 gn))
  have BW := Lib.hid ((((((((((((((((B1.out).setCell (p := ⟨w.heap.size + 1 + 1, 2, none⟩) (by simp; omega) (.slice (some ⟨w.heap.size + 1 + 1 + 1, 0, none⟩) dep.length dep.length))).setCell (p := ⟨w.heap.size + 1 + 1, 3, none⟩) (by simp; omega) (.int .i64 actor))).setCell (p := ⟨w.heap.size + 1 + 1, 4, none⟩) (by simp; omega) (.int .i64 kind))).setCell (p := ⟨w.heap.size + 1 + 1, 5, none⟩) (by simp; omega) (.int .i64 to))).setCell (p := ⟨w.heap.size + 1 + 1, 6, none⟩) (by simp; omega) (.int .i64 bucket))).setCell (p := ⟨w.heap.size + 1 + 1, 7, none⟩) (by simp; omega) (.int .i64 mask))).setCell (p := ⟨w.heap.size + 1 + 1, 8, none⟩) (by simp; omega) (.int .i64 gr))).setCell (p := ⟨w.heap.size + 1 + 1, 9, none⟩) (by simp; omega) (.int .i64 gn))
  have DW := Lib.hid (D1.out.other ((((((((grown_set (w := w1) (w.heap.size + 1 + 1) 2 (.slice (some ⟨w.heap.size + 1 + 1 + 1, 0, none⟩) dep.length dep.length)).trans (grown_set (w.heap.size + 1 + 1) 3 (.int .i64 actor))).trans (grown_set (w.heap.size + 1 + 1) 4 (.int .i64 kind))).trans (grown_set (w.heap.size + 1 + 1) 5 (.int .i64 to))).trans (grown_set (w.heap.size + 1 + 1) 6 (.int .i64 bucket))).trans (grown_set (w.heap.size + 1 + 1) 7 (.int .i64 mask))).trans (grown_set (w.heap.size + 1 + 1) 8 (.int .i64 gr))).trans (grown_set (w.heap.size + 1 + 1) 9 (.int .i64 gn))) (fun _ => by simp))
  clear b1 o1 M1 M2 M3 K1 K2 K3
  simp only [World.size_alloc]
  go_wp2_with fail
  refine (toUpS_any _ ups _ (HS.out.below BW.out) HU.out).mono ?_
  rintro e w2 ⟨rfl, o2, b2⟩
  clear c1 c3 f3
  have s2 := ownU_new rfl o2
  have s3 := (own_at o2).2.2
  simp only [World.size_setCell] at s2 s3
  have S2 := Lib.hid s2
  have S3 := Lib.hid s3
  clear s2 s3
  have D2 := Lib.hid (DW.out.below b2)
  have Q1 := P1.out.below b2 (by simp; omega)
  have Q2 := P2.out.below b2 (by simp; omega)
  have Q3 := P3.out.below b2 (by simp; omega)
  have z2 : w.heap.size + 1 + 1 + 1 ≤ w2.heap.size := by have := b2.size; simp at this; omega
  have B2 := Lib.hid (BW.out.trans (b2.mono BW.out.size))
  have c1 := Q1.cell
  have c2 := Q2.cell
  have c3 := Q3.cell
  have f2 := Q2.free
  have f3 := Q3.free
  clear b2 o2 Q1 Q2 Q3 P1 P2 P3 DW BW
  simp only [World.size_setCell]
  go_wp2_with fail
  have g1 := grown_set (w := w2) (w.heap.size + 1 + 1) 10 (.slice (some ⟨w1.heap.size, 0, none⟩) ups.length ups.length)
  have g2 : (w2.setCell ⟨w.heap.size + 1 + 1, 10, none⟩ (.slice (some ⟨w1.heap.size, 0, none⟩) ups.length ups.length)).grownBy _ (some (w.heap.size + 1)) := (((((((((((grown_set (w.heap.size + 1) 0 (.int .i64 r)).trans (grown_set (w.heap.size + 1) 1 (.int .i64 n))).trans (grown_set (w.heap.size + 1) 2 (.slice (some ⟨w.heap.size + 1 + 1 + 1, 0, none⟩) dep.length dep.length))).trans (grown_set (w.heap.size + 1) 3 (.int .i64 actor))).trans (grown_set (w.heap.size + 1) 4 (.int .i64 kind))).trans (grown_set (w.heap.size + 1) 5 (.int .i64 to))).trans (grown_set (w.heap.size + 1) 6 (.int .i64 bucket))).trans (grown_set (w.heap.size + 1) 7 (.int .i64 mask))).trans (grown_set (w.heap.size + 1) 8 (.int .i64 gr))).trans (grown_set (w.heap.size + 1) 9 (.int .i64 gn))).trans (grown_set (w.heap.size + 1) 10 (.slice (some ⟨w1.heap.size, 0, none⟩) ups.length ups.length)))
  refine bodyPost_ret (v := .agg #[.int .i64 r, .int .i64 n, .slice (some ⟨w.heap.size + 1 + 1 + 1, 0, none⟩) dep.length dep.length, .int .i64 actor, .int .i64 kind, .int .i64 to, .int .i64 bucket, .int .i64 mask, .int .i64 gr, .int .i64 gn, .slice (some ⟨w1.heap.size, 0, none⟩) ups.length ups.length]) (by simp [results, Try.results41, go_sem, c2]) rfl ⟨_, w.heap.size + 1 + 1 + 1, w1.heap.size, rfl, ⟨_, _, rfl, (D2.out.other g1 (fun _ => by omega)).other g2 (fun _ => by omega), (S2.out.other g1 (fun _ => by omega)).other g2 (fun _ => by omega)⟩, by omega, ?_, ?_, ?_⟩
  · omega
  · simp only [World.size_setCell]
    exact S3.out
  · exact (B2.out.grown g1 B2.out.size (fun k hk => by cases hk; omega)).grown g2 (by have := g1.size; have := B2.out.size; omega) (fun k hk => by cases hk; omega)
end Go.Proofs.Ytcgncaiehdcooaa
