/- The program's kinds of acts: their act and fits; knows. -/
import Derived.Test.YtcgncaiehdcooaaBB
import Derived.BigRegion
import Derived.Deep.DeepCutAuto
namespace Go.Proofs.Ytcgncaiehdcooaa
open Go.RowKit
set_option linter.unusedVariables false

set_option maxHeartbeats 1600000 in
theorem knows_any (r n actor p q : Int) (vd : Value) (dep : List Int) (w : World) (hd : Ints w vd dep) :
    Calls Try.prog 55 #[.agg #[.int .i64 r, .int .i64 n, vd, .int .i64 actor], .int .i64 p, .int .i64 q] w fun e w' =>
      e = .returned (.bool (inB p 0 ((dep.length : Int) - 1) && inB q 1 (dep.getD p.toNat 0))) ∧ Below w.heap.size w w' := by
  have hm := ints_max hd
  obtain ⟨a0, c0, hvd⟩ := ints_len hd
  have bb := Lib.hid ((Below.refl w.heap.size w).alloc (Nat.le_refl _) (.cells #[.int .i64 r, .int .i64 n, vd, .int .i64 actor] 67))
  cases h1 : inB p 0 ((dep.length : Int) - 1)
  · subst hvd
    clear hd
    generalize dep.length = len at *
    generalize dep.getD p.toNat 0 = x at *
    have e1 : IntKind.i64.wrap ((len : Int) - 1) = (len : Int) - 1 := IntWalk.i64_in _ (by omega)
    go_enter Try.func55, Try.ntmps55
    go_wp2_with fail
    refine (isIn_any _ _ _ _).mono ?_
    rintro e w2 ⟨rfl, rfl⟩
    go_wp2_with fail
    go_ret
    exact ⟨rfl, bb.out⟩
  · have hp : 0 ≤ p ∧ p < dep.length := by
      simp only [inB, Bool.and_eq_true, decide_eq_true_eq] at h1; omega
    obtain ⟨k, rfl⟩ := Int.eq_ofNat_of_zero_le hp.1
    have hk : k < dep.length := by omega
    clear hp hvd a0 c0
    rcases hd with ⟨x, c, rfl, rfl⟩ | ⟨b, off, c, rfl, hb, hl, hm', hc⟩
    · simp at hk
    · have hck := hc k hk
      clear hc
      simp only [Int.toNat_natCast]
      generalize dep.length = len at *
      generalize dep.getD k 0 = x at *
      go_enter Try.func55, Try.ntmps55
      go_wp2_with fail
      refine (isIn_any _ _ _ _).mono ?_
      rintro e w2 ⟨rfl, rfl⟩
      go_wp2_with fail
      refine (isIn_any _ _ _ _).mono ?_
      rintro e w2 ⟨rfl, rfl⟩
      go_wp2_with fail
      go_ret
      exact ⟨rfl, bb.out⟩

set_option maxHeartbeats 800000 in
theorem grantFits_any (r n actor dst bucket mask : Int) (vd : Value) (w : World) :
    Calls Try.prog 154 #[.agg #[.int .i64 r, .int .i64 n, vd, .int .i64 actor, .int .i64 dst, .int .i64 bucket, .int .i64 mask]] w fun e w' => e = .returned (.bool (inB dst 0 5 && (inB bucket 0 2 && inB mask 0 15))) ∧ Below w.heap.size w w' := by
  have bb := Lib.hid ((Below.refl w.heap.size w).alloc (Nat.le_refl _) (.cells #[.int .i64 r, .int .i64 n, vd, .int .i64 actor, .int .i64 dst, .int .i64 bucket, .int .i64 mask] 138))
  cases h1 : inB dst 0 5
  · go_enter Try.func154, Try.ntmps154
    go_wp2_with fail
    refine (isIn_any _ _ _ _).mono ?_
    rintro e w2 ⟨rfl, rfl⟩
    go_wp2_with fail
    go_ret
    exact ⟨rfl, bb.out⟩
  · go_enter Try.func154, Try.ntmps154
    go_wp2_with fail
    refine (isIn_any _ _ _ _).mono ?_
    rintro e w2 ⟨rfl, rfl⟩
    go_wp2_with fail
    refine (maskFits_any _ _ _).mono ?_
    rintro e w2 ⟨rfl, rfl⟩
    go_wp2_with fail
    go_ret
    exact ⟨rfl, bb.out⟩

set_option maxHeartbeats 800000 in
theorem ceilingFits_any (r n actor bucket mask : Int) (vd : Value) (w : World) :
    Calls Try.prog 160 #[.agg #[.int .i64 r, .int .i64 n, vd, .int .i64 actor, .int .i64 bucket, .int .i64 mask]] w fun e w' => e = .returned (.bool (inB bucket 0 2 && inB mask 0 15)) ∧ Below w.heap.size w w' := by
  have bb := Lib.hid ((Below.refl w.heap.size w).alloc (Nat.le_refl _) (.cells #[.int .i64 r, .int .i64 n, vd, .int .i64 actor, .int .i64 bucket, .int .i64 mask] 142))
  · go_enter Try.func160, Try.ntmps160
    go_wp2_with fail
    refine (maskFits_any _ _ _).mono ?_
    rintro e w2 ⟨rfl, rfl⟩
    go_wp2_with fail
    go_ret
    exact ⟨rfl, bb.out⟩

set_option maxHeartbeats 800000 in
theorem revokeFits_any (r n actor gr gn : Int) (vd : Value) (dep : List Int) (w : World) (hd : Ints w vd dep) :
    Calls Try.prog 158 #[.agg #[.int .i64 r, .int .i64 n, vd, .int .i64 actor, .int .i64 gr, .int .i64 gn]] w fun e w' => e = .returned (.bool (inB gr 0 ((dep.length : Int) - 1) && inB gn 1 (dep.getD gr.toNat 0))) ∧ Below w.heap.size w w' := by
  have bb := Lib.hid ((Below.refl w.heap.size w).alloc (Nat.le_refl _) (.cells #[.int .i64 r, .int .i64 n, vd, .int .i64 actor, .int .i64 gr, .int .i64 gn] 140))
  have HD := Lib.hid hd
  obtain ⟨a0, c0, hvd⟩ := ints_len hd
  clear hd
  subst hvd
  go_enter Try.func158, Try.ntmps158
  go_wp2_with fail
  refine (knows_any r n actor gr gn _ dep _ (HD.out.below (B := 0) bb.out)).mono ?_
  rintro e w2 ⟨rfl, b2⟩
  have B2 := Lib.hid (bb.out.trans (b2.mono bb.out.size))
  clear b2
  go_wp2_with fail
  go_ret
  exact ⟨rfl, B2.out⟩

set_option maxHeartbeats 800000 in
theorem transFits_any (r n actor : Int) (vd vs : Value) (ups : List UpM) (w : World) (hs : Ups w vs ups) :
    Calls Try.prog 162 #[.agg #[.int .i64 r, .int .i64 n, vd, .int .i64 actor, vs]] w fun e w' => e = .returned (.bool (okUps ups)) ∧ Below w.heap.size w w' := by
  have bb := Lib.hid ((Below.refl w.heap.size w).alloc (Nat.le_refl _) (.cells #[.int .i64 r, .int .i64 n, vd, .int .i64 actor, vs] 144))
  have HS := Lib.hid hs
  clear hs
  go_enter Try.func162, Try.ntmps162
  go_wp2_with fail
  refine (upsFit_any _ ups _ (HS.out.below bb.out)).mono ?_
  rintro e w2 ⟨rfl, b2⟩
  have B2 := Lib.hid (bb.out.trans (b2.mono bb.out.size))
  clear b2
  go_wp2_with fail
  go_ret
  exact ⟨rfl, B2.out⟩

set_option maxHeartbeats 1600000 in
theorem ceilingAct_any (r n actor bucket mask : Int) (a c : Nat) (x : Option Addr) (w : World) :
    Calls Try.prog 159 #[.agg #[.int .i64 r, .int .i64 n, .slice x a c, .int .i64 actor, .int .i64 bucket, .int .i64 mask]] w fun e w' => e = .returned (.agg #[.int .i64 r, .int .i64 n, .slice x a c, .int .i64 actor, .int .i64 3, .int .i64 0, .int .i64 bucket, .int .i64 mask, .int .i64 0, .int .i64 0, .slice none 0 0]) ∧ Below w.heap.size w w' := by
  have bb := Lib.hid (((Below.refl w.heap.size w).alloc (Nat.le_refl _) (.cells #[.int .i64 r, .int .i64 n, .slice x a c, .int .i64 actor, .int .i64 bucket, .int .i64 mask] 142)).alloc (by simp) (.cells #[.int .i64 0, .int .i64 0, .slice none 0 0, .int .i64 0, .int .i64 0, .int .i64 0, .int .i64 0, .int .i64 0, .int .i64 0, .int .i64 0, .slice none 0 0] 26))
  have k0 := ((Blk.new w #[.int .i64 r, .int .i64 n, .slice x a c, .int .i64 actor, .int .i64 bucket, .int .i64 mask] 142).alloc (.cells #[.int .i64 0, .int .i64 0, .slice none 0 0, .int .i64 0, .int .i64 0, .int .i64 0, .int .i64 0, .int .i64 0, .int .i64 0, .int .i64 0, .slice none 0 0] 26))
  have k1 := Blk.new (w.alloc (.cells #[.int .i64 r, .int .i64 n, .slice x a c, .int .i64 actor, .int .i64 bucket, .int .i64 mask] 142)) #[.int .i64 0, .int .i64 0, .slice none 0 0, .int .i64 0, .int .i64 0, .int .i64 0, .int .i64 0, .int .i64 0, .int .i64 0, .int .i64 0, .slice none 0 0] 26
  simp only [World.size_alloc] at k1
  have K0 := Lib.hid k0
  have K1 := Lib.hid k1
  clear k0 k1
  go_enter Try.func159, Try.ntmps159
  go_wp2_with fail
  refine (actOf_any r n actor 3 a c x _).mono ?_
  rintro e w2 ⟨rfl, b2⟩
  have B2 := Lib.hid (bb.out.trans (b2.mono bb.out.size))
  have k2 := Lib.hid (Blk.new w2 #[.int .i64 r, .int .i64 n, .slice x a c, .int .i64 actor, .int .i64 3, .int .i64 0, .int .i64 0, .int .i64 0, .int .i64 0, .int .i64 0, .slice none 0 0] 26)
  have B3 := Lib.hid (B2.out.alloc B2.out.size (.cells #[.int .i64 r, .int .i64 n, .slice x a c, .int .i64 actor, .int .i64 3, .int .i64 0, .int .i64 0, .int .i64 0, .int .i64 0, .int .i64 0, .slice none 0 0] 26))
  have k0 := Lib.hid ((K0.out.below b2 K0.out.lt).alloc (.cells #[.int .i64 r, .int .i64 n, .slice x a c, .int .i64 actor, .int .i64 3, .int .i64 0, .int .i64 0, .int .i64 0, .int .i64 0, .int .i64 0, .slice none 0 0] 26))
  have k1 := Lib.hid ((K1.out.below b2 K1.out.lt).alloc (.cells #[.int .i64 r, .int .i64 n, .slice x a c, .int .i64 actor, .int .i64 3, .int .i64 0, .int .i64 0, .int .i64 0, .int .i64 0, .int .i64 0, .slice none 0 0] 26))
  have l1 := (K1.out.below b2 K1.out.lt).lt
  clear b2 K0 K1
  go_wp2_with fail
  obtain ⟨W3, hW3⟩ : ∃ W3, W3 = (w2.alloc (.cells #[.int .i64 r, .int .i64 n, .slice x a c, .int .i64 actor, .int .i64 3, .int .i64 0, .int .i64 0, .int .i64 0, .int .i64 0, .int .i64 0, .slice none 0 0] 26)) := ⟨_, rfl⟩
  rw [← hW3] at k0 k1 k2 B3 ⊢
  clear hW3
  have a0 : W3.cell? ⟨w.heap.size, 4, none⟩ = some (.int .i64 bucket) := k0.out.cell 4
  have d0 : W3.cell? ⟨w2.heap.size, 6, none⟩ = some (.int .i64 0) := k2.out.cell 6
  have f0 : W3.frozen? ⟨w2.heap.size, 6, none⟩ = false := k2.out.free 6
  have a1 : W3.cell? ⟨w.heap.size, 5, none⟩ = some (.int .i64 mask) := k0.out.cell 5
  have d1 : W3.cell? ⟨w2.heap.size, 7, none⟩ = some (.int .i64 0) := k2.out.cell 7
  have f1 : W3.frozen? ⟨w2.heap.size, 7, none⟩ = false := k2.out.free 7
  go_region
  all_goals
    have c2 := k2.out.cell
    have f2 := k2.out.free
    have c1 := k1.out.cell
    have f1 := k1.out.free
    go_wp2
    refine bodyPost_ret (v := .agg #[.int .i64 r, .int .i64 n, .slice x a c, .int .i64 actor, .int .i64 3, .int .i64 0, .int .i64 bucket, .int .i64 mask, .int .i64 0, .int .i64 0, .slice none 0 0]) (by simp [results, Try.results159, go_sem, c1]) rfl ⟨rfl, ?_⟩
    repeat (first | with_reducible refine Below.setCell ?_ ?_ _ | with_reducible refine Below.drew ?_)
    all_goals (first | exact B3.out | (simp; done) | (simp; omega))

set_option maxHeartbeats 1600000 in
theorem grantAct_any (r n actor dst bucket mask : Int) (a c : Nat) (x : Option Addr) (w : World) :
    Calls Try.prog 153 #[.agg #[.int .i64 r, .int .i64 n, .slice x a c, .int .i64 actor, .int .i64 dst, .int .i64 bucket, .int .i64 mask]] w fun e w' => e = .returned (.agg #[.int .i64 r, .int .i64 n, .slice x a c, .int .i64 actor, .int .i64 1, .int .i64 dst, .int .i64 bucket, .int .i64 mask, .int .i64 0, .int .i64 0, .slice none 0 0]) ∧ Below w.heap.size w w' := by
  have bb := Lib.hid (((Below.refl w.heap.size w).alloc (Nat.le_refl _) (.cells #[.int .i64 r, .int .i64 n, .slice x a c, .int .i64 actor, .int .i64 dst, .int .i64 bucket, .int .i64 mask] 138)).alloc (by simp) (.cells #[.int .i64 0, .int .i64 0, .slice none 0 0, .int .i64 0, .int .i64 0, .int .i64 0, .int .i64 0, .int .i64 0, .int .i64 0, .int .i64 0, .slice none 0 0] 26))
  have k0 := ((Blk.new w #[.int .i64 r, .int .i64 n, .slice x a c, .int .i64 actor, .int .i64 dst, .int .i64 bucket, .int .i64 mask] 138).alloc (.cells #[.int .i64 0, .int .i64 0, .slice none 0 0, .int .i64 0, .int .i64 0, .int .i64 0, .int .i64 0, .int .i64 0, .int .i64 0, .int .i64 0, .slice none 0 0] 26))
  have k1 := Blk.new (w.alloc (.cells #[.int .i64 r, .int .i64 n, .slice x a c, .int .i64 actor, .int .i64 dst, .int .i64 bucket, .int .i64 mask] 138)) #[.int .i64 0, .int .i64 0, .slice none 0 0, .int .i64 0, .int .i64 0, .int .i64 0, .int .i64 0, .int .i64 0, .int .i64 0, .int .i64 0, .slice none 0 0] 26
  simp only [World.size_alloc] at k1
  have K0 := Lib.hid k0
  have K1 := Lib.hid k1
  clear k0 k1
  go_enter Try.func153, Try.ntmps153
  go_wp2_with fail
  refine (actOf_any r n actor 1 a c x _).mono ?_
  rintro e w2 ⟨rfl, b2⟩
  have B2 := Lib.hid (bb.out.trans (b2.mono bb.out.size))
  have k2 := Lib.hid (Blk.new w2 #[.int .i64 r, .int .i64 n, .slice x a c, .int .i64 actor, .int .i64 1, .int .i64 0, .int .i64 0, .int .i64 0, .int .i64 0, .int .i64 0, .slice none 0 0] 26)
  have B3 := Lib.hid (B2.out.alloc B2.out.size (.cells #[.int .i64 r, .int .i64 n, .slice x a c, .int .i64 actor, .int .i64 1, .int .i64 0, .int .i64 0, .int .i64 0, .int .i64 0, .int .i64 0, .slice none 0 0] 26))
  have k0 := Lib.hid ((K0.out.below b2 K0.out.lt).alloc (.cells #[.int .i64 r, .int .i64 n, .slice x a c, .int .i64 actor, .int .i64 1, .int .i64 0, .int .i64 0, .int .i64 0, .int .i64 0, .int .i64 0, .slice none 0 0] 26))
  have k1 := Lib.hid ((K1.out.below b2 K1.out.lt).alloc (.cells #[.int .i64 r, .int .i64 n, .slice x a c, .int .i64 actor, .int .i64 1, .int .i64 0, .int .i64 0, .int .i64 0, .int .i64 0, .int .i64 0, .slice none 0 0] 26))
  have l1 := (K1.out.below b2 K1.out.lt).lt
  clear b2 K0 K1
  go_wp2_with fail
  obtain ⟨W3, hW3⟩ : ∃ W3, W3 = (w2.alloc (.cells #[.int .i64 r, .int .i64 n, .slice x a c, .int .i64 actor, .int .i64 1, .int .i64 0, .int .i64 0, .int .i64 0, .int .i64 0, .int .i64 0, .slice none 0 0] 26)) := ⟨_, rfl⟩
  rw [← hW3] at k0 k1 k2 B3 ⊢
  clear hW3
  have a0 : W3.cell? ⟨w.heap.size, 4, none⟩ = some (.int .i64 dst) := k0.out.cell 4
  have d0 : W3.cell? ⟨w2.heap.size, 5, none⟩ = some (.int .i64 0) := k2.out.cell 5
  have f0 : W3.frozen? ⟨w2.heap.size, 5, none⟩ = false := k2.out.free 5
  have a1 : W3.cell? ⟨w.heap.size, 5, none⟩ = some (.int .i64 bucket) := k0.out.cell 5
  have d1 : W3.cell? ⟨w2.heap.size, 6, none⟩ = some (.int .i64 0) := k2.out.cell 6
  have f1 : W3.frozen? ⟨w2.heap.size, 6, none⟩ = false := k2.out.free 6
  have a2 : W3.cell? ⟨w.heap.size, 6, none⟩ = some (.int .i64 mask) := k0.out.cell 6
  have d2 : W3.cell? ⟨w2.heap.size, 7, none⟩ = some (.int .i64 0) := k2.out.cell 7
  have f2 : W3.frozen? ⟨w2.heap.size, 7, none⟩ = false := k2.out.free 7
  go_region
  all_goals
    have c2 := k2.out.cell
    have f2 := k2.out.free
    have c1 := k1.out.cell
    have f1 := k1.out.free
    go_wp2
    refine bodyPost_ret (v := .agg #[.int .i64 r, .int .i64 n, .slice x a c, .int .i64 actor, .int .i64 1, .int .i64 dst, .int .i64 bucket, .int .i64 mask, .int .i64 0, .int .i64 0, .slice none 0 0]) (by simp [results, Try.results153, go_sem, c1]) rfl ⟨rfl, ?_⟩
    repeat (first | with_reducible refine Below.setCell ?_ ?_ _ | with_reducible refine Below.drew ?_)
    all_goals (first | exact B3.out | (simp; done) | (simp; omega))

set_option maxHeartbeats 1600000 in
theorem revokeAct_any (r n actor gr gn : Int) (a c : Nat) (x : Option Addr) (w : World) :
    Calls Try.prog 157 #[.agg #[.int .i64 r, .int .i64 n, .slice x a c, .int .i64 actor, .int .i64 gr, .int .i64 gn]] w fun e w' => e = .returned (.agg #[.int .i64 r, .int .i64 n, .slice x a c, .int .i64 actor, .int .i64 2, .int .i64 0, .int .i64 0, .int .i64 0, .int .i64 gr, .int .i64 gn, .slice none 0 0]) ∧ Below w.heap.size w w' := by
  have bb := Lib.hid (((Below.refl w.heap.size w).alloc (Nat.le_refl _) (.cells #[.int .i64 r, .int .i64 n, .slice x a c, .int .i64 actor, .int .i64 gr, .int .i64 gn] 140)).alloc (by simp) (.cells #[.int .i64 0, .int .i64 0, .slice none 0 0, .int .i64 0, .int .i64 0, .int .i64 0, .int .i64 0, .int .i64 0, .int .i64 0, .int .i64 0, .slice none 0 0] 26))
  have k0 := ((Blk.new w #[.int .i64 r, .int .i64 n, .slice x a c, .int .i64 actor, .int .i64 gr, .int .i64 gn] 140).alloc (.cells #[.int .i64 0, .int .i64 0, .slice none 0 0, .int .i64 0, .int .i64 0, .int .i64 0, .int .i64 0, .int .i64 0, .int .i64 0, .int .i64 0, .slice none 0 0] 26))
  have k1 := Blk.new (w.alloc (.cells #[.int .i64 r, .int .i64 n, .slice x a c, .int .i64 actor, .int .i64 gr, .int .i64 gn] 140)) #[.int .i64 0, .int .i64 0, .slice none 0 0, .int .i64 0, .int .i64 0, .int .i64 0, .int .i64 0, .int .i64 0, .int .i64 0, .int .i64 0, .slice none 0 0] 26
  simp only [World.size_alloc] at k1
  have K0 := Lib.hid k0
  have K1 := Lib.hid k1
  clear k0 k1
  go_enter Try.func157, Try.ntmps157
  go_wp2_with fail
  refine (actOf_any r n actor 2 a c x _).mono ?_
  rintro e w2 ⟨rfl, b2⟩
  have B2 := Lib.hid (bb.out.trans (b2.mono bb.out.size))
  have k2 := Lib.hid (Blk.new w2 #[.int .i64 r, .int .i64 n, .slice x a c, .int .i64 actor, .int .i64 2, .int .i64 0, .int .i64 0, .int .i64 0, .int .i64 0, .int .i64 0, .slice none 0 0] 26)
  have B3 := Lib.hid (B2.out.alloc B2.out.size (.cells #[.int .i64 r, .int .i64 n, .slice x a c, .int .i64 actor, .int .i64 2, .int .i64 0, .int .i64 0, .int .i64 0, .int .i64 0, .int .i64 0, .slice none 0 0] 26))
  have k0 := Lib.hid ((K0.out.below b2 K0.out.lt).alloc (.cells #[.int .i64 r, .int .i64 n, .slice x a c, .int .i64 actor, .int .i64 2, .int .i64 0, .int .i64 0, .int .i64 0, .int .i64 0, .int .i64 0, .slice none 0 0] 26))
  have k1 := Lib.hid ((K1.out.below b2 K1.out.lt).alloc (.cells #[.int .i64 r, .int .i64 n, .slice x a c, .int .i64 actor, .int .i64 2, .int .i64 0, .int .i64 0, .int .i64 0, .int .i64 0, .int .i64 0, .slice none 0 0] 26))
  have l1 := (K1.out.below b2 K1.out.lt).lt
  clear b2 K0 K1
  go_wp2_with fail
  obtain ⟨W3, hW3⟩ : ∃ W3, W3 = (w2.alloc (.cells #[.int .i64 r, .int .i64 n, .slice x a c, .int .i64 actor, .int .i64 2, .int .i64 0, .int .i64 0, .int .i64 0, .int .i64 0, .int .i64 0, .slice none 0 0] 26)) := ⟨_, rfl⟩
  rw [← hW3] at k0 k1 k2 B3 ⊢
  clear hW3
  have a0 : W3.cell? ⟨w.heap.size, 4, none⟩ = some (.int .i64 gr) := k0.out.cell 4
  have d0 : W3.cell? ⟨w2.heap.size, 8, none⟩ = some (.int .i64 0) := k2.out.cell 8
  have f0 : W3.frozen? ⟨w2.heap.size, 8, none⟩ = false := k2.out.free 8
  have a1 : W3.cell? ⟨w.heap.size, 5, none⟩ = some (.int .i64 gn) := k0.out.cell 5
  have d1 : W3.cell? ⟨w2.heap.size, 9, none⟩ = some (.int .i64 0) := k2.out.cell 9
  have f1 : W3.frozen? ⟨w2.heap.size, 9, none⟩ = false := k2.out.free 9
  go_region
  all_goals
    have c2 := k2.out.cell
    have f2 := k2.out.free
    have c1 := k1.out.cell
    have f1 := k1.out.free
    go_wp2
    refine bodyPost_ret (v := .agg #[.int .i64 r, .int .i64 n, .slice x a c, .int .i64 actor, .int .i64 2, .int .i64 0, .int .i64 0, .int .i64 0, .int .i64 gr, .int .i64 gn, .slice none 0 0]) (by simp [results, Try.results157, go_sem, c1]) rfl ⟨rfl, ?_⟩
    repeat (first | with_reducible refine Below.setCell ?_ ?_ _ | with_reducible refine Below.drew ?_)
    all_goals (first | exact B3.out | (simp; done) | (simp; omega))

set_option maxHeartbeats 1600000 in
theorem transactionAct_any (r n actor : Int) (p q : Nat) (y : Option Addr) (a c : Nat) (x : Option Addr) (w : World) :
    Calls Try.prog 161 #[.agg #[.int .i64 r, .int .i64 n, .slice x a c, .int .i64 actor, .slice y p q]] w fun e w' => e = .returned (.agg #[.int .i64 r, .int .i64 n, .slice x a c, .int .i64 actor, .int .i64 4, .int .i64 0, .int .i64 0, .int .i64 0, .int .i64 0, .int .i64 0, .slice y p q]) ∧ Below w.heap.size w w' := by
  have bb := Lib.hid (((Below.refl w.heap.size w).alloc (Nat.le_refl _) (.cells #[.int .i64 r, .int .i64 n, .slice x a c, .int .i64 actor, .slice y p q] 144)).alloc (by simp) (.cells #[.int .i64 0, .int .i64 0, .slice none 0 0, .int .i64 0, .int .i64 0, .int .i64 0, .int .i64 0, .int .i64 0, .int .i64 0, .int .i64 0, .slice none 0 0] 26))
  have k0 := ((Blk.new w #[.int .i64 r, .int .i64 n, .slice x a c, .int .i64 actor, .slice y p q] 144).alloc (.cells #[.int .i64 0, .int .i64 0, .slice none 0 0, .int .i64 0, .int .i64 0, .int .i64 0, .int .i64 0, .int .i64 0, .int .i64 0, .int .i64 0, .slice none 0 0] 26))
  have k1 := Blk.new (w.alloc (.cells #[.int .i64 r, .int .i64 n, .slice x a c, .int .i64 actor, .slice y p q] 144)) #[.int .i64 0, .int .i64 0, .slice none 0 0, .int .i64 0, .int .i64 0, .int .i64 0, .int .i64 0, .int .i64 0, .int .i64 0, .int .i64 0, .slice none 0 0] 26
  simp only [World.size_alloc] at k1
  have K0 := Lib.hid k0
  have K1 := Lib.hid k1
  clear k0 k1
  go_enter Try.func161, Try.ntmps161
  go_wp2_with fail
  refine (actOf_any r n actor 4 a c x _).mono ?_
  rintro e w2 ⟨rfl, b2⟩
  have B2 := Lib.hid (bb.out.trans (b2.mono bb.out.size))
  have k2 := Lib.hid (Blk.new w2 #[.int .i64 r, .int .i64 n, .slice x a c, .int .i64 actor, .int .i64 4, .int .i64 0, .int .i64 0, .int .i64 0, .int .i64 0, .int .i64 0, .slice none 0 0] 26)
  have B3 := Lib.hid (B2.out.alloc B2.out.size (.cells #[.int .i64 r, .int .i64 n, .slice x a c, .int .i64 actor, .int .i64 4, .int .i64 0, .int .i64 0, .int .i64 0, .int .i64 0, .int .i64 0, .slice none 0 0] 26))
  have k0 := Lib.hid ((K0.out.below b2 K0.out.lt).alloc (.cells #[.int .i64 r, .int .i64 n, .slice x a c, .int .i64 actor, .int .i64 4, .int .i64 0, .int .i64 0, .int .i64 0, .int .i64 0, .int .i64 0, .slice none 0 0] 26))
  have k1 := Lib.hid ((K1.out.below b2 K1.out.lt).alloc (.cells #[.int .i64 r, .int .i64 n, .slice x a c, .int .i64 actor, .int .i64 4, .int .i64 0, .int .i64 0, .int .i64 0, .int .i64 0, .int .i64 0, .slice none 0 0] 26))
  have l1 := (K1.out.below b2 K1.out.lt).lt
  clear b2 K0 K1
  go_upto_region 2 with (fail)
  obtain ⟨W3, hW3⟩ : ∃ W3, W3 = (w2.alloc (.cells #[.int .i64 r, .int .i64 n, .slice x a c, .int .i64 actor, .int .i64 4, .int .i64 0, .int .i64 0, .int .i64 0, .int .i64 0, .int .i64 0, .slice none 0 0] 26)) := ⟨_, rfl⟩
  rw [← hW3] at k0 k1 k2 B3 ⊢
  clear hW3

  have a0 : W3.cell? ⟨w.heap.size, 4, none⟩ = some (.slice y p q) := k0.out.cell 4
  have d0 := k2.out.cell
  have g0 := k2.out.free
  have c1 := k1.out.cell
  have f1 := k1.out.free
  go_wp2
  refine bodyPost_ret (v := .agg #[.int .i64 r, .int .i64 n, .slice x a c, .int .i64 actor, .int .i64 4, .int .i64 0, .int .i64 0, .int .i64 0, .int .i64 0, .int .i64 0, .slice y p q]) (by simp [results, Try.results161, go_sem, c1]) rfl ⟨rfl, ?_⟩
  repeat (first | with_reducible refine Below.setCell ?_ ?_ _ | with_reducible refine Below.alloc ?_ ?_ _)
  all_goals (first | exact B3.out | (simp; done) | (simp; omega))
end Go.Proofs.Ytcgncaiehdcooaa
