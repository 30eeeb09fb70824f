/- The program's ActOk. -/
import Derived.Test.YtghgiefciijoeaaGreatDoorBF
import Derived.Deep.RegionWith

namespace Go.Proofs.YtghgiefciijoeaaGreatDoor
open Go.RowKit
set_option linter.unusedVariables false
def backM (a : ActM) : ActM :=
 if a.kind = 1 then ⟨a.r, a.n, a.dep, a.actor, 1, a.to, a.bucket, a.mask, 0, 0, []⟩
 else if a.kind = 2 then ⟨a.r, a.n, a.dep, a.actor, 2, 0, 0, 0, a.gr, a.gn, []⟩
 else if a.kind = 3 then ⟨a.r, a.n, a.dep, a.actor, 3, 0, a.bucket, a.mask, 0, 0, []⟩
 else ⟨a.r, a.n, a.dep, a.actor, 4, 0, 0, 0, 0, 0, a.ups⟩
def fitsM (a : ActM) : Bool :=
 if a.kind = 1 then inB a.to 0 5 && (inB a.bucket 0 2 && inB a.mask 0 15)
 else if a.kind = 2 then inB a.gr 0 ((a.dep.length : Int) - 1) && inB a.gn 1 (a.dep.getD a.gr.toNat 0)
 else if a.kind = 3 then inB a.bucket 0 2 && inB a.mask 0 15
 else okUps a.ups
theorem actOk_eq (a : ActM) (m : Int) (hk : 1 ≤ a.kind ∧ a.kind ≤ 4) : actOkM a m = (standsM a.r a.n a.actor a.dep m && fitsM a && sameM (backM a) a) := by
 obtain ⟨r, n, dep, actor, kind, dst, bucket, mask, gr, gn, ups⟩ := a
 have hl := @okB_len4 dep
 rw [Bool.eq_iff_iff]
 have hcase : kind = 1 ∨ kind = 2 ∨ kind = 3 ∨ kind = 4 := by simp only at hk; omega
 rcases hcase with rfl | rfl | rfl | rfl
 all_goals
  simp only [actOkM, standsM, fitsM, backM, sameM, fieldsM, maskM, inB, Bool.and_eq_true, decide_eq_true_eq, ActM.mk.injEq, List.length_eq_zero_iff, if_true, true_and]
  simp [-List.getD_eq_getElem?_getD]
  clear hk
 ·grind
 ·grind
 ·grind
 ·grind
theorem actOk_kind (a : ActM) (m : Int) (hk : ¬ (1 ≤ a.kind ∧ a.kind ≤ 4)) : actOkM a m = false := by
 have : fieldsM a m = false := by
  unfold fieldsM
  rw [if_neg (by omega), if_neg (by omega), if_neg (by omega), if_neg (by omega)]
 simp [actOkM, this]
theorem grant_stands_is (r n actor dst bucket mask gr gn : Int) (x y : Option Addr) (a c p q : Nat) (w : World) : (method 352 188 (.agg #[.int .i64 r, .int .i64 n, .slice x a c, .int .i64 actor, .int .i64 dst, .int .i64 bucket, .int .i64 mask]) "loop.example/g00717/impl.stands").run Tryz.prog w = .ok (208, .agg #[.int .i64 r, .int .i64 n, .slice x a c, .int .i64 actor]) w := by kernel_rfl
theorem grant_fits_is (r n actor dst bucket mask gr gn : Int) (x y : Option Addr) (a c p q : Nat) (w : World) : (method 352 188 (.agg #[.int .i64 r, .int .i64 n, .slice x a c, .int .i64 actor, .int .i64 dst, .int .i64 bucket, .int .i64 mask]) "loop.example/g00717/impl.fits").run Tryz.prog w = .ok (213, .agg #[.int .i64 r, .int .i64 n, .slice x a c, .int .i64 actor, .int .i64 dst, .int .i64 bucket, .int .i64 mask]) w := by kernel_rfl
theorem grant_act_is (r n actor dst bucket mask gr gn : Int) (x y : Option Addr) (a c p q : Nat) (w : World) : (method 352 188 (.agg #[.int .i64 r, .int .i64 n, .slice x a c, .int .i64 actor, .int .i64 dst, .int .i64 bucket, .int .i64 mask]) "loop.example/g00717/impl.act").run Tryz.prog w = .ok (212, .agg #[.int .i64 r, .int .i64 n, .slice x a c, .int .i64 actor, .int .i64 dst, .int .i64 bucket, .int .i64 mask]) w := by kernel_rfl
set_option maxRecDepth 100000 in
set_option maxHeartbeats 6400000 in
theorem actOk1 (r n actor dst bucket mask gr gn : Int) (x y : Option Addr) (a c p q : Nat) (w : World) (m : Int) (dep : List Int) (ups : List UpM) (hd : Ints w (.slice x a c) dep) (hs : Ups w (.slice y p q) ups)
  (hm : -9223372036854775808 ≤ m ∧ m ≤ 9223372036854775807) :
  Calls Tryz.prog 99 #[.agg #[.int .i64 r, .int .i64 n, .slice x a c, .int .i64 actor, .int .i64 1, .int .i64 dst, .int .i64 bucket, .int .i64 mask, .int .i64 gr, .int .i64 gn, .slice y p q], .int .i64 m] w fun e w' => e = .returned (.bool (standsM r n actor dep m && (inB dst 0 5 && (inB bucket 0 2 && inB mask 0 15)) && sameM ⟨r, n, dep, actor, 1, dst, bucket, mask, 0, 0, []⟩ (⟨r, n, dep, actor, 1, dst, bucket, mask, gr, gn, ups⟩ : ActM))) ∧ Below w.heap.size w w' := by
 have bb := Lib.hid ((Below.refl w.heap.size w).alloc (Nat.le_refl _) (.cells #[.int .i64 r, .int .i64 n, .slice x a c, .int .i64 actor, .int .i64 1, .int .i64 dst, .int .i64 bucket, .int .i64 mask, .int .i64 gr, .int .i64 gn, .slice y p q] 32))
 have k0 := Lib.hid (Blk.new w #[.int .i64 r, .int .i64 n, .slice x a c, .int .i64 actor, .int .i64 1, .int .i64 dst, .int .i64 bucket, .int .i64 mask, .int .i64 gr, .int .i64 gn, .slice y p q] 32)
 have HD := Lib.hid hd
 have HS := Lib.hid hs
 have ST := Lib.hid (fun w h => stands_any r n actor m (.slice x a c) dep w h hm)
 have FI := Lib.hid (fun (w : World) (hd : Ints w (.slice x a c) dep) (hs : Ups w (.slice y p q) ups) => grantFits_any r n actor dst bucket mask (.slice x a c) w)
 have AC := Lib.hid (fun (w : World) => grantAct_any r n actor dst bucket mask a c x w)
 have SA := Lib.hid (fun (w : World) (hd : Ints w (.slice x a c) dep) (hs : Ups w (.slice y p q) ups) => implSame_any (.agg #[.int .i64 r, .int .i64 n, .slice x a c, .int .i64 actor, .int .i64 1, .int .i64 dst, .int .i64 bucket, .int .i64 mask, .int .i64 0, .int .i64 0, .slice none 0 0]) (.agg #[.int .i64 r, .int .i64 n, .slice x a c, .int .i64 actor, .int .i64 1, .int .i64 dst, .int .i64 bucket, .int .i64 mask, .int .i64 gr, .int .i64 gn, .slice y p q]) ⟨r, n, dep, actor, 1, dst, bucket, mask, 0, 0, []⟩ (⟨r, n, dep, actor, 1, dst, bucket, mask, gr, gn, ups⟩ : ActM) w ⟨_, _, rfl, hd, .inl ⟨_, _, rfl, rfl⟩⟩ ⟨_, _, rfl, hd, hs⟩)
 clear hd hs
 have M1 := fun w => grant_stands_is r n actor dst bucket mask gr gn x y a c p q w
 have M2 := fun w => grant_fits_is r n actor dst bucket mask gr gn x y a c p q w
 have M3 := fun w => grant_act_is r n actor dst bucket mask gr gn x y a c p q w
 generalize standsM r n actor dep m = s1 at *
 generalize (inB dst 0 5 && (inB bucket 0 2 && inB mask 0 15)) = s2 at *
 generalize sameM ⟨r, n, dep, actor, 1, dst, bucket, mask, 0, 0, []⟩ (⟨r, n, dep, actor, 1, dst, bucket, mask, gr, gn, ups⟩ : ActM) = s3 at *
 cases s1
 ·go_enter Tryz.func99, Tryz.ntmps99
  go_wp2_with fail
  refine (deedOf1 _ _ _ _ _ _ _ _ _ _ _ _ _ _ _ _ rfl).mono ?_
  rintro e w1 ⟨rfl, b1⟩
  have B1 := Lib.hid (bb.out.trans (b1.mono bb.out.size))
  have K1 := Lib.hid (k0.out.below b1 k0.out.lt)
  have c1 := K1.out.cell
  clear b1
  go_wp2_with fail
  first | (go_region_with (first | (go_at_call 208; refine (ST.out _ (HD.out.below (B := 0) B1.out.drew)).mono ?_; rintro e w2 ⟨rfl, b2⟩; have B2 := Lib.hid (B1.out.drew.trans (b2.mono B1.out.drew.size)); have K2 := Lib.hid (K1.out.drew.below b2 K1.out.lt); have c2 := K2.out.cell; clear b2 c1))) | (fail)
  all_goals go_wp2
  all_goals go_ret
  all_goals exact ⟨rfl, B2.out⟩
 ·cases s2
  ·go_enter Tryz.func99, Tryz.ntmps99
   go_wp2_with fail
   refine (deedOf1 _ _ _ _ _ _ _ _ _ _ _ _ _ _ _ _ rfl).mono ?_
   rintro e w1 ⟨rfl, b1⟩
   have B1 := Lib.hid (bb.out.trans (b1.mono bb.out.size))
   have K1 := Lib.hid (k0.out.below b1 k0.out.lt)
   have c1 := K1.out.cell
   clear b1
   go_wp2_with fail
   first | (go_region_with (first | (go_at_call 208; refine (ST.out _ (HD.out.below (B := 0) B1.out.drew)).mono ?_; rintro e w2 ⟨rfl, b2⟩; have B2 := Lib.hid (B1.out.drew.trans (b2.mono B1.out.drew.size)); have K2 := Lib.hid (K1.out.drew.below b2 K1.out.lt); have c2 := K2.out.cell; clear b2 c1) | (go_at_call 213; refine (FI.out _ (HD.out.below (B := 0) B2.out) (HS.out.below B2.out)).mono ?_; rintro e w3 ⟨rfl, b3⟩; have B3 := Lib.hid (B2.out.trans (b3.mono B2.out.size)); have K3 := Lib.hid (K2.out.below b3 K2.out.lt); have c3 := K3.out.cell; clear b3 c2))) | (fail)
   all_goals go_wp2
   all_goals go_ret
   all_goals exact ⟨rfl, B3.out⟩
  ·go_enter Tryz.func99, Tryz.ntmps99
   go_wp2_with fail
   refine (deedOf1 _ _ _ _ _ _ _ _ _ _ _ _ _ _ _ _ rfl).mono ?_
   rintro e w1 ⟨rfl, b1⟩
   have B1 := Lib.hid (bb.out.trans (b1.mono bb.out.size))
   have K1 := Lib.hid (k0.out.below b1 k0.out.lt)
   have c1 := K1.out.cell
   clear b1
   go_wp2_with fail
   first | (go_region_with (first | (go_at_call 208; refine (ST.out _ (HD.out.below (B := 0) B1.out.drew)).mono ?_; rintro e w2 ⟨rfl, b2⟩; have B2 := Lib.hid (B1.out.drew.trans (b2.mono B1.out.drew.size)); have K2 := Lib.hid (K1.out.drew.below b2 K1.out.lt); have c2 := K2.out.cell; clear b2 c1) | (go_at_call 213; refine (FI.out _ (HD.out.below (B := 0) B2.out) (HS.out.below B2.out)).mono ?_; rintro e w3 ⟨rfl, b3⟩; have B3 := Lib.hid (B2.out.trans (b3.mono B2.out.size)); have K3 := Lib.hid (K2.out.below b3 K2.out.lt); have c3 := K3.out.cell; clear b3 c2) | (go_at_call 212; refine (AC.out _).mono ?_; rintro e w4 ⟨rfl, b4⟩; have B4 := Lib.hid (B3.out.trans (b4.mono B3.out.size)); have K4 := Lib.hid (K3.out.below b4 K3.out.lt); have c4 := K4.out.cell; clear b4 c3) | (go_at_call 126; refine (SA.out _ (HD.out.below (B := 0) B4.out) (HS.out.below B4.out)).mono ?_; rintro e w5 ⟨rfl, b5⟩; have B5 := Lib.hid (B4.out.trans (b5.mono B4.out.size)); clear b5))) | (fail)
   all_goals go_wp2
   all_goals go_ret
   all_goals exact ⟨rfl, B5.out⟩
theorem revoke_stands_is (r n actor dst bucket mask gr gn : Int) (x y : Option Addr) (a c p q : Nat) (w : World) : (method 352 190 (.agg #[.int .i64 r, .int .i64 n, .slice x a c, .int .i64 actor, .int .i64 gr, .int .i64 gn]) "loop.example/g00717/impl.stands").run Tryz.prog w = .ok (208, .agg #[.int .i64 r, .int .i64 n, .slice x a c, .int .i64 actor]) w := by kernel_rfl
theorem revoke_fits_is (r n actor dst bucket mask gr gn : Int) (x y : Option Addr) (a c p q : Nat) (w : World) : (method 352 190 (.agg #[.int .i64 r, .int .i64 n, .slice x a c, .int .i64 actor, .int .i64 gr, .int .i64 gn]) "loop.example/g00717/impl.fits").run Tryz.prog w = .ok (217, .agg #[.int .i64 r, .int .i64 n, .slice x a c, .int .i64 actor, .int .i64 gr, .int .i64 gn]) w := by kernel_rfl
theorem revoke_act_is (r n actor dst bucket mask gr gn : Int) (x y : Option Addr) (a c p q : Nat) (w : World) : (method 352 190 (.agg #[.int .i64 r, .int .i64 n, .slice x a c, .int .i64 actor, .int .i64 gr, .int .i64 gn]) "loop.example/g00717/impl.act").run Tryz.prog w = .ok (216, .agg #[.int .i64 r, .int .i64 n, .slice x a c, .int .i64 actor, .int .i64 gr, .int .i64 gn]) w := by kernel_rfl
set_option maxRecDepth 100000 in
set_option maxHeartbeats 6400000 in
theorem actOk2 (r n actor dst bucket mask gr gn : Int) (x y : Option Addr) (a c p q : Nat) (w : World) (m : Int) (dep : List Int) (ups : List UpM) (hd : Ints w (.slice x a c) dep) (hs : Ups w (.slice y p q) ups)
  (hm : -9223372036854775808 ≤ m ∧ m ≤ 9223372036854775807) :
  Calls Tryz.prog 99 #[.agg #[.int .i64 r, .int .i64 n, .slice x a c, .int .i64 actor, .int .i64 2, .int .i64 dst, .int .i64 bucket, .int .i64 mask, .int .i64 gr, .int .i64 gn, .slice y p q], .int .i64 m] w fun e w' => e = .returned (.bool (standsM r n actor dep m && (inB gr 0 ((dep.length : Int) - 1) && inB gn 1 (dep.getD gr.toNat 0)) && sameM ⟨r, n, dep, actor, 2, 0, 0, 0, gr, gn, []⟩ (⟨r, n, dep, actor, 2, dst, bucket, mask, gr, gn, ups⟩ : ActM))) ∧ Below w.heap.size w w' := by
 have bb := Lib.hid ((Below.refl w.heap.size w).alloc (Nat.le_refl _) (.cells #[.int .i64 r, .int .i64 n, .slice x a c, .int .i64 actor, .int .i64 2, .int .i64 dst, .int .i64 bucket, .int .i64 mask, .int .i64 gr, .int .i64 gn, .slice y p q] 32))
 have k0 := Lib.hid (Blk.new w #[.int .i64 r, .int .i64 n, .slice x a c, .int .i64 actor, .int .i64 2, .int .i64 dst, .int .i64 bucket, .int .i64 mask, .int .i64 gr, .int .i64 gn, .slice y p q] 32)
 have HD := Lib.hid hd
 have HS := Lib.hid hs
 have ST := Lib.hid (fun w h => stands_any r n actor m (.slice x a c) dep w h hm)
 have FI := Lib.hid (fun (w : World) (hd : Ints w (.slice x a c) dep) (hs : Ups w (.slice y p q) ups) => revokeFits_any r n actor gr gn (.slice x a c) dep w hd)
 have AC := Lib.hid (fun (w : World) => revokeAct_any r n actor gr gn a c x w)
 have SA := Lib.hid (fun (w : World) (hd : Ints w (.slice x a c) dep) (hs : Ups w (.slice y p q) ups) => implSame_any (.agg #[.int .i64 r, .int .i64 n, .slice x a c, .int .i64 actor, .int .i64 2, .int .i64 0, .int .i64 0, .int .i64 0, .int .i64 gr, .int .i64 gn, .slice none 0 0]) (.agg #[.int .i64 r, .int .i64 n, .slice x a c, .int .i64 actor, .int .i64 2, .int .i64 dst, .int .i64 bucket, .int .i64 mask, .int .i64 gr, .int .i64 gn, .slice y p q]) ⟨r, n, dep, actor, 2, 0, 0, 0, gr, gn, []⟩ (⟨r, n, dep, actor, 2, dst, bucket, mask, gr, gn, ups⟩ : ActM) w ⟨_, _, rfl, hd, .inl ⟨_, _, rfl, rfl⟩⟩ ⟨_, _, rfl, hd, hs⟩)
 clear hd hs
 have M1 := fun w => revoke_stands_is r n actor dst bucket mask gr gn x y a c p q w
 have M2 := fun w => revoke_fits_is r n actor dst bucket mask gr gn x y a c p q w
 have M3 := fun w => revoke_act_is r n actor dst bucket mask gr gn x y a c p q w
 generalize standsM r n actor dep m = s1 at *
 generalize (inB gr 0 ((dep.length : Int) - 1) && inB gn 1 (dep.getD gr.toNat 0)) = s2 at *
 generalize sameM ⟨r, n, dep, actor, 2, 0, 0, 0, gr, gn, []⟩ (⟨r, n, dep, actor, 2, dst, bucket, mask, gr, gn, ups⟩ : ActM) = s3 at *
 cases s1
 ·go_enter Tryz.func99, Tryz.ntmps99
  go_wp2_with fail
  refine (deedOf2 _ _ _ _ _ _ _ _ _ _ _ _ _ _ _ _ rfl).mono ?_
  rintro e w1 ⟨rfl, b1⟩
  have B1 := Lib.hid (bb.out.trans (b1.mono bb.out.size))
  have K1 := Lib.hid (k0.out.below b1 k0.out.lt)
  have c1 := K1.out.cell
  clear b1
  go_wp2_with fail
  first | (go_region_with (first | (go_at_call 208; refine (ST.out _ (HD.out.below (B := 0) B1.out.drew)).mono ?_; rintro e w2 ⟨rfl, b2⟩; have B2 := Lib.hid (B1.out.drew.trans (b2.mono B1.out.drew.size)); have K2 := Lib.hid (K1.out.drew.below b2 K1.out.lt); have c2 := K2.out.cell; clear b2 c1))) | (fail)
  all_goals go_wp2
  all_goals go_ret
  all_goals exact ⟨rfl, B2.out⟩
 ·cases s2
  ·go_enter Tryz.func99, Tryz.ntmps99
   go_wp2_with fail
   refine (deedOf2 _ _ _ _ _ _ _ _ _ _ _ _ _ _ _ _ rfl).mono ?_
   rintro e w1 ⟨rfl, b1⟩
   have B1 := Lib.hid (bb.out.trans (b1.mono bb.out.size))
   have K1 := Lib.hid (k0.out.below b1 k0.out.lt)
   have c1 := K1.out.cell
   clear b1
   go_wp2_with fail
   first | (go_region_with (first | (go_at_call 208; refine (ST.out _ (HD.out.below (B := 0) B1.out.drew)).mono ?_; rintro e w2 ⟨rfl, b2⟩; have B2 := Lib.hid (B1.out.drew.trans (b2.mono B1.out.drew.size)); have K2 := Lib.hid (K1.out.drew.below b2 K1.out.lt); have c2 := K2.out.cell; clear b2 c1) | (go_at_call 217; refine (FI.out _ (HD.out.below (B := 0) B2.out) (HS.out.below B2.out)).mono ?_; rintro e w3 ⟨rfl, b3⟩; have B3 := Lib.hid (B2.out.trans (b3.mono B2.out.size)); have K3 := Lib.hid (K2.out.below b3 K2.out.lt); have c3 := K3.out.cell; clear b3 c2))) | (fail)
   all_goals go_wp2
   all_goals go_ret
   all_goals exact ⟨rfl, B3.out⟩
  ·go_enter Tryz.func99, Tryz.ntmps99
   go_wp2_with fail
   refine (deedOf2 _ _ _ _ _ _ _ _ _ _ _ _ _ _ _ _ rfl).mono ?_
   rintro e w1 ⟨rfl, b1⟩
   have B1 := Lib.hid (bb.out.trans (b1.mono bb.out.size))
   have K1 := Lib.hid (k0.out.below b1 k0.out.lt)
   have c1 := K1.out.cell
   clear b1
   go_wp2_with fail
   first | (go_region_with (first | (go_at_call 208; refine (ST.out _ (HD.out.below (B := 0) B1.out.drew)).mono ?_; rintro e w2 ⟨rfl, b2⟩; have B2 := Lib.hid (B1.out.drew.trans (b2.mono B1.out.drew.size)); have K2 := Lib.hid (K1.out.drew.below b2 K1.out.lt); have c2 := K2.out.cell; clear b2 c1) | (go_at_call 217; refine (FI.out _ (HD.out.below (B := 0) B2.out) (HS.out.below B2.out)).mono ?_; rintro e w3 ⟨rfl, b3⟩; have B3 := Lib.hid (B2.out.trans (b3.mono B2.out.size)); have K3 := Lib.hid (K2.out.below b3 K2.out.lt); have c3 := K3.out.cell; clear b3 c2) | (go_at_call 216; refine (AC.out _).mono ?_; rintro e w4 ⟨rfl, b4⟩; have B4 := Lib.hid (B3.out.trans (b4.mono B3.out.size)); have K4 := Lib.hid (K3.out.below b4 K3.out.lt); have c4 := K4.out.cell; clear b4 c3) | (go_at_call 126; refine (SA.out _ (HD.out.below (B := 0) B4.out) (HS.out.below B4.out)).mono ?_; rintro e w5 ⟨rfl, b5⟩; have B5 := Lib.hid (B4.out.trans (b5.mono B4.out.size)); clear b5))) | (fail)
   all_goals go_wp2
   all_goals go_ret
   all_goals exact ⟨rfl, B5.out⟩
theorem ceiling_stands_is (r n actor dst bucket mask gr gn : Int) (x y : Option Addr) (a c p q : Nat) (w : World) : (method 352 192 (.agg #[.int .i64 r, .int .i64 n, .slice x a c, .int .i64 actor, .int .i64 bucket, .int .i64 mask]) "loop.example/g00717/impl.stands").run Tryz.prog w = .ok (208, .agg #[.int .i64 r, .int .i64 n, .slice x a c, .int .i64 actor]) w := by kernel_rfl
theorem ceiling_fits_is (r n actor dst bucket mask gr gn : Int) (x y : Option Addr) (a c p q : Nat) (w : World) : (method 352 192 (.agg #[.int .i64 r, .int .i64 n, .slice x a c, .int .i64 actor, .int .i64 bucket, .int .i64 mask]) "loop.example/g00717/impl.fits").run Tryz.prog w = .ok (219, .agg #[.int .i64 r, .int .i64 n, .slice x a c, .int .i64 actor, .int .i64 bucket, .int .i64 mask]) w := by kernel_rfl
theorem ceiling_act_is (r n actor dst bucket mask gr gn : Int) (x y : Option Addr) (a c p q : Nat) (w : World) : (method 352 192 (.agg #[.int .i64 r, .int .i64 n, .slice x a c, .int .i64 actor, .int .i64 bucket, .int .i64 mask]) "loop.example/g00717/impl.act").run Tryz.prog w = .ok (218, .agg #[.int .i64 r, .int .i64 n, .slice x a c, .int .i64 actor, .int .i64 bucket, .int .i64 mask]) w := by kernel_rfl
set_option maxRecDepth 100000 in
set_option maxHeartbeats 6400000 in
theorem actOk3 (r n actor dst bucket mask gr gn : Int) (x y : Option Addr) (a c p q : Nat) (w : World) (m : Int) (dep : List Int) (ups : List UpM) (hd : Ints w (.slice x a c) dep) (hs : Ups w (.slice y p q) ups)
  (hm : -9223372036854775808 ≤ m ∧ m ≤ 9223372036854775807) :
  Calls Tryz.prog 99 #[.agg #[.int .i64 r, .int .i64 n, .slice x a c, .int .i64 actor, .int .i64 3, .int .i64 dst, .int .i64 bucket, .int .i64 mask, .int .i64 gr, .int .i64 gn, .slice y p q], .int .i64 m] w fun e w' => e = .returned (.bool (standsM r n actor dep m && (inB bucket 0 2 && inB mask 0 15) && sameM ⟨r, n, dep, actor, 3, 0, bucket, mask, 0, 0, []⟩ (⟨r, n, dep, actor, 3, dst, bucket, mask, gr, gn, ups⟩ : ActM))) ∧ Below w.heap.size w w' := by
 have bb := Lib.hid ((Below.refl w.heap.size w).alloc (Nat.le_refl _) (.cells #[.int .i64 r, .int .i64 n, .slice x a c, .int .i64 actor, .int .i64 3, .int .i64 dst, .int .i64 bucket, .int .i64 mask, .int .i64 gr, .int .i64 gn, .slice y p q] 32))
 have k0 := Lib.hid (Blk.new w #[.int .i64 r, .int .i64 n, .slice x a c, .int .i64 actor, .int .i64 3, .int .i64 dst, .int .i64 bucket, .int .i64 mask, .int .i64 gr, .int .i64 gn, .slice y p q] 32)
 have HD := Lib.hid hd
 have HS := Lib.hid hs
 have ST := Lib.hid (fun w h => stands_any r n actor m (.slice x a c) dep w h hm)
 have FI := Lib.hid (fun (w : World) (hd : Ints w (.slice x a c) dep) (hs : Ups w (.slice y p q) ups) => ceilingFits_any r n actor bucket mask (.slice x a c) w)
 have AC := Lib.hid (fun (w : World) => ceilingAct_any r n actor bucket mask a c x w)
 have SA := Lib.hid (fun (w : World) (hd : Ints w (.slice x a c) dep) (hs : Ups w (.slice y p q) ups) => implSame_any (.agg #[.int .i64 r, .int .i64 n, .slice x a c, .int .i64 actor, .int .i64 3, .int .i64 0, .int .i64 bucket, .int .i64 mask, .int .i64 0, .int .i64 0, .slice none 0 0]) (.agg #[.int .i64 r, .int .i64 n, .slice x a c, .int .i64 actor, .int .i64 3, .int .i64 dst, .int .i64 bucket, .int .i64 mask, .int .i64 gr, .int .i64 gn, .slice y p q]) ⟨r, n, dep, actor, 3, 0, bucket, mask, 0, 0, []⟩ (⟨r, n, dep, actor, 3, dst, bucket, mask, gr, gn, ups⟩ : ActM) w ⟨_, _, rfl, hd, .inl ⟨_, _, rfl, rfl⟩⟩ ⟨_, _, rfl, hd, hs⟩)
 clear hd hs
 have M1 := fun w => ceiling_stands_is r n actor dst bucket mask gr gn x y a c p q w
 have M2 := fun w => ceiling_fits_is r n actor dst bucket mask gr gn x y a c p q w
 have M3 := fun w => ceiling_act_is r n actor dst bucket mask gr gn x y a c p q w
 generalize standsM r n actor dep m = s1 at *
 generalize (inB bucket 0 2 && inB mask 0 15) = s2 at *
 generalize sameM ⟨r, n, dep, actor, 3, 0, bucket, mask, 0, 0, []⟩ (⟨r, n, dep, actor, 3, dst, bucket, mask, gr, gn, ups⟩ : ActM) = s3 at *
 cases s1
 ·go_enter Tryz.func99, Tryz.ntmps99
  go_wp2_with fail
  refine (deedOf3 _ _ _ _ _ _ _ _ _ _ _ _ _ _ _ _ rfl).mono ?_
  rintro e w1 ⟨rfl, b1⟩
  have B1 := Lib.hid (bb.out.trans (b1.mono bb.out.size))
  have K1 := Lib.hid (k0.out.below b1 k0.out.lt)
  have c1 := K1.out.cell
  clear b1
  go_wp2_with fail
  first | (go_region_with (first | (go_at_call 208; refine (ST.out _ (HD.out.below (B := 0) B1.out.drew)).mono ?_; rintro e w2 ⟨rfl, b2⟩; have B2 := Lib.hid (B1.out.drew.trans (b2.mono B1.out.drew.size)); have K2 := Lib.hid (K1.out.drew.below b2 K1.out.lt); have c2 := K2.out.cell; clear b2 c1))) | (fail)
  all_goals go_wp2
  all_goals go_ret
  all_goals exact ⟨rfl, B2.out⟩
 ·cases s2
  ·go_enter Tryz.func99, Tryz.ntmps99
   go_wp2_with fail
   refine (deedOf3 _ _ _ _ _ _ _ _ _ _ _ _ _ _ _ _ rfl).mono ?_
   rintro e w1 ⟨rfl, b1⟩
   have B1 := Lib.hid (bb.out.trans (b1.mono bb.out.size))
   have K1 := Lib.hid (k0.out.below b1 k0.out.lt)
   have c1 := K1.out.cell
   clear b1
   go_wp2_with fail
   first | (go_region_with (first | (go_at_call 208; refine (ST.out _ (HD.out.below (B := 0) B1.out.drew)).mono ?_; rintro e w2 ⟨rfl, b2⟩; have B2 := Lib.hid (B1.out.drew.trans (b2.mono B1.out.drew.size)); have K2 := Lib.hid (K1.out.drew.below b2 K1.out.lt); have c2 := K2.out.cell; clear b2 c1) | (go_at_call 219; refine (FI.out _ (HD.out.below (B := 0) B2.out) (HS.out.below B2.out)).mono ?_; rintro e w3 ⟨rfl, b3⟩; have B3 := Lib.hid (B2.out.trans (b3.mono B2.out.size)); have K3 := Lib.hid (K2.out.below b3 K2.out.lt); have c3 := K3.out.cell; clear b3 c2))) | (fail)
   all_goals go_wp2
   all_goals go_ret
   all_goals exact ⟨rfl, B3.out⟩
  ·go_enter Tryz.func99, Tryz.ntmps99
   go_wp2_with fail
   refine (deedOf3 _ _ _ _ _ _ _ _ _ _ _ _ _ _ _ _ rfl).mono ?_
   rintro e w1 ⟨rfl, b1⟩
   have B1 := Lib.hid (bb.out.trans (b1.mono bb.out.size))
   have K1 := Lib.hid (k0.out.below b1 k0.out.lt)
   have c1 := K1.out.cell
   clear b1
   go_wp2_with fail
   first | (go_region_with (first | (go_at_call 208; refine (ST.out _ (HD.out.below (B := 0) B1.out.drew)).mono ?_; rintro e w2 ⟨rfl, b2⟩; have B2 := Lib.hid (B1.out.drew.trans (b2.mono B1.out.drew.size)); have K2 := Lib.hid (K1.out.drew.below b2 K1.out.lt); have c2 := K2.out.cell; clear b2 c1) | (go_at_call 219; refine (FI.out _ (HD.out.below (B := 0) B2.out) (HS.out.below B2.out)).mono ?_; rintro e w3 ⟨rfl, b3⟩; have B3 := Lib.hid (B2.out.trans (b3.mono B2.out.size)); have K3 := Lib.hid (K2.out.below b3 K2.out.lt); have c3 := K3.out.cell; clear b3 c2) | (go_at_call 218; refine (AC.out _).mono ?_; rintro e w4 ⟨rfl, b4⟩; have B4 := Lib.hid (B3.out.trans (b4.mono B3.out.size)); have K4 := Lib.hid (K3.out.below b4 K3.out.lt); have c4 := K4.out.cell; clear b4 c3) | (go_at_call 126; refine (SA.out _ (HD.out.below (B := 0) B4.out) (HS.out.below B4.out)).mono ?_; rintro e w5 ⟨rfl, b5⟩; have B5 := Lib.hid (B4.out.trans (b5.mono B4.out.size)); clear b5))) | (fail)
   all_goals go_wp2
   all_goals go_ret
   all_goals exact ⟨rfl, B5.out⟩
theorem transaction_stands_is (r n actor dst bucket mask gr gn : Int) (x y : Option Addr) (a c p q : Nat) (w : World) : (method 352 194 (.agg #[.int .i64 r, .int .i64 n, .slice x a c, .int .i64 actor, .slice y p q]) "loop.example/g00717/impl.stands").run Tryz.prog w = .ok (208, .agg #[.int .i64 r, .int .i64 n, .slice x a c, .int .i64 actor]) w := by kernel_rfl
theorem transaction_fits_is (r n actor dst bucket mask gr gn : Int) (x y : Option Addr) (a c p q : Nat) (w : World) : (method 352 194 (.agg #[.int .i64 r, .int .i64 n, .slice x a c, .int .i64 actor, .slice y p q]) "loop.example/g00717/impl.fits").run Tryz.prog w = .ok (221, .agg #[.int .i64 r, .int .i64 n, .slice x a c, .int .i64 actor, .slice y p q]) w := by kernel_rfl
theorem transaction_act_is (r n actor dst bucket mask gr gn : Int) (x y : Option Addr) (a c p q : Nat) (w : World) : (method 352 194 (.agg #[.int .i64 r, .int .i64 n, .slice x a c, .int .i64 actor, .slice y p q]) "loop.example/g00717/impl.act").run Tryz.prog w = .ok (220, .agg #[.int .i64 r, .int .i64 n, .slice x a c, .int .i64 actor, .slice y p q]) w := by kernel_rfl
set_option maxRecDepth 100000 in
set_option maxHeartbeats 6400000 in
theorem actOk4 (r n actor dst bucket mask gr gn : Int) (x y : Option Addr) (a c p q : Nat) (w : World) (m : Int) (dep : List Int) (ups : List UpM) (hd : Ints w (.slice x a c) dep) (hs : Ups w (.slice y p q) ups)
  (hm : -9223372036854775808 ≤ m ∧ m ≤ 9223372036854775807) :
  Calls Tryz.prog 99 #[.agg #[.int .i64 r, .int .i64 n, .slice x a c, .int .i64 actor, .int .i64 4, .int .i64 dst, .int .i64 bucket, .int .i64 mask, .int .i64 gr, .int .i64 gn, .slice y p q], .int .i64 m] w fun e w' => e = .returned (.bool (standsM r n actor dep m && (okUps ups) && sameM ⟨r, n, dep, actor, 4, 0, 0, 0, 0, 0, ups⟩ (⟨r, n, dep, actor, 4, dst, bucket, mask, gr, gn, ups⟩ : ActM))) ∧ Below w.heap.size w w' := by
 have bb := Lib.hid ((Below.refl w.heap.size w).alloc (Nat.le_refl _) (.cells #[.int .i64 r, .int .i64 n, .slice x a c, .int .i64 actor, .int .i64 4, .int .i64 dst, .int .i64 bucket, .int .i64 mask, .int .i64 gr, .int .i64 gn, .slice y p q] 32))
 have k0 := Lib.hid (Blk.new w #[.int .i64 r, .int .i64 n, .slice x a c, .int .i64 actor, .int .i64 4, .int .i64 dst, .int .i64 bucket, .int .i64 mask, .int .i64 gr, .int .i64 gn, .slice y p q] 32)
 have HD := Lib.hid hd
 have HS := Lib.hid hs
 have ST := Lib.hid (fun w h => stands_any r n actor m (.slice x a c) dep w h hm)
 have FI := Lib.hid (fun (w : World) (hd : Ints w (.slice x a c) dep) (hs : Ups w (.slice y p q) ups) => transFits_any r n actor (.slice x a c) (.slice y p q) ups w hs)
 have AC := Lib.hid (fun (w : World) => transactionAct_any r n actor p q y a c x w)
 have SA := Lib.hid (fun (w : World) (hd : Ints w (.slice x a c) dep) (hs : Ups w (.slice y p q) ups) => implSame_any (.agg #[.int .i64 r, .int .i64 n, .slice x a c, .int .i64 actor, .int .i64 4, .int .i64 0, .int .i64 0, .int .i64 0, .int .i64 0, .int .i64 0, .slice y p q]) (.agg #[.int .i64 r, .int .i64 n, .slice x a c, .int .i64 actor, .int .i64 4, .int .i64 dst, .int .i64 bucket, .int .i64 mask, .int .i64 gr, .int .i64 gn, .slice y p q]) ⟨r, n, dep, actor, 4, 0, 0, 0, 0, 0, ups⟩ (⟨r, n, dep, actor, 4, dst, bucket, mask, gr, gn, ups⟩ : ActM) w ⟨_, _, rfl, hd, hs⟩ ⟨_, _, rfl, hd, hs⟩)
 clear hd hs
 have M1 := fun w => transaction_stands_is r n actor dst bucket mask gr gn x y a c p q w
 have M2 := fun w => transaction_fits_is r n actor dst bucket mask gr gn x y a c p q w
 have M3 := fun w => transaction_act_is r n actor dst bucket mask gr gn x y a c p q w
 generalize standsM r n actor dep m = s1 at *
 generalize (okUps ups) = s2 at *
 generalize sameM ⟨r, n, dep, actor, 4, 0, 0, 0, 0, 0, ups⟩ (⟨r, n, dep, actor, 4, dst, bucket, mask, gr, gn, ups⟩ : ActM) = s3 at *
 cases s1
 ·go_enter Tryz.func99, Tryz.ntmps99
  go_wp2_with fail
  refine (deedOf4 _ _ _ _ _ _ _ _ _ _ _ _ _ _ _ _ rfl).mono ?_
  rintro e w1 ⟨rfl, b1⟩
  have B1 := Lib.hid (bb.out.trans (b1.mono bb.out.size))
  have K1 := Lib.hid (k0.out.below b1 k0.out.lt)
  have c1 := K1.out.cell
  clear b1
  go_wp2_with fail
  first | (go_region_with (first | (go_at_call 208; refine (ST.out _ (HD.out.below (B := 0) B1.out.drew)).mono ?_; rintro e w2 ⟨rfl, b2⟩; have B2 := Lib.hid (B1.out.drew.trans (b2.mono B1.out.drew.size)); have K2 := Lib.hid (K1.out.drew.below b2 K1.out.lt); have c2 := K2.out.cell; clear b2 c1))) | (fail)
  all_goals go_wp2
  all_goals go_ret
  all_goals exact ⟨rfl, B2.out⟩
 ·cases s2
  ·go_enter Tryz.func99, Tryz.ntmps99
   go_wp2_with fail
   refine (deedOf4 _ _ _ _ _ _ _ _ _ _ _ _ _ _ _ _ rfl).mono ?_
   rintro e w1 ⟨rfl, b1⟩
   have B1 := Lib.hid (bb.out.trans (b1.mono bb.out.size))
   have K1 := Lib.hid (k0.out.below b1 k0.out.lt)
   have c1 := K1.out.cell
   clear b1
   go_wp2_with fail
   first | (go_region_with (first | (go_at_call 208; refine (ST.out _ (HD.out.below (B := 0) B1.out.drew)).mono ?_; rintro e w2 ⟨rfl, b2⟩; have B2 := Lib.hid (B1.out.drew.trans (b2.mono B1.out.drew.size)); have K2 := Lib.hid (K1.out.drew.below b2 K1.out.lt); have c2 := K2.out.cell; clear b2 c1) | (go_at_call 221; refine (FI.out _ (HD.out.below (B := 0) B2.out) (HS.out.below B2.out)).mono ?_; rintro e w3 ⟨rfl, b3⟩; have B3 := Lib.hid (B2.out.trans (b3.mono B2.out.size)); have K3 := Lib.hid (K2.out.below b3 K2.out.lt); have c3 := K3.out.cell; clear b3 c2))) | (fail)
   all_goals go_wp2
   all_goals go_ret
   all_goals exact ⟨rfl, B3.out⟩
  ·go_enter Tryz.func99, Tryz.ntmps99
   go_wp2_with fail
   refine (deedOf4 _ _ _ _ _ _ _ _ _ _ _ _ _ _ _ _ rfl).mono ?_
   rintro e w1 ⟨rfl, b1⟩
   have B1 := Lib.hid (bb.out.trans (b1.mono bb.out.size))
   have K1 := Lib.hid (k0.out.below b1 k0.out.lt)
   have c1 := K1.out.cell
   clear b1
   go_wp2_with fail
   first | (go_region_with (first | (go_at_call 208; refine (ST.out _ (HD.out.below (B := 0) B1.out.drew)).mono ?_; rintro e w2 ⟨rfl, b2⟩; have B2 := Lib.hid (B1.out.drew.trans (b2.mono B1.out.drew.size)); have K2 := Lib.hid (K1.out.drew.below b2 K1.out.lt); have c2 := K2.out.cell; clear b2 c1) | (go_at_call 221; refine (FI.out _ (HD.out.below (B := 0) B2.out) (HS.out.below B2.out)).mono ?_; rintro e w3 ⟨rfl, b3⟩; have B3 := Lib.hid (B2.out.trans (b3.mono B2.out.size)); have K3 := Lib.hid (K2.out.below b3 K2.out.lt); have c3 := K3.out.cell; clear b3 c2) | (go_at_call 220; refine (AC.out _).mono ?_; rintro e w4 ⟨rfl, b4⟩; have B4 := Lib.hid (B3.out.trans (b4.mono B3.out.size)); have K4 := Lib.hid (K3.out.below b4 K3.out.lt); have c4 := K4.out.cell; clear b4 c3) | (go_at_call 126; refine (SA.out _ (HD.out.below (B := 0) B4.out) (HS.out.below B4.out)).mono ?_; rintro e w5 ⟨rfl, b5⟩; have B5 := Lib.hid (B4.out.trans (b5.mono B4.out.size)); clear b5))) | (fail)
   all_goals go_wp2
   all_goals go_ret
   all_goals exact ⟨rfl, B5.out⟩
set_option maxRecDepth 100000 in
set_option maxHeartbeats 3200000 in
theorem actOk0 (r n actor kind dst bucket mask gr gn m : Int) (x y : Option Addr) (a c p q : Nat) (w : World) (hk : ¬ (1 ≤ kind ∧ kind ≤ 4)) :
  Calls Tryz.prog 99 #[.agg #[.int .i64 r, .int .i64 n, .slice x a c, .int .i64 actor, .int .i64 kind, .int .i64 dst, .int .i64 bucket, .int .i64 mask, .int .i64 gr, .int .i64 gn, .slice y p q], .int .i64 m] w fun e w' => e = .returned (.bool false) ∧ Below w.heap.size w w' := by
 have bb := Lib.hid ((Below.refl w.heap.size w).alloc (Nat.le_refl _) (.cells #[.int .i64 r, .int .i64 n, .slice x a c, .int .i64 actor, .int .i64 kind, .int .i64 dst, .int .i64 bucket, .int .i64 mask, .int .i64 gr, .int .i64 gn, .slice y p q] 32))
 have HK := Lib.hid hk
 clear hk
 go_enter Tryz.func99, Tryz.ntmps99
 go_wp2_with fail
 refine (deedOf0 _ _ _ _ _ _ _ _ _ _ _ _ _ _ _ _ HK.out).mono ?_
 rintro e w1 ⟨rfl, b1⟩
 have B1 := Lib.hid (bb.out.trans (b1.mono bb.out.size))
 clear b1
 go_wp2_with fail
 go_quiet (fail)
 all_goals go_wp2
 all_goals go_ret
 all_goals exact ⟨rfl, below_drewN B1.out _⟩
theorem implActOk_any : ImplActOk := by
 intro v a m w h hm
 obtain ⟨vd, vs, rfl, hd, hs⟩ := h
 obtain ⟨r, n, dep, actor, kind, dst, bucket, mask, gr, gn, ups⟩ := a
 simp only at hd hs ⊢
 obtain ⟨x, c, rfl⟩ := ints_len hd
 obtain ⟨y, q, rfl⟩ := ups_len hs
 by_cases hk : 1 ≤ kind ∧ kind ≤ 4
 ·rw [actOk_eq _ _ hk]
  have hcase : kind = 1 ∨ kind = 2 ∨ kind = 3 ∨ kind = 4 := by omega
  rcases hcase with rfl | rfl | rfl | rfl
  ·exact actOk1 r n actor dst bucket mask gr gn x y _ c _ q w m dep ups hd hs hm
  ·exact actOk2 r n actor dst bucket mask gr gn x y _ c _ q w m dep ups hd hs hm
  ·exact actOk3 r n actor dst bucket mask gr gn x y _ c _ q w m dep ups hd hs hm
  ·exact actOk4 r n actor dst bucket mask gr gn x y _ c _ q w m dep ups hd hs hm
 ·rw [actOk_kind _ _ hk]
  exact actOk0 r n actor kind dst bucket mask gr gn m x y _ c _ q w hk
end Go.Proofs.YtghgiefciijoeaaGreatDoor
