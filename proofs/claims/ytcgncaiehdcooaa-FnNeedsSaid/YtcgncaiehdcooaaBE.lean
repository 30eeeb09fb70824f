/- The program's deedOf. -/
import Derived.Test.YtcgncaiehdcooaaBD
namespace Go.Proofs.Ytcgncaiehdcooaa
open Go.RowKit
set_option linter.unusedVariables false

set_option maxHeartbeats 1600000 in
theorem deedOf1 (r n actor kind dst bucket mask gr gn : Int) (x y : Option Addr) (a c p q : Nat) (w : World) (hk : kind = 1) :
    Calls Try.prog 104 #[.agg #[.int .i64 r, .int .i64 n, .slice x a c, .int .i64 actor, .int .i64 kind, .int .i64 dst, .int .i64 bucket, .int .i64 mask, .int .i64 gr, .int .i64 gn, .slice y p q]] w fun e w' => e = .returned (.tuple #[.iface 138 (.agg #[.int .i64 r, .int .i64 n, .slice x a c, .int .i64 actor, .int .i64 dst, .int .i64 bucket, .int .i64 mask]), .bool true]) ∧ Below w.heap.size w w' := by
  have bb := Lib.hid ((Below.refl w.heap.size w).alloc (Nat.le_refl _) (.cells #[.int .i64 r, .int .i64 n, .slice x a c, .int .i64 actor, .int .i64 kind, .int .i64 dst, .int .i64 bucket, .int .i64 mask, .int .i64 gr, .int .i64 gn, .slice y p q] 26))
  have k0 := Lib.hid (Blk.new w #[.int .i64 r, .int .i64 n, .slice x a c, .int .i64 actor, .int .i64 kind, .int .i64 dst, .int .i64 bucket, .int .i64 mask, .int .i64 gr, .int .i64 gn, .slice y p q] 26)
  subst hk
  go_enter Try.func104, Try.ntmps104
  go_wp2_with fail
  refine (commonOf_any _ _ _ _ _ _ _ _ _ _ _ _ _ _).mono ?_
  rintro e w1 ⟨rfl, b1⟩
  have B1 := Lib.hid (bb.out.trans (b1.mono bb.out.size))
  have B2 := Lib.hid (B1.out.alloc B1.out.size (.cells #[.int .i64 r, .int .i64 n, .slice x a c, .int .i64 actor] 67))
  have c0 := (k0.out.below b1 k0.out.lt).cell
  have l0 := (k0.out.below b1 k0.out.lt).lt
  clear b1
  go_wp2
  go_ret2
  exact ⟨rfl, B2.out⟩

set_option maxHeartbeats 1600000 in
theorem deedOf2 (r n actor kind dst bucket mask gr gn : Int) (x y : Option Addr) (a c p q : Nat) (w : World) (hk : kind = 2) :
    Calls Try.prog 104 #[.agg #[.int .i64 r, .int .i64 n, .slice x a c, .int .i64 actor, .int .i64 kind, .int .i64 dst, .int .i64 bucket, .int .i64 mask, .int .i64 gr, .int .i64 gn, .slice y p q]] w fun e w' => e = .returned (.tuple #[.iface 140 (.agg #[.int .i64 r, .int .i64 n, .slice x a c, .int .i64 actor, .int .i64 gr, .int .i64 gn]), .bool true]) ∧ Below w.heap.size w w' := by
  have bb := Lib.hid ((Below.refl w.heap.size w).alloc (Nat.le_refl _) (.cells #[.int .i64 r, .int .i64 n, .slice x a c, .int .i64 actor, .int .i64 kind, .int .i64 dst, .int .i64 bucket, .int .i64 mask, .int .i64 gr, .int .i64 gn, .slice y p q] 26))
  have k0 := Lib.hid (Blk.new w #[.int .i64 r, .int .i64 n, .slice x a c, .int .i64 actor, .int .i64 kind, .int .i64 dst, .int .i64 bucket, .int .i64 mask, .int .i64 gr, .int .i64 gn, .slice y p q] 26)
  subst hk
  go_enter Try.func104, Try.ntmps104
  go_wp2_with fail
  refine (commonOf_any _ _ _ _ _ _ _ _ _ _ _ _ _ _).mono ?_
  rintro e w1 ⟨rfl, b1⟩
  have B1 := Lib.hid (bb.out.trans (b1.mono bb.out.size))
  have B2 := Lib.hid (B1.out.alloc B1.out.size (.cells #[.int .i64 r, .int .i64 n, .slice x a c, .int .i64 actor] 67))
  have c0 := (k0.out.below b1 k0.out.lt).cell
  have l0 := (k0.out.below b1 k0.out.lt).lt
  clear b1
  go_wp2
  go_ret2
  exact ⟨rfl, B2.out⟩

set_option maxHeartbeats 1600000 in
theorem deedOf3 (r n actor kind dst bucket mask gr gn : Int) (x y : Option Addr) (a c p q : Nat) (w : World) (hk : kind = 3) :
    Calls Try.prog 104 #[.agg #[.int .i64 r, .int .i64 n, .slice x a c, .int .i64 actor, .int .i64 kind, .int .i64 dst, .int .i64 bucket, .int .i64 mask, .int .i64 gr, .int .i64 gn, .slice y p q]] w fun e w' => e = .returned (.tuple #[.iface 142 (.agg #[.int .i64 r, .int .i64 n, .slice x a c, .int .i64 actor, .int .i64 bucket, .int .i64 mask]), .bool true]) ∧ Below w.heap.size w w' := by
  have bb := Lib.hid ((Below.refl w.heap.size w).alloc (Nat.le_refl _) (.cells #[.int .i64 r, .int .i64 n, .slice x a c, .int .i64 actor, .int .i64 kind, .int .i64 dst, .int .i64 bucket, .int .i64 mask, .int .i64 gr, .int .i64 gn, .slice y p q] 26))
  have k0 := Lib.hid (Blk.new w #[.int .i64 r, .int .i64 n, .slice x a c, .int .i64 actor, .int .i64 kind, .int .i64 dst, .int .i64 bucket, .int .i64 mask, .int .i64 gr, .int .i64 gn, .slice y p q] 26)
  subst hk
  go_enter Try.func104, Try.ntmps104
  go_wp2_with fail
  refine (commonOf_any _ _ _ _ _ _ _ _ _ _ _ _ _ _).mono ?_
  rintro e w1 ⟨rfl, b1⟩
  have B1 := Lib.hid (bb.out.trans (b1.mono bb.out.size))
  have B2 := Lib.hid (B1.out.alloc B1.out.size (.cells #[.int .i64 r, .int .i64 n, .slice x a c, .int .i64 actor] 67))
  have c0 := (k0.out.below b1 k0.out.lt).cell
  have l0 := (k0.out.below b1 k0.out.lt).lt
  clear b1
  go_wp2
  go_ret2
  exact ⟨rfl, B2.out⟩

set_option maxHeartbeats 1600000 in
theorem deedOf4 (r n actor kind dst bucket mask gr gn : Int) (x y : Option Addr) (a c p q : Nat) (w : World) (hk : kind = 4) :
    Calls Try.prog 104 #[.agg #[.int .i64 r, .int .i64 n, .slice x a c, .int .i64 actor, .int .i64 kind, .int .i64 dst, .int .i64 bucket, .int .i64 mask, .int .i64 gr, .int .i64 gn, .slice y p q]] w fun e w' => e = .returned (.tuple #[.iface 144 (.agg #[.int .i64 r, .int .i64 n, .slice x a c, .int .i64 actor, .slice y p q]), .bool true]) ∧ Below w.heap.size w w' := by
  have bb := Lib.hid ((Below.refl w.heap.size w).alloc (Nat.le_refl _) (.cells #[.int .i64 r, .int .i64 n, .slice x a c, .int .i64 actor, .int .i64 kind, .int .i64 dst, .int .i64 bucket, .int .i64 mask, .int .i64 gr, .int .i64 gn, .slice y p q] 26))
  have k0 := Lib.hid (Blk.new w #[.int .i64 r, .int .i64 n, .slice x a c, .int .i64 actor, .int .i64 kind, .int .i64 dst, .int .i64 bucket, .int .i64 mask, .int .i64 gr, .int .i64 gn, .slice y p q] 26)
  subst hk
  go_enter Try.func104, Try.ntmps104
  go_wp2_with fail
  refine (commonOf_any _ _ _ _ _ _ _ _ _ _ _ _ _ _).mono ?_
  rintro e w1 ⟨rfl, b1⟩
  have B1 := Lib.hid (bb.out.trans (b1.mono bb.out.size))
  have B2 := Lib.hid (B1.out.alloc B1.out.size (.cells #[.int .i64 r, .int .i64 n, .slice x a c, .int .i64 actor] 67))
  have c0 := (k0.out.below b1 k0.out.lt).cell
  have l0 := (k0.out.below b1 k0.out.lt).lt
  clear b1
  go_wp2
  go_ret2
  exact ⟨rfl, B2.out⟩

set_option maxHeartbeats 1600000 in
theorem deedOf0 (r n actor kind dst bucket mask gr gn : Int) (x y : Option Addr) (a c p q : Nat) (w : World) (hk : ¬ (1 ≤ kind ∧ kind ≤ 4)) :
    Calls Try.prog 104 #[.agg #[.int .i64 r, .int .i64 n, .slice x a c, .int .i64 actor, .int .i64 kind, .int .i64 dst, .int .i64 bucket, .int .i64 mask, .int .i64 gr, .int .i64 gn, .slice y p q]] w fun e w' => e = .returned (.tuple #[.nilIface, .bool false]) ∧ Below w.heap.size w w' := by
  have bb := Lib.hid ((Below.refl w.heap.size w).alloc (Nat.le_refl _) (.cells #[.int .i64 r, .int .i64 n, .slice x a c, .int .i64 actor, .int .i64 kind, .int .i64 dst, .int .i64 bucket, .int .i64 mask, .int .i64 gr, .int .i64 gn, .slice y p q] 26))
  have k0 := Lib.hid (Blk.new w #[.int .i64 r, .int .i64 n, .slice x a c, .int .i64 actor, .int .i64 kind, .int .i64 dst, .int .i64 bucket, .int .i64 mask, .int .i64 gr, .int .i64 gn, .slice y p q] 26)
  have e1 : (kind == 1) = false := by simp; omega
  have e2 : (kind == 2) = false := by simp; omega
  have e3 : (kind == 3) = false := by simp; omega
  have e4 : (kind == 4) = false := by simp; omega
  clear hk
  go_enter Try.func104, Try.ntmps104
  go_wp2_with fail
  refine (commonOf_any _ _ _ _ _ _ _ _ _ _ _ _ _ _).mono ?_
  rintro e w1 ⟨rfl, b1⟩
  have B1 := Lib.hid (bb.out.trans (b1.mono bb.out.size))
  have B2 := Lib.hid (B1.out.alloc B1.out.size (.cells #[.int .i64 r, .int .i64 n, .slice x a c, .int .i64 actor] 67))
  have c0 := (k0.out.below b1 k0.out.lt).cell
  have l0 := (k0.out.below b1 k0.out.lt).lt
  clear b1
  go_wp2
  go_ret2
  exact ⟨rfl, B2.out⟩

end Go.Proofs.Ytcgncaiehdcooaa
