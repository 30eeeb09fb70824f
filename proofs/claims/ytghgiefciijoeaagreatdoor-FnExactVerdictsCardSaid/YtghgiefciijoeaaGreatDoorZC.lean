/- errors.As: the walk. -/
import Derived.Test.YtghgiefciijoeaaGreatDoorZB
import Derived.Stop.Asserts

namespace Go.Proofs.YtghgiefciijoeaaGreatDoor
open Go.RowKit Go.Extern Go.Extern.Stop Go.Stop
set_option linter.unusedVariables false
set_option linter.unusedSimpArgs false
theorem asNo (v : Value) (w : World) : (Instr.typeAssert (.iface 137 v) 106 205 true).run Tryz.prog w = .ok (.tuple #[.nilIface, .bool false]) w := run_typeAssert_lacksB Tryz.underlying205 (by kernel_rfl) (by kernel_rfl) v _ w
theorem asYes (v : Value) (w : World) : (Instr.typeAssert (.iface 137 v) 106 208 true).run Tryz.prog w = .ok (.tuple #[.iface 137 v, .bool true]) w := run_typeAssert_hasB Tryz.underlying208 (by kernel_rfl) v _ w
theorem frozen_of {w w' : World} (h : Below w.heap.size w w') {a : Addr} (ha : a.block < w.heap.size) : w'.frozen? a = w.frozen? a := by
  unfold World.frozen?
  rw [h.block a.block ha]
theorem unwrap_any (p n : Int) (e : Value) (w : World) : Calls Tryz.prog 207 #[.agg #[.int .i64 p, .int .i64 n, e]] w fun ev w' => ev = .returned e ∧ Below w.heap.size w w' := by
  go_enter Tryz.func207, Tryz.ntmps207
  go_wp2
  go_ret
  exact ⟨rfl, (Below.refl _ _).alloc (Nat.le_refl _) _⟩
set_option maxRecDepth 100000 in
set_option maxHeartbeats 4000000 in
theorem as_any (p n b r : Int) (T A : Nat) (o0 o1 : Value) (w : World) (hA : ∀ w', Below w.heap.size w w' → w'.cell? ⟨A, 0, none⟩ = some (.pointer (some ⟨T, 0, none⟩))) (hT : ∀ w', Below w.heap.size w w' → w'.cell? ⟨T, 0, none⟩ = some o0 ∧ w'.cell? ⟨T, 1, none⟩ = some o1 ∧ w'.frozen? ⟨T, 0, none⟩ = false ∧ w'.frozen? ⟨T, 1, none⟩ = false) (hTl : T ≤ w.heap.size) :
    Calls Tryz.prog 137 #[.iface 137 (.agg #[.int .i64 p, .int .i64 n, .iface 129 (.agg #[.int .i64 b, .int .i64 r])]), .iface 131 (.pointer (some ⟨T, 0, none⟩)), .agg #[.pointer (some ⟨1, 131, none⟩), .pointer (some ⟨A, 0, none⟩), .int .u64 150], .iface 200 (.agg #[.pointer (some ⟨1, 129, none⟩)])] w
      fun ev w' => ev = .returned (.bool true) ∧ Below T w w' := by
  have h134 := @run_callFunc_extern Tryz.prog 134 _ (fun args => ReflectliteValue.unpack (args.getD 0 (.tuple #[]))) Tryz.func134 (by kernel_rfl) (by kernel_rfl) (by kernel_rfl) (by kernel_rfl)
  have h157 := @run_callFunc_extern Tryz.prog 157 _ ReflectliteType.typeOf Tryz.func157 (by kernel_rfl) (by kernel_rfl) (by kernel_rfl) (by kernel_rfl)
  have h224 := @run_callFunc_extern Tryz.prog 224 _ (ReflectliteType.relation "AssignableTo" ReflectliteType.assignableTo) Tryz.func224 (by kernel_rfl) (by kernel_rfl) (by kernel_rfl) (by kernel_rfl)
  have h158 := @run_callFunc_extern Tryz.prog 158 _ (ReflectliteValue.method (ReflectliteValue.valueError "reflectlite.Value.Elem" 0) ReflectliteValue.elem) Tryz.func158 (by kernel_rfl) (by kernel_rfl) (by kernel_rfl) (by kernel_rfl)
  have h159 := @run_callFunc_extern Tryz.prog 159 _ ReflectliteValue.set Tryz.func159 (by kernel_rfl) (by kernel_rfl) (by kernel_rfl) (by kernel_rfl)
  have tD := asTypeOfD
  have tL := asTypeOfL
  have mA := asMethodAssignableTo
  have aD := asAssignD
  have aL := asAssignL
  have mU := asMethodUnwrap
  have vL := asValueOfL b r
  have aN := asNo
  have aY := asYes
  go_enter Tryz.func137, Tryz.ntmps137
  go_wp2_with fail
  refine wp_loop_rounds 2 ?_
  rw [rounds_succ]
  go_wp2_with fail
  refine (unwrap_any _ _ _ _).mono ?_
  rintro e w2 ⟨rfl, b2⟩
  have z1 : Below w.heap.size w (w.alloc (.cells #[.pointer (some ⟨1, 131, none⟩), .pointer (some ⟨A, 0, none⟩), .int .u64 150] 171)) := (Below.refl _ _).alloc (Nat.le_refl _) _
  have v0 : w2.cell? ⟨w.heap.size, 0, none⟩ = some (.pointer (some ⟨1, 131, none⟩)) := (b2.cell (p := ⟨w.heap.size, 0, none⟩) (by simp)).trans (by simp)
  have v1 : w2.cell? ⟨w.heap.size, 1, none⟩ = some (.pointer (some ⟨A, 0, none⟩)) := (b2.cell (p := ⟨w.heap.size, 1, none⟩) (by simp)).trans (by simp)
  have v2 : w2.cell? ⟨w.heap.size, 2, none⟩ = some (.int .u64 150) := (b2.cell (p := ⟨w.heap.size, 2, none⟩) (by simp)).trans (by simp)
  have z2 := z1.trans (b2.mono z1.size)
  have z3 := z2.alloc z2.size (.cells #[.int .i64 b, .int .i64 r] 129)
  obtain ⟨t0, t1, f0, f1⟩ := hT _ z3
  have eV := asElemV ⟨A, 0, none⟩ ⟨T, 0, none⟩ w2 (hA _ z2)
  have sL := asSetL T w2.heap.size b r o0 o1 (w2.alloc (.cells #[.int .i64 b, .int .i64 r] 129)) (by simp) (by simp) t0 t1 f0 f1
  have fin : Below T w ((w2.alloc (.cells #[.int .i64 b, .int .i64 r] 129)).setCell ⟨T, 0, none⟩ (.int .i64 b) |>.setCell ⟨T, 1, none⟩ (.int .i64 r)) := (((z3.mono hTl)).setCell (Nat.le_refl _) _).setCell (Nat.le_refl _) _
  clear hA hT t0 t1 f0 f1 z1 z2 z3 b2
  go_wp2_with fail
  rw [rounds_succ]
  go_wp2_with fail
  go_ret
  exact ⟨rfl, fin⟩
set_option maxRecDepth 100000 in
set_option maxHeartbeats 4000000 in
theorem as_hit (p n b r : Int) (T : Nat) (o0 o1 : Value) (w : World) (hg : w.cell? ⟨0, 0, none⟩ = some (.iface 200 (.agg #[.pointer (some ⟨1, 106, none⟩)]))) (hT : ∀ w', Below w.heap.size w w' → w'.cell? ⟨T, 0, none⟩ = some o0 ∧ w'.cell? ⟨T, 1, none⟩ = some o1 ∧ w'.frozen? ⟨T, 0, none⟩ = false ∧ w'.frozen? ⟨T, 1, none⟩ = false) (hTl : T < w.heap.size) :
    Calls Tryz.prog 103 #[.iface 137 (.agg #[.int .i64 p, .int .i64 n, .iface 129 (.agg #[.int .i64 b, .int .i64 r])]), .iface 131 (.pointer (some ⟨T, 0, none⟩))] w fun ev w' => ev = .returned (.bool true) ∧ Below T w w' := by
  have h134 := @run_callFunc_extern Tryz.prog 134 _ (fun args => ReflectliteValue.unpack (args.getD 0 (.tuple #[]))) Tryz.func134 (by kernel_rfl) (by kernel_rfl) (by kernel_rfl) (by kernel_rfl)
  have h135 := @run_callFunc_extern Tryz.prog 135 _ (ReflectliteValue.methodAny (ReflectliteValue.valueError "reflectlite.Value.Type" 0) (fun t _ _ _ => ReflectliteType.toType t)) Tryz.func135 (by kernel_rfl) (by kernel_rfl) (by kernel_rfl) (by kernel_rfl)
  have h136 := @run_callFunc_extern Tryz.prog 136 _ (ReflectliteValue.method (ReflectliteValue.valueError "reflectlite.Value.IsNil" 0) ReflectliteValue.isNil) Tryz.func136 (by kernel_rfl) (by kernel_rfl) (by kernel_rfl) (by kernel_rfl)
  have h200 := @run_callFunc_extern Tryz.prog 200 _ (ReflectliteType.abiMethod fun t => do pure (.int .u8 (← Rtype.kind t))) Tryz.func200 (by kernel_rfl) (by kernel_rfl) (by kernel_rfl) (by kernel_rfl)
  have h226 := @run_callFunc_extern Tryz.prog 226 _ (ReflectliteType.method ReflectliteType.elem) Tryz.func226 (by kernel_rfl) (by kernel_rfl) (by kernel_rfl) (by kernel_rfl)
  have h227 := @run_callFunc_extern Tryz.prog 227 _ (ReflectliteType.relation "Implements" ReflectliteType.implements_) Tryz.func227 (by kernel_rfl) (by kernel_rfl) (by kernel_rfl) (by kernel_rfl)
  have f6 := asValueOfP ⟨T, 0, none⟩
  have f7 := asTypeP
  have mK := asMethodKind
  have mE := asMethodElem
  have mI := asMethodImplements
  have kP := asKindP
  have kL := asKindL
  have eP := asElemP
  have iL := asImplementsL
  have hlt : 0 < w.heap.size := Nat.lt_of_le_of_lt (Nat.zero_le _) hTl
  have z1 : Below w.heap.size w (w.alloc (.cells #[.pointer (some ⟨T, 0, none⟩)] 131)) := (Below.refl _ _).alloc (Nat.le_refl _) _
  have z2 := z1.alloc z1.size (.cells #[.pointer (some ⟨1, 131, none⟩), .pointer (some ⟨w.heap.size, 0, none⟩), .int .u64 150] 171)
  have n8 := asIsNilP ⟨w.heap.size, 0, none⟩ ⟨T, 0, none⟩ ((w.alloc (.cells #[.pointer (some ⟨T, 0, none⟩)] 131)).alloc (.cells #[.pointer (some ⟨1, 131, none⟩), .pointer (some ⟨w.heap.size, 0, none⟩), .int .u64 150] 171)) (by simp)
  have hg2 : ((w.alloc (.cells #[.pointer (some ⟨T, 0, none⟩)] 131)).alloc (.cells #[.pointer (some ⟨1, 131, none⟩), .pointer (some ⟨w.heap.size, 0, none⟩), .int .u64 150] 171)).cell? ⟨0, 0, none⟩ = some (.iface 200 (.agg #[.pointer (some ⟨1, 106, none⟩)])) := (z2.cell (p := ⟨0, 0, none⟩) hlt).trans hg
  have CA := as_any p n b r T w.heap.size o0 o1 ((w.alloc (.cells #[.pointer (some ⟨T, 0, none⟩)] 131)).alloc (.cells #[.pointer (some ⟨1, 131, none⟩), .pointer (some ⟨w.heap.size, 0, none⟩), .int .u64 150] 171))
    (fun w' hb => (hb.cell (p := ⟨w.heap.size, 0, none⟩) (by simp; omega)).trans (by simp)) (fun w' hb => hT w' (z2.trans (hb.mono z2.size))) (by have := z2.size; omega)
  have ZB := z2.mono (Nat.le_of_lt hTl)
  clear hT z1 z2 hg
  go_enter Tryz.func103, Tryz.ntmps103
  go_wp2_with fail
  refine CA.mono ?_
  rintro e w2 ⟨rfl, b2⟩
  have fin := ZB.trans b2
  clear CA ZB b2 n8 hg2
  go_wp2_with fail
  go_ret
  exact ⟨rfl, fin⟩
/-- whether it was for want of a right -/
theorem isDenied_no (w : World) : Calls Tryz.prog 79 #[.nilIface] w fun ev w' => ev = .returned (.bool false) ∧ Below w.heap.size w w' := by
  go_enter Tryz.func79, Tryz.ntmps79
  go_wp2_with fail
  refine (as_nil _ _).mono ?_
  rintro e w2 ⟨rfl, rfl⟩
  go_wp2_with fail
  go_ret
  exact ⟨rfl, (Below.refl _ _).alloc (Nat.le_refl _) _⟩
set_option maxHeartbeats 1600000 in
theorem isDenied_yes (p n b r : Int) (w : World) (hg : w.cell? ⟨0, 0, none⟩ = some (.iface 200 (.agg #[.pointer (some ⟨1, 106, none⟩)]))) : Calls Tryz.prog 79 #[.iface 137 (.agg #[.int .i64 p, .int .i64 n, .iface 129 (.agg #[.int .i64 b, .int .i64 r])])] w fun ev w' => ev = .returned (.bool true) ∧ Below w.heap.size w w' := by
  have hlt : 0 < w.heap.size := by
    rcases Nat.eq_zero_or_pos w.heap.size with h0 | h
    · simp [World.cell?, h0] at hg
    · exact h
  have z1 : Below w.heap.size w (w.alloc (.cells #[.int .i64 0, .int .i64 0] 129)) := (Below.refl _ _).alloc (Nat.le_refl _) _
  have CA := as_hit p n b r w.heap.size (.int .i64 0) (.int .i64 0) (w.alloc (.cells #[.int .i64 0, .int .i64 0] 129)) ((z1.cell (p := ⟨0, 0, none⟩) hlt).trans hg)
    (fun w' hb => ⟨(hb.cell (p := ⟨w.heap.size, 0, none⟩) (by simp)).trans (by simp), (hb.cell (p := ⟨w.heap.size, 1, none⟩) (by simp)).trans (by simp), by rw [frozen_of hb (by simp)]; simp, by rw [frozen_of hb (by simp)]; simp⟩) (by simp)
  clear hg
  go_enter Tryz.func79, Tryz.ntmps79
  go_wp2_with fail
  refine CA.mono ?_
  rintro e w2 ⟨rfl, b2⟩
  have fin := z1.trans b2
  clear CA z1 b2
  go_wp2_with fail
  go_ret
  exact ⟨rfl, fin⟩
end Go.Proofs.YtghgiefciijoeaaGreatDoor
