/- eqActS at two readings of one list. -/
import Derived.Test.YtghgiefciijoeaaGreatDoorML

namespace Go.Proofs.YtghgiefciijoeaaGreatDoor
open Go.RowKit
set_option linter.unusedVariables false
theorem eqActS_any (v v' : Value) (l : List ActM) (w : World) (h : Acts w v l) (h' : Acts w v' l) : Calls Tryz.prog 26 #[v, v'] w fun e w' => e = .returned (.bool true) ∧ Below w.heap.size w w' := by
 obtain ⟨ts, rfl, ht⟩ := h
 obtain ⟨us, he, hu⟩ := h'
 have hm := actsT_max ht
 have hlen : ts.length = us.length := by simpa using congrArg List.length he
 rcases ht.2 with ⟨a, cap, rfl, rfl⟩ | ⟨b, off, cap, rfl, q1, q2, q3, q4⟩
 ·have hz : us = [] := List.eq_nil_of_length_eq_zero (by simpa using hlen.symm)
  subst hz
  obtain ⟨a', c', rfl⟩ := actsT_len hu
  go_enter Tryz.func26, Tryz.ntmps26
  go_wp2
  go_loop [5] (fun i => i = .int .i64 0) (fun _ => 0)
  case atStart => exact rfl
  case round =>
   obtain rfl := hrel
   go_wp2
   go_ret
   exact ⟨rfl, Below.refl _ _⟩
 ·rcases hu.2 with ⟨a', cap', rfl, rfl⟩ | ⟨b', off', cap', rfl, r1, r2, r3, r4⟩
  ·have hz : ts = [] := List.eq_nil_of_length_eq_zero (by simpa using hlen)
   subst hz
   go_enter Tryz.func26, Tryz.ntmps26
   go_wp2
   go_loop [5] (fun i => i = .int .i64 0) (fun _ => 0)
   case atStart => exact rfl
   case round =>
    obtain rfl := hrel
    go_wp2
    go_ret
    exact ⟨rfl, Below.refl _ _⟩
  ·rw [← hlen]
   exact eqActS_some b off cap b' off' cap' _ ts us w rfl hlen.symm he q1 r1 hm ht.1 hu.1 q4 (by rw [hlen]; exact r4)
end Go.Proofs.YtghgiefciijoeaaGreatDoor
