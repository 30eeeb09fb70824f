/- RH, RN. -/
import Derived.Test.YtcjoecjijmkbaaaGreatRB
import Derived.Test.YtcjoecjijmkbaaaGreatEA
import Derived.Test.YtcjoecjijmkbaaaGreatS
import Derived.Test.YtcjoecjijmkbaaaGreatHE
import Derived.Test.YtcjoecjijmkbaaaGreatMN
import Derived.Test.YtcjoecjijmkbaaaGreatHF
import Derived.Deep.DeepCutAuto
import Derived.StillTailTactics

namespace Go.Proofs.YtcjoecjijmkbaaaGreat
open Go.RowKit
set_option linter.unusedVariables false
set_option linter.unusedSimpArgs false
structure AX (w : World) (R s : Nat) (v : Value) (ts : List ActT) (W : World) : Prop where
 st : StillT W s v ts
 rs : R < s
 rw : w.heap.size ≤ R
 b : Below w.heap.size w W
theorem AX.set {w W : World} {R s : Nat} {v : Value} {ts : List ActT} (h : AX w R s v ts W) (j : Nat) (u : Value) : AX w R s v ts (W.setCell ⟨R, j, none⟩ u) :=
 ⟨h.st.cur (grown_set R j u) h.rs, h.rs, h.rw, h.b.setCell h.rw u⟩
theorem AX.call {w W W' : World} {R s B : Nat} {v : Value} {ts : List ActT} (h : AX w R s v ts W) (hg : W.grownBy W' (some B)) (hB : B < s) (hw : w.heap.size ≤ B) : AX w R s v ts W' :=
 ⟨h.st.cur hg hB, h.rs, h.rw, h.b.grown hg h.b.size (fun g e => by cases e; exact hw)⟩
theorem AX.drew {w W : World} {R s : Nat} {v : Value} {ts : List ActT} (h : AX w R s v ts W) : AX w R s v ts W.drew :=
 ⟨h.st.below (Below.refl _ _).drew, h.rs, h.rw, h.b.drew⟩
end Go.Proofs.YtcjoecjijmkbaaaGreat
namespace Go.Proofs.YtcjoecjijmkbaaaGreat
open Go.RowKit
set_option linter.unusedVariables false
structure LX (w : World) (B : Nat) (W : World) : Prop where
 bl : B < w.heap.size
 cu : Cur W B
 g : w.grownBy W (some B)
theorem LX.alloc {w W : World} {B : Nat} (h : LX w B W) (o : Obj) : LX w B (W.alloc o) :=
 ⟨h.bl, h.cu.grown (grown_alloc W o none) (fun g e => by cases e), grown_then h.g (grown_alloc W o none) (fun g e => by cases e)⟩
theorem LX.call {w W W' : World} {B : Nat} (h : LX w B W) (hc : Cur W' B) (hg : W.grownBy W' (some B)) : LX w B W' :=
 ⟨h.bl, hc, grown_then h.g hg (fun g e => .inl (by cases e; rfl))⟩
theorem LX.far {w W W' : World} {B g : Nat} (h : LX w B W) (hg : W.grownBy W' (some g)) (hw : w.heap.size ≤ g) : LX w B W' :=
 ⟨h.bl, h.cu.grown hg (fun k e => by cases e; have := h.bl; omega), grown_then h.g hg (fun k e => .inr (by cases e; exact hw))⟩
theorem LX.below {w W W' : World} {B : Nat} (h : LX w B W) (hb : Below W.heap.size W W') : LX w B W' :=
 ⟨h.bl, h.cu.grown (below_grown hb none) (fun g e => by cases e), grown_then h.g (below_grown hb none) (fun g e => by cases e)⟩
end Go.Proofs.YtcjoecjijmkbaaaGreat
