/-
  No cell of these rows narrows 'for every input' (looked for: loops, veiled, ifaces, maps, wideKeys, modest, calm, conditions, laid).
  DERIVED. THE GIVEN ROWS OF THIS SEAT. 4 by the template 'for every input the law returns true; each argument reads behind the call as it read before'; 0 by the template 'total and deterministic' (their statements: YtcjoecjijmkbaaaGreatTotals.lean).
  GIVEN WITH THE SEED: the statements are not yours to turn. If you find one false, say at which input.
  Laid BY PROGRAM, IN A SANDBOX (cutbox-rows.mjs): the forced cells as the released guide's own fill.sh prints them over the translation 03841e97a004daff… (all of the seat's roots in one cut). By AI agents, Wed Nov 11 2026. No macro, syntax, notation, axiom, sorry.
-/
import Derived.Test.YtcjoecjijmkbaaaGreatChecked
import GoSem.Claim
import GoSem.ClaimJoined
import GoSem.ClaimMapViews
import Derived.JoinedTies
import Derived.KernelRfl
namespace Go.Proofs.YtcjoecjijmkbaaaGreat
/- THE CELL 'sum', in the pinned program and in every row, IS THE sha256 OF THE DUMP (.gsa) THAT YtcjoecjijmkbaaaGreatProg.lean LOADS. Nothing in Lean hashes anything: it is a label: what it is worth is what the hold of that sum in a sandbox is worth. -/
noncomputable def Tryz.pinned : Pinned := { name := "ytcjoecjijmkbaaagreat", sum := "03841e97a004daff92094fd38b897186736adaf8c56d4aec3e26cf73f749a46a", checked := Tryz.checked }
namespace Rows
def none {H : Type} : Left H := { results := [], args := [] }

/-- 'laws.FnHolds': WHATEVER THE INPUT: true; the input reads as it did. -/
def fnHoldsSpec : ChangeSpec := { name := "fnHolds", fn := fun _ => fun
  | [d] => { results := [.lit (.bool true)], args := [d] }
  | _ => none }
def fnHoldsRow : OpenClaim := { program := "ytcjoecjijmkbaaagreat", sum := "03841e97a004daff92094fd38b897186736adaf8c56d4aec3e26cf73f749a46a", func := "loop.example/g00717/laws.FnHolds", spec := "fnHolds", unfollowed := true, recurses := true, plainKeys := false, apart := false }
def FnHoldsSaid : Prop := fnHoldsRow.holds Tryz.pinned (OpenSpec.ofChange fnHoldsSpec)

/-- ITS FALSE NEIGHBOUR: 'it returns false'. Refute it at one input. -/
def fnHoldsWrong : ChangeSpec := { name := "fnHolds", fn := fun _ => fun
  | [d] => { results := [.lit (.bool false)], args := [d] }
  | _ => none }
def FnHoldsWrongFalsely : Prop := fnHoldsRow.holds Tryz.pinned (OpenSpec.ofChange fnHoldsWrong)

/-- 'laws.FnWithin': WHATEVER THE INPUT: true; the input reads as it did. -/
def fnWithinSpec : ChangeSpec := { name := "fnWithin", fn := fun _ => fun
  | [d] => { results := [.lit (.bool true)], args := [d] }
  | _ => none }
def fnWithinRow : OpenClaim := { program := "ytcjoecjijmkbaaagreat", sum := "03841e97a004daff92094fd38b897186736adaf8c56d4aec3e26cf73f749a46a", func := "loop.example/g00717/laws.FnWithin", spec := "fnWithin", unfollowed := true, recurses := true, plainKeys := false, apart := false }
def FnWithinSaid : Prop := fnWithinRow.holds Tryz.pinned (OpenSpec.ofChange fnWithinSpec)

/-- ITS FALSE NEIGHBOUR: 'it returns false'. Refute it at one input. -/
def fnWithinWrong : ChangeSpec := { name := "fnWithin", fn := fun _ => fun
  | [d] => { results := [.lit (.bool false)], args := [d] }
  | _ => none }
def FnWithinWrongFalsely : Prop := fnWithinRow.holds Tryz.pinned (OpenSpec.ofChange fnWithinWrong)

/-- 'laws.FnBack': WHATEVER THE INPUT: true; the input reads as it did. -/
def fnBackSpec : ChangeSpec := { name := "fnBack", fn := fun _ => fun
  | [d] => { results := [.lit (.bool true)], args := [d] }
  | _ => none }
def fnBackRow : OpenClaim := { program := "ytcjoecjijmkbaaagreat", sum := "03841e97a004daff92094fd38b897186736adaf8c56d4aec3e26cf73f749a46a", func := "loop.example/g00717/laws.FnBack", spec := "fnBack", unfollowed := true, recurses := true, plainKeys := false, apart := false }
def FnBackSaid : Prop := fnBackRow.holds Tryz.pinned (OpenSpec.ofChange fnBackSpec)

/-- ITS FALSE NEIGHBOUR: 'it returns false'. Refute it at one input. -/
def fnBackWrong : ChangeSpec := { name := "fnBack", fn := fun _ => fun
  | [d] => { results := [.lit (.bool false)], args := [d] }
  | _ => none }
def FnBackWrongFalsely : Prop := fnBackRow.holds Tryz.pinned (OpenSpec.ofChange fnBackWrong)

/-- 'laws.FnCeils': WHATEVER THE INPUT: true; the input reads as it did. -/
def fnCeilsSpec : ChangeSpec := { name := "fnCeils", fn := fun _ => fun
  | [d] => { results := [.lit (.bool true)], args := [d] }
  | _ => none }
def fnCeilsRow : OpenClaim := { program := "ytcjoecjijmkbaaagreat", sum := "03841e97a004daff92094fd38b897186736adaf8c56d4aec3e26cf73f749a46a", func := "loop.example/g00717/laws.FnCeils", spec := "fnCeils", unfollowed := true, recurses := true, plainKeys := false, apart := false }
def FnCeilsSaid : Prop := fnCeilsRow.holds Tryz.pinned (OpenSpec.ofChange fnCeilsSpec)

/-- ITS FALSE NEIGHBOUR: 'it returns false'. Refute it at one input. -/
def fnCeilsWrong : ChangeSpec := { name := "fnCeils", fn := fun _ => fun
  | [d] => { results := [.lit (.bool false)], args := [d] }
  | _ => none }
def FnCeilsWrongFalsely : Prop := fnCeilsRow.holds Tryz.pinned (OpenSpec.ofChange fnCeilsWrong)

/- THE SECOND FORM. 'bulk': how many values and letters a reading holds, each counted each time it is reached (what is shared counts as often as it is met; a slice's spare places count too). A statement '..UptoSaid' is the law's where the arguments, and the package variables that the reading takes, are together of bulk at most 1048576: NARROWER than '..Said'. Prove '..Said' where nothing that the law and all that it calls make is longer than what came in: it says more and counts as full. Else prove '..UptoSaid'. A law counts once. -/
mutual
def uptoBulk {H : Type} : DataW H → Nat
  | .lit (.string bytes) => bytes.length + 1
  | .lit _ => 1
  | .nil => 1
  | .ptr d => uptoBulk d + 1
  | .slice elems spare => uptoBulkAll elems + uptoBulkAll spare + 1
  | .agg parts => uptoBulkAll parts + 1
  | .iface _ d => uptoBulk d + 1
  | .map entries => uptoBulkEntries entries + 1
  | .held _ => 1
def uptoBulkAll {H : Type} : List (DataW H) → Nat
  | [] => 0
  | d :: r => uptoBulk d + uptoBulkAll r
def uptoBulkEntries {H : Type} : List (Lit × DataW H) → Nat
  | [] => 0
  | x :: r => uptoBulkEntry x + uptoBulkEntries r
def uptoBulkEntry {H : Type} : Lit × DataW H → Nat
  | (.string bytes, d) => bytes.length + uptoBulk d + 1
  | (_, d) => uptoBulk d + 1
 end
def uptoSmall : (H : Type) → List (DataW H) → Bool := fun _ ds => decide (uptoBulkAll ds ≤ 1048576)
def OpenSpec.upto (s : _root_.Go.ChangeSpec) : _root_.Go.OpenSpec := { _root_.Go.OpenSpec.ofChange s with cond := some uptoSmall }

/-- 'laws.FnHolds', WHERE WHAT IT READS IS OF BULK AT MOST 1048576: true; the input reads as it did. -/
def fnHoldsUptoRow : OpenClaim := { program := "ytcjoecjijmkbaaagreat", sum := "03841e97a004daff92094fd38b897186736adaf8c56d4aec3e26cf73f749a46a", func := "loop.example/g00717/laws.FnHolds", spec := "fnHolds", unfollowed := true, recurses := true, plainKeys := false, apart := false, narrowed := true }
def FnHoldsUptoSaid : Prop := fnHoldsUptoRow.holds Tryz.pinned (OpenSpec.upto fnHoldsSpec)

/-- 'laws.FnWithin', WHERE WHAT IT READS IS OF BULK AT MOST 1048576: true; the input reads as it did. -/
def fnWithinUptoRow : OpenClaim := { program := "ytcjoecjijmkbaaagreat", sum := "03841e97a004daff92094fd38b897186736adaf8c56d4aec3e26cf73f749a46a", func := "loop.example/g00717/laws.FnWithin", spec := "fnWithin", unfollowed := true, recurses := true, plainKeys := false, apart := false, narrowed := true }
def FnWithinUptoSaid : Prop := fnWithinUptoRow.holds Tryz.pinned (OpenSpec.upto fnWithinSpec)

/-- 'laws.FnBack', WHERE WHAT IT READS IS OF BULK AT MOST 1048576: true; the input reads as it did. -/
def fnBackUptoRow : OpenClaim := { program := "ytcjoecjijmkbaaagreat", sum := "03841e97a004daff92094fd38b897186736adaf8c56d4aec3e26cf73f749a46a", func := "loop.example/g00717/laws.FnBack", spec := "fnBack", unfollowed := true, recurses := true, plainKeys := false, apart := false, narrowed := true }
def FnBackUptoSaid : Prop := fnBackUptoRow.holds Tryz.pinned (OpenSpec.upto fnBackSpec)

/-- 'laws.FnCeils', WHERE WHAT IT READS IS OF BULK AT MOST 1048576: true; the input reads as it did. -/
def fnCeilsUptoRow : OpenClaim := { program := "ytcjoecjijmkbaaagreat", sum := "03841e97a004daff92094fd38b897186736adaf8c56d4aec3e26cf73f749a46a", func := "loop.example/g00717/laws.FnCeils", spec := "fnCeils", unfollowed := true, recurses := true, plainKeys := false, apart := false, narrowed := true }
def FnCeilsUptoSaid : Prop := fnCeilsUptoRow.holds Tryz.pinned (OpenSpec.upto fnCeilsSpec)

end Rows
end Go.Proofs.YtcjoecjijmkbaaaGreat
