/-
  No cell of these rows narrows 'for every input' (looked for: loops, veiled, ifaces, maps, wideKeys, modest, calm, conditions, laid).
  DERIVED. THE GIVEN ROWS OF THIS SEAT. 16 by the template 'for every input the law returns true; each argument reads behind the call as it read before'; 0 by the template 'total and deterministic' (their statements: YthhadlhhckicjaaTotals.lean).
  GIVEN WITH THE SEED: the statements are not yours to turn. If you find one false, say at which input.
  Laid BY PROGRAM, IN A SANDBOX (cutbox-rows.mjs): the forced cells as the released guide's own fill.sh prints them over the translation 2c4f8da3c36cb7b6… (all of the seat's roots in one cut). By AI agents, Wed Nov 11 2026. No macro, syntax, notation, axiom, sorry.
-/
import Derived.Test.YthhadlhhckicjaaChecked
import GoSem.Claim
import GoSem.ClaimJoined
import GoSem.ClaimMapViews
import Derived.JoinedTies
import Derived.KernelRfl
namespace Go.Proofs.Ythhadlhhckicjaa
/- THE CELL 'sum', in the pinned program and in every row, IS THE sha256 OF THE DUMP (.gsa) THAT YthhadlhhckicjaaProg.lean LOADS. Nothing in Lean hashes anything: it is a label: what it is worth is what the hold of that sum in a sandbox is worth. -/
noncomputable def Try.pinned : Pinned := { name := "ythhadlhhckicjaa", sum := "2c4f8da3c36cb7b605d00afb74fe455e3b44ffdc0ee4b6f2a2ab59547ae8c930", checked := Try.checked }
namespace Rows
def none {H : Type} : Left H := { results := [], args := [] }

/-- 'laws.FnClocks': WHATEVER THE INPUT: true; the input reads as it did. -/
def fnClocksSpec : ChangeSpec := { name := "fnClocks", fn := fun _ => fun
  | [d] => { results := [.lit (.bool true)], args := [d] }
  | _ => none }
def fnClocksRow : OpenClaim := { program := "ythhadlhhckicjaa", sum := "2c4f8da3c36cb7b605d00afb74fe455e3b44ffdc0ee4b6f2a2ab59547ae8c930", func := "loop.example/g00717/laws.FnClocks", spec := "fnClocks", apart := false }
def FnClocksSaid : Prop := fnClocksRow.holds Try.pinned (OpenSpec.ofChange fnClocksSpec)

/-- ITS FALSE NEIGHBOUR: 'it returns false'. Refute it at one input. -/
def fnClocksWrong : ChangeSpec := { name := "fnClocks", fn := fun _ => fun
  | [d] => { results := [.lit (.bool false)], args := [d] }
  | _ => none }
def FnClocksWrongFalsely : Prop := fnClocksRow.holds Try.pinned (OpenSpec.ofChange fnClocksWrong)

/-- 'laws.FnLeq': WHATEVER THE INPUT: true; the input reads as it did. -/
def fnLeqSpec : ChangeSpec := { name := "fnLeq", fn := fun _ => fun
  | [d] => { results := [.lit (.bool true)], args := [d] }
  | _ => none }
def fnLeqRow : OpenClaim := { program := "ythhadlhhckicjaa", sum := "2c4f8da3c36cb7b605d00afb74fe455e3b44ffdc0ee4b6f2a2ab59547ae8c930", func := "loop.example/g00717/laws.FnLeq", spec := "fnLeq", apart := false }
def FnLeqSaid : Prop := fnLeqRow.holds Try.pinned (OpenSpec.ofChange fnLeqSpec)

/-- ITS FALSE NEIGHBOUR: 'it returns false'. Refute it at one input. -/
def fnLeqWrong : ChangeSpec := { name := "fnLeq", fn := fun _ => fun
  | [d] => { results := [.lit (.bool false)], args := [d] }
  | _ => none }
def FnLeqWrongFalsely : Prop := fnLeqRow.holds Try.pinned (OpenSpec.ofChange fnLeqWrong)

/-- 'laws.FnActs': WHATEVER THE INPUT: true; the input reads as it did. -/
def fnActsSpec : ChangeSpec := { name := "fnActs", fn := fun _ => fun
  | [d] => { results := [.lit (.bool true)], args := [d] }
  | _ => none }
def fnActsRow : OpenClaim := { program := "ythhadlhhckicjaa", sum := "2c4f8da3c36cb7b605d00afb74fe455e3b44ffdc0ee4b6f2a2ab59547ae8c930", func := "loop.example/g00717/laws.FnActs", spec := "fnActs", unfollowed := true, recurses := true, apart := false }
def FnActsSaid : Prop := fnActsRow.holds Try.pinned (OpenSpec.ofChange fnActsSpec)

/-- ITS FALSE NEIGHBOUR: 'it returns false'. Refute it at one input. -/
def fnActsWrong : ChangeSpec := { name := "fnActs", fn := fun _ => fun
  | [d] => { results := [.lit (.bool false)], args := [d] }
  | _ => none }
def FnActsWrongFalsely : Prop := fnActsRow.holds Try.pinned (OpenSpec.ofChange fnActsWrong)

/-- 'laws.FnAheads': WHATEVER THE INPUT: true; the input reads as it did. -/
def fnAheadsSpec : ChangeSpec := { name := "fnAheads", fn := fun _ => fun
  | [d] => { results := [.lit (.bool true)], args := [d] }
  | _ => none }
def fnAheadsRow : OpenClaim := { program := "ythhadlhhckicjaa", sum := "2c4f8da3c36cb7b605d00afb74fe455e3b44ffdc0ee4b6f2a2ab59547ae8c930", func := "loop.example/g00717/laws.FnAheads", spec := "fnAheads", unfollowed := true, recurses := true, apart := false }
def FnAheadsSaid : Prop := fnAheadsRow.holds Try.pinned (OpenSpec.ofChange fnAheadsSpec)

/-- ITS FALSE NEIGHBOUR: 'it returns false'. Refute it at one input. -/
def fnAheadsWrong : ChangeSpec := { name := "fnAheads", fn := fun _ => fun
  | [d] => { results := [.lit (.bool false)], args := [d] }
  | _ => none }
def FnAheadsWrongFalsely : Prop := fnAheadsRow.holds Try.pinned (OpenSpec.ofChange fnAheadsWrong)

/-- 'laws.FnNeeds': WHATEVER THE INPUT: true; the input reads as it did. -/
def fnNeedsSpec : ChangeSpec := { name := "fnNeeds", fn := fun _ => fun
  | [d] => { results := [.lit (.bool true)], args := [d] }
  | _ => none }
def fnNeedsRow : OpenClaim := { program := "ythhadlhhckicjaa", sum := "2c4f8da3c36cb7b605d00afb74fe455e3b44ffdc0ee4b6f2a2ab59547ae8c930", func := "loop.example/g00717/laws.FnNeeds", spec := "fnNeeds", unfollowed := true, recurses := true, apart := false }
def FnNeedsSaid : Prop := fnNeedsRow.holds Try.pinned (OpenSpec.ofChange fnNeedsSpec)

/-- ITS FALSE NEIGHBOUR: 'it returns false'. Refute it at one input. -/
def fnNeedsWrong : ChangeSpec := { name := "fnNeeds", fn := fun _ => fun
  | [d] => { results := [.lit (.bool false)], args := [d] }
  | _ => none }
def FnNeedsWrongFalsely : Prop := fnNeedsRow.holds Try.pinned (OpenSpec.ofChange fnNeedsWrong)

/-- 'laws.FnExactClockOk': WHATEVER THE INPUT: true; the input reads as it did. -/
def fnExactClockOkSpec : ChangeSpec := { name := "fnExactClockOk", fn := fun _ => fun
  | [d] => { results := [.lit (.bool true)], args := [d] }
  | _ => none }
def fnExactClockOkRow : OpenClaim := { program := "ythhadlhhckicjaa", sum := "2c4f8da3c36cb7b605d00afb74fe455e3b44ffdc0ee4b6f2a2ab59547ae8c930", func := "loop.example/g00717/laws.FnExactClockOk", spec := "fnExactClockOk", apart := false }
def FnExactClockOkSaid : Prop := fnExactClockOkRow.holds Try.pinned (OpenSpec.ofChange fnExactClockOkSpec)

/-- ITS FALSE NEIGHBOUR: 'it returns false'. Refute it at one input. -/
def fnExactClockOkWrong : ChangeSpec := { name := "fnExactClockOk", fn := fun _ => fun
  | [d] => { results := [.lit (.bool false)], args := [d] }
  | _ => none }
def FnExactClockOkWrongFalsely : Prop := fnExactClockOkRow.holds Try.pinned (OpenSpec.ofChange fnExactClockOkWrong)

/-- 'laws.FnExactClockLeq': WHATEVER THE INPUT: true; the input reads as it did. -/
def fnExactClockLeqSpec : ChangeSpec := { name := "fnExactClockLeq", fn := fun _ => fun
  | [d1, d2] => { results := [.lit (.bool true)], args := [d1, d2] }
  | _ => none }
def fnExactClockLeqRow : OpenClaim := { program := "ythhadlhhckicjaa", sum := "2c4f8da3c36cb7b605d00afb74fe455e3b44ffdc0ee4b6f2a2ab59547ae8c930", func := "loop.example/g00717/laws.FnExactClockLeq", spec := "fnExactClockLeq", apart := false }
def FnExactClockLeqSaid : Prop := fnExactClockLeqRow.holds Try.pinned (OpenSpec.ofChange fnExactClockLeqSpec)

/-- ITS FALSE NEIGHBOUR: 'it returns false'. Refute it at one input. -/
def fnExactClockLeqWrong : ChangeSpec := { name := "fnExactClockLeq", fn := fun _ => fun
  | [d1, d2] => { results := [.lit (.bool false)], args := [d1, d2] }
  | _ => none }
def FnExactClockLeqWrongFalsely : Prop := fnExactClockLeqRow.holds Try.pinned (OpenSpec.ofChange fnExactClockLeqWrong)

/-- 'laws.FnExactClockMax': WHATEVER THE INPUT: true; the input reads as it did. -/
def fnExactClockMaxSpec : ChangeSpec := { name := "fnExactClockMax", fn := fun _ => fun
  | [d1, d2] => { results := [.lit (.bool true)], args := [d1, d2] }
  | _ => none }
def fnExactClockMaxRow : OpenClaim := { program := "ythhadlhhckicjaa", sum := "2c4f8da3c36cb7b605d00afb74fe455e3b44ffdc0ee4b6f2a2ab59547ae8c930", func := "loop.example/g00717/laws.FnExactClockMax", spec := "fnExactClockMax", apart := false }
def FnExactClockMaxSaid : Prop := fnExactClockMaxRow.holds Try.pinned (OpenSpec.ofChange fnExactClockMaxSpec)

/-- ITS FALSE NEIGHBOUR: 'it returns false'. Refute it at one input. -/
def fnExactClockMaxWrong : ChangeSpec := { name := "fnExactClockMax", fn := fun _ => fun
  | [d1, d2] => { results := [.lit (.bool false)], args := [d1, d2] }
  | _ => none }
def FnExactClockMaxWrongFalsely : Prop := fnExactClockMaxRow.holds Try.pinned (OpenSpec.ofChange fnExactClockMaxWrong)

/-- 'laws.FnExactClockMin': WHATEVER THE INPUT: true; the input reads as it did. -/
def fnExactClockMinSpec : ChangeSpec := { name := "fnExactClockMin", fn := fun _ => fun
  | [d1, d2] => { results := [.lit (.bool true)], args := [d1, d2] }
  | _ => none }
def fnExactClockMinRow : OpenClaim := { program := "ythhadlhhckicjaa", sum := "2c4f8da3c36cb7b605d00afb74fe455e3b44ffdc0ee4b6f2a2ab59547ae8c930", func := "loop.example/g00717/laws.FnExactClockMin", spec := "fnExactClockMin", apart := false }
def FnExactClockMinSaid : Prop := fnExactClockMinRow.holds Try.pinned (OpenSpec.ofChange fnExactClockMinSpec)

/-- ITS FALSE NEIGHBOUR: 'it returns false'. Refute it at one input. -/
def fnExactClockMinWrong : ChangeSpec := { name := "fnExactClockMin", fn := fun _ => fun
  | [d1, d2] => { results := [.lit (.bool false)], args := [d1, d2] }
  | _ => none }
def FnExactClockMinWrongFalsely : Prop := fnExactClockMinRow.holds Try.pinned (OpenSpec.ofChange fnExactClockMinWrong)

/-- 'laws.FnExactClockSum': WHATEVER THE INPUT: true; the input reads as it did. -/
def fnExactClockSumSpec : ChangeSpec := { name := "fnExactClockSum", fn := fun _ => fun
  | [d] => { results := [.lit (.bool true)], args := [d] }
  | _ => none }
def fnExactClockSumRow : OpenClaim := { program := "ythhadlhhckicjaa", sum := "2c4f8da3c36cb7b605d00afb74fe455e3b44ffdc0ee4b6f2a2ab59547ae8c930", func := "loop.example/g00717/laws.FnExactClockSum", spec := "fnExactClockSum", apart := false }
def FnExactClockSumSaid : Prop := fnExactClockSumRow.holds Try.pinned (OpenSpec.ofChange fnExactClockSumSpec)

/-- ITS FALSE NEIGHBOUR: 'it returns false'. Refute it at one input. -/
def fnExactClockSumWrong : ChangeSpec := { name := "fnExactClockSum", fn := fun _ => fun
  | [d] => { results := [.lit (.bool false)], args := [d] }
  | _ => none }
def FnExactClockSumWrongFalsely : Prop := fnExactClockSumRow.holds Try.pinned (OpenSpec.ofChange fnExactClockSumWrong)

/-- 'laws.FnExactBeside': WHATEVER THE INPUT: true; the input reads as it did. -/
def fnExactBesideSpec : ChangeSpec := { name := "fnExactBeside", fn := fun _ => fun
  | [d1, d2] => { results := [.lit (.bool true)], args := [d1, d2] }
  | _ => none }
def fnExactBesideRow : OpenClaim := { program := "ythhadlhhckicjaa", sum := "2c4f8da3c36cb7b605d00afb74fe455e3b44ffdc0ee4b6f2a2ab59547ae8c930", func := "loop.example/g00717/laws.FnExactBeside", spec := "fnExactBeside", apart := false }
def FnExactBesideSaid : Prop := fnExactBesideRow.holds Try.pinned (OpenSpec.ofChange fnExactBesideSpec)

/-- ITS FALSE NEIGHBOUR: 'it returns false'. Refute it at one input. -/
def fnExactBesideWrong : ChangeSpec := { name := "fnExactBeside", fn := fun _ => fun
  | [d1, d2] => { results := [.lit (.bool false)], args := [d1, d2] }
  | _ => none }
def FnExactBesideWrongFalsely : Prop := fnExactBesideRow.holds Try.pinned (OpenSpec.ofChange fnExactBesideWrong)

/-- 'laws.FnExactActOk': WHATEVER THE INPUT: true; the input reads as it did. -/
def fnExactActOkSpec : ChangeSpec := { name := "fnExactActOk", fn := fun _ => fun
  | [d1, d2] => { results := [.lit (.bool true)], args := [d1, d2] }
  | _ => none }
def fnExactActOkRow : OpenClaim := { program := "ythhadlhhckicjaa", sum := "2c4f8da3c36cb7b605d00afb74fe455e3b44ffdc0ee4b6f2a2ab59547ae8c930", func := "loop.example/g00717/laws.FnExactActOk", spec := "fnExactActOk", unfollowed := true, recurses := true, apart := false }
def FnExactActOkSaid : Prop := fnExactActOkRow.holds Try.pinned (OpenSpec.ofChange fnExactActOkSpec)

/-- ITS FALSE NEIGHBOUR: 'it returns false'. Refute it at one input. -/
def fnExactActOkWrong : ChangeSpec := { name := "fnExactActOk", fn := fun _ => fun
  | [d1, d2] => { results := [.lit (.bool false)], args := [d1, d2] }
  | _ => none }
def FnExactActOkWrongFalsely : Prop := fnExactActOkRow.holds Try.pinned (OpenSpec.ofChange fnExactActOkWrong)

/-- 'laws.FnExactKnows': WHATEVER THE INPUT: true; the input reads as it did. -/
def fnExactKnowsSpec : ChangeSpec := { name := "fnExactKnows", fn := fun _ => fun
  | [d1, d2] => { results := [.lit (.bool true)], args := [d1, d2] }
  | _ => none }
def fnExactKnowsRow : OpenClaim := { program := "ythhadlhhckicjaa", sum := "2c4f8da3c36cb7b605d00afb74fe455e3b44ffdc0ee4b6f2a2ab59547ae8c930", func := "loop.example/g00717/laws.FnExactKnows", spec := "fnExactKnows", apart := false }
def FnExactKnowsSaid : Prop := fnExactKnowsRow.holds Try.pinned (OpenSpec.ofChange fnExactKnowsSpec)

/-- ITS FALSE NEIGHBOUR: 'it returns false'. Refute it at one input. -/
def fnExactKnowsWrong : ChangeSpec := { name := "fnExactKnows", fn := fun _ => fun
  | [d1, d2] => { results := [.lit (.bool false)], args := [d1, d2] }
  | _ => none }
def FnExactKnowsWrongFalsely : Prop := fnExactKnowsRow.holds Try.pinned (OpenSpec.ofChange fnExactKnowsWrong)

/-- 'laws.FnExactAhead': WHATEVER THE INPUT: true; the input reads as it did. -/
def fnExactAheadSpec : ChangeSpec := { name := "fnExactAhead", fn := fun _ => fun
  | [d1, d2] => { results := [.lit (.bool true)], args := [d1, d2] }
  | _ => none }
def fnExactAheadRow : OpenClaim := { program := "ythhadlhhckicjaa", sum := "2c4f8da3c36cb7b605d00afb74fe455e3b44ffdc0ee4b6f2a2ab59547ae8c930", func := "loop.example/g00717/laws.FnExactAhead", spec := "fnExactAhead", apart := false }
def FnExactAheadSaid : Prop := fnExactAheadRow.holds Try.pinned (OpenSpec.ofChange fnExactAheadSpec)

/-- ITS FALSE NEIGHBOUR: 'it returns false'. Refute it at one input. -/
def fnExactAheadWrong : ChangeSpec := { name := "fnExactAhead", fn := fun _ => fun
  | [d1, d2] => { results := [.lit (.bool false)], args := [d1, d2] }
  | _ => none }
def FnExactAheadWrongFalsely : Prop := fnExactAheadRow.holds Try.pinned (OpenSpec.ofChange fnExactAheadWrong)

/-- 'laws.FnExactNeeds': WHATEVER THE INPUT: true; the input reads as it did. -/
def fnExactNeedsSpec : ChangeSpec := { name := "fnExactNeeds", fn := fun _ => fun
  | [d1, d2] => { results := [.lit (.bool true)], args := [d1, d2] }
  | _ => none }
def fnExactNeedsRow : OpenClaim := { program := "ythhadlhhckicjaa", sum := "2c4f8da3c36cb7b605d00afb74fe455e3b44ffdc0ee4b6f2a2ab59547ae8c930", func := "loop.example/g00717/laws.FnExactNeeds", spec := "fnExactNeeds", apart := false }
def FnExactNeedsSaid : Prop := fnExactNeedsRow.holds Try.pinned (OpenSpec.ofChange fnExactNeedsSpec)

/-- ITS FALSE NEIGHBOUR: 'it returns false'. Refute it at one input. -/
def fnExactNeedsWrong : ChangeSpec := { name := "fnExactNeeds", fn := fun _ => fun
  | [d1, d2] => { results := [.lit (.bool false)], args := [d1, d2] }
  | _ => none }
def FnExactNeedsWrongFalsely : Prop := fnExactNeedsRow.holds Try.pinned (OpenSpec.ofChange fnExactNeedsWrong)

/-- 'laws.FnExactSameAct': WHATEVER THE INPUT: true; the input reads as it did. -/
def fnExactSameActSpec : ChangeSpec := { name := "fnExactSameAct", fn := fun _ => fun
  | [d1, d2] => { results := [.lit (.bool true)], args := [d1, d2] }
  | _ => none }
def fnExactSameActRow : OpenClaim := { program := "ythhadlhhckicjaa", sum := "2c4f8da3c36cb7b605d00afb74fe455e3b44ffdc0ee4b6f2a2ab59547ae8c930", func := "loop.example/g00717/laws.FnExactSameAct", spec := "fnExactSameAct", apart := false }
def FnExactSameActSaid : Prop := fnExactSameActRow.holds Try.pinned (OpenSpec.ofChange fnExactSameActSpec)

/-- ITS FALSE NEIGHBOUR: 'it returns false'. Refute it at one input. -/
def fnExactSameActWrong : ChangeSpec := { name := "fnExactSameAct", fn := fun _ => fun
  | [d1, d2] => { results := [.lit (.bool false)], args := [d1, d2] }
  | _ => none }
def FnExactSameActWrongFalsely : Prop := fnExactSameActRow.holds Try.pinned (OpenSpec.ofChange fnExactSameActWrong)

/- THE SECOND FORM. 'bulk': how many values and letters a reading holds, each counted each time it is reached (what is shared counts as often as it is met; a slice's spare places count too). A statement '..UptoSaid' is the law's where the arguments, and the package variables that the reading takes, are together of bulk at most 1048576: NARROWER than '..Said'. Prove '..Said' where nothing that the law and all that it calls make is longer than what came in: it says more and counts as full. Else prove '..UptoSaid'. A law counts once. -/
mutual
def uptoBulk {H : Type} : DataW H → Nat
  | .lit (.string bytes) => bytes.length + 1
  | .lit _ => 1
  | .nil => 1
  | .ptr d => uptoBulk d + 1
  | .slice elems spare => uptoBulkAll elems + uptoBulkAll spare + 1
  | .agg parts => uptoBulkAll parts + 1
  | .iface _ d => uptoBulk d + 1
  | .map entries => uptoBulkEntries entries + 1
  | .held _ => 1
def uptoBulkAll {H : Type} : List (DataW H) → Nat
  | [] => 0
  | d :: r => uptoBulk d + uptoBulkAll r
def uptoBulkEntries {H : Type} : List (Lit × DataW H) → Nat
  | [] => 0
  | x :: r => uptoBulkEntry x + uptoBulkEntries r
def uptoBulkEntry {H : Type} : Lit × DataW H → Nat
  | (.string bytes, d) => bytes.length + uptoBulk d + 1
  | (_, d) => uptoBulk d + 1
 end
def uptoSmall : (H : Type) → List (DataW H) → Bool := fun _ ds => decide (uptoBulkAll ds ≤ 1048576)
def OpenSpec.upto (s : _root_.Go.ChangeSpec) : _root_.Go.OpenSpec := { _root_.Go.OpenSpec.ofChange s with cond := some uptoSmall }

/-- 'laws.FnClocks', WHERE WHAT IT READS IS OF BULK AT MOST 1048576: true; the input reads as it did. -/
def fnClocksUptoRow : OpenClaim := { program := "ythhadlhhckicjaa", sum := "2c4f8da3c36cb7b605d00afb74fe455e3b44ffdc0ee4b6f2a2ab59547ae8c930", func := "loop.example/g00717/laws.FnClocks", spec := "fnClocks", apart := false, narrowed := true }
def FnClocksUptoSaid : Prop := fnClocksUptoRow.holds Try.pinned (OpenSpec.upto fnClocksSpec)

/-- 'laws.FnLeq', WHERE WHAT IT READS IS OF BULK AT MOST 1048576: true; the input reads as it did. -/
def fnLeqUptoRow : OpenClaim := { program := "ythhadlhhckicjaa", sum := "2c4f8da3c36cb7b605d00afb74fe455e3b44ffdc0ee4b6f2a2ab59547ae8c930", func := "loop.example/g00717/laws.FnLeq", spec := "fnLeq", apart := false, narrowed := true }
def FnLeqUptoSaid : Prop := fnLeqUptoRow.holds Try.pinned (OpenSpec.upto fnLeqSpec)

/-- 'laws.FnActs', WHERE WHAT IT READS IS OF BULK AT MOST 1048576: true; the input reads as it did. -/
def fnActsUptoRow : OpenClaim := { program := "ythhadlhhckicjaa", sum := "2c4f8da3c36cb7b605d00afb74fe455e3b44ffdc0ee4b6f2a2ab59547ae8c930", func := "loop.example/g00717/laws.FnActs", spec := "fnActs", unfollowed := true, recurses := true, apart := false, narrowed := true }
def FnActsUptoSaid : Prop := fnActsUptoRow.holds Try.pinned (OpenSpec.upto fnActsSpec)

/-- 'laws.FnAheads', WHERE WHAT IT READS IS OF BULK AT MOST 1048576: true; the input reads as it did. -/
def fnAheadsUptoRow : OpenClaim := { program := "ythhadlhhckicjaa", sum := "2c4f8da3c36cb7b605d00afb74fe455e3b44ffdc0ee4b6f2a2ab59547ae8c930", func := "loop.example/g00717/laws.FnAheads", spec := "fnAheads", unfollowed := true, recurses := true, apart := false, narrowed := true }
def FnAheadsUptoSaid : Prop := fnAheadsUptoRow.holds Try.pinned (OpenSpec.upto fnAheadsSpec)

/-- 'laws.FnNeeds', WHERE WHAT IT READS IS OF BULK AT MOST 1048576: true; the input reads as it did. -/
def fnNeedsUptoRow : OpenClaim := { program := "ythhadlhhckicjaa", sum := "2c4f8da3c36cb7b605d00afb74fe455e3b44ffdc0ee4b6f2a2ab59547ae8c930", func := "loop.example/g00717/laws.FnNeeds", spec := "fnNeeds", unfollowed := true, recurses := true, apart := false, narrowed := true }
def FnNeedsUptoSaid : Prop := fnNeedsUptoRow.holds Try.pinned (OpenSpec.upto fnNeedsSpec)

/-- 'laws.FnExactClockOk', WHERE WHAT IT READS IS OF BULK AT MOST 1048576: true; the input reads as it did. -/
def fnExactClockOkUptoRow : OpenClaim := { program := "ythhadlhhckicjaa", sum := "2c4f8da3c36cb7b605d00afb74fe455e3b44ffdc0ee4b6f2a2ab59547ae8c930", func := "loop.example/g00717/laws.FnExactClockOk", spec := "fnExactClockOk", apart := false, narrowed := true }
def FnExactClockOkUptoSaid : Prop := fnExactClockOkUptoRow.holds Try.pinned (OpenSpec.upto fnExactClockOkSpec)

/-- 'laws.FnExactClockLeq', WHERE WHAT IT READS IS OF BULK AT MOST 1048576: true; the input reads as it did. -/
def fnExactClockLeqUptoRow : OpenClaim := { program := "ythhadlhhckicjaa", sum := "2c4f8da3c36cb7b605d00afb74fe455e3b44ffdc0ee4b6f2a2ab59547ae8c930", func := "loop.example/g00717/laws.FnExactClockLeq", spec := "fnExactClockLeq", apart := false, narrowed := true }
def FnExactClockLeqUptoSaid : Prop := fnExactClockLeqUptoRow.holds Try.pinned (OpenSpec.upto fnExactClockLeqSpec)

/-- 'laws.FnExactClockMax', WHERE WHAT IT READS IS OF BULK AT MOST 1048576: true; the input reads as it did. -/
def fnExactClockMaxUptoRow : OpenClaim := { program := "ythhadlhhckicjaa", sum := "2c4f8da3c36cb7b605d00afb74fe455e3b44ffdc0ee4b6f2a2ab59547ae8c930", func := "loop.example/g00717/laws.FnExactClockMax", spec := "fnExactClockMax", apart := false, narrowed := true }
def FnExactClockMaxUptoSaid : Prop := fnExactClockMaxUptoRow.holds Try.pinned (OpenSpec.upto fnExactClockMaxSpec)

/-- 'laws.FnExactClockMin', WHERE WHAT IT READS IS OF BULK AT MOST 1048576: true; the input reads as it did. -/
def fnExactClockMinUptoRow : OpenClaim := { program := "ythhadlhhckicjaa", sum := "2c4f8da3c36cb7b605d00afb74fe455e3b44ffdc0ee4b6f2a2ab59547ae8c930", func := "loop.example/g00717/laws.FnExactClockMin", spec := "fnExactClockMin", apart := false, narrowed := true }
def FnExactClockMinUptoSaid : Prop := fnExactClockMinUptoRow.holds Try.pinned (OpenSpec.upto fnExactClockMinSpec)

/-- 'laws.FnExactClockSum', WHERE WHAT IT READS IS OF BULK AT MOST 1048576: true; the input reads as it did. -/
def fnExactClockSumUptoRow : OpenClaim := { program := "ythhadlhhckicjaa", sum := "2c4f8da3c36cb7b605d00afb74fe455e3b44ffdc0ee4b6f2a2ab59547ae8c930", func := "loop.example/g00717/laws.FnExactClockSum", spec := "fnExactClockSum", apart := false, narrowed := true }
def FnExactClockSumUptoSaid : Prop := fnExactClockSumUptoRow.holds Try.pinned (OpenSpec.upto fnExactClockSumSpec)

/-- 'laws.FnExactBeside', WHERE WHAT IT READS IS OF BULK AT MOST 1048576: true; the input reads as it did. -/
def fnExactBesideUptoRow : OpenClaim := { program := "ythhadlhhckicjaa", sum := "2c4f8da3c36cb7b605d00afb74fe455e3b44ffdc0ee4b6f2a2ab59547ae8c930", func := "loop.example/g00717/laws.FnExactBeside", spec := "fnExactBeside", apart := false, narrowed := true }
def FnExactBesideUptoSaid : Prop := fnExactBesideUptoRow.holds Try.pinned (OpenSpec.upto fnExactBesideSpec)

/-- 'laws.FnExactActOk', WHERE WHAT IT READS IS OF BULK AT MOST 1048576: true; the input reads as it did. -/
def fnExactActOkUptoRow : OpenClaim := { program := "ythhadlhhckicjaa", sum := "2c4f8da3c36cb7b605d00afb74fe455e3b44ffdc0ee4b6f2a2ab59547ae8c930", func := "loop.example/g00717/laws.FnExactActOk", spec := "fnExactActOk", unfollowed := true, recurses := true, apart := false, narrowed := true }
def FnExactActOkUptoSaid : Prop := fnExactActOkUptoRow.holds Try.pinned (OpenSpec.upto fnExactActOkSpec)

/-- 'laws.FnExactKnows', WHERE WHAT IT READS IS OF BULK AT MOST 1048576: true; the input reads as it did. -/
def fnExactKnowsUptoRow : OpenClaim := { program := "ythhadlhhckicjaa", sum := "2c4f8da3c36cb7b605d00afb74fe455e3b44ffdc0ee4b6f2a2ab59547ae8c930", func := "loop.example/g00717/laws.FnExactKnows", spec := "fnExactKnows", apart := false, narrowed := true }
def FnExactKnowsUptoSaid : Prop := fnExactKnowsUptoRow.holds Try.pinned (OpenSpec.upto fnExactKnowsSpec)

/-- 'laws.FnExactAhead', WHERE WHAT IT READS IS OF BULK AT MOST 1048576: true; the input reads as it did. -/
def fnExactAheadUptoRow : OpenClaim := { program := "ythhadlhhckicjaa", sum := "2c4f8da3c36cb7b605d00afb74fe455e3b44ffdc0ee4b6f2a2ab59547ae8c930", func := "loop.example/g00717/laws.FnExactAhead", spec := "fnExactAhead", apart := false, narrowed := true }
def FnExactAheadUptoSaid : Prop := fnExactAheadUptoRow.holds Try.pinned (OpenSpec.upto fnExactAheadSpec)

/-- 'laws.FnExactNeeds', WHERE WHAT IT READS IS OF BULK AT MOST 1048576: true; the input reads as it did. -/
def fnExactNeedsUptoRow : OpenClaim := { program := "ythhadlhhckicjaa", sum := "2c4f8da3c36cb7b605d00afb74fe455e3b44ffdc0ee4b6f2a2ab59547ae8c930", func := "loop.example/g00717/laws.FnExactNeeds", spec := "fnExactNeeds", apart := false, narrowed := true }
def FnExactNeedsUptoSaid : Prop := fnExactNeedsUptoRow.holds Try.pinned (OpenSpec.upto fnExactNeedsSpec)

/-- 'laws.FnExactSameAct', WHERE WHAT IT READS IS OF BULK AT MOST 1048576: true; the input reads as it did. -/
def fnExactSameActUptoRow : OpenClaim := { program := "ythhadlhhckicjaa", sum := "2c4f8da3c36cb7b605d00afb74fe455e3b44ffdc0ee4b6f2a2ab59547ae8c930", func := "loop.example/g00717/laws.FnExactSameAct", spec := "fnExactSameAct", apart := false, narrowed := true }
def FnExactSameActUptoSaid : Prop := fnExactSameActUptoRow.holds Try.pinned (OpenSpec.upto fnExactSameActSpec)

end Rows
end Go.Proofs.Ythhadlhhckicjaa
