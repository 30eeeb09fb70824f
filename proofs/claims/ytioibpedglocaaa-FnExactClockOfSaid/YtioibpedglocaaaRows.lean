/-
  No cell of these rows narrows 'for every input' (looked for: loops, veiled, ifaces, maps, wideKeys, modest, calm, conditions, laid).
  DERIVED. THE GIVEN ROWS OF THIS SEAT. 13 by the template 'for every input the law returns true; each argument reads behind the call as it read before'; 0 by the template 'total and deterministic' (their statements: YtioibpedglocaaaTotals.lean).
  GIVEN WITH THE SEED: the statements are not yours to turn. If you find one false, say at which input.
  Laid BY PROGRAM, IN A SANDBOX (cutbox-rows.mjs): the forced cells as the released guide's own fill.sh prints them over the translation e9ed907f245c2773… (all of the seat's roots in one cut). By AI agents, Wed Nov 11 2026. No macro, syntax, notation, axiom, sorry.
-/
import Derived.Test.YtioibpedglocaaaChecked
import GoSem.Claim
import GoSem.ClaimJoined
import GoSem.ClaimMapViews
import Derived.JoinedTies
import Derived.KernelRfl
namespace Go.Proofs.Ytioibpedglocaaa
/- THE CELL 'sum', in the pinned program and in every row, IS THE sha256 OF THE DUMP (.gsa) THAT YtioibpedglocaaaProg.lean LOADS. Nothing in Lean hashes anything: it is a label: what it is worth is what the hold of that sum in a sandbox is worth. -/
noncomputable def Try.pinned : Pinned := { name := "ytioibpedglocaaa", sum := "e9ed907f245c277360639b97d6c880e9e507a9e2cfba1519c9302458e70be3ef", checked := Try.checked }
namespace Rows
def none {H : Type} : Left H := { results := [], args := [] }

/-- 'laws.FnExactSetOk': WHATEVER THE INPUT: true; the input reads as it did. -/
def fnExactSetOkSpec : ChangeSpec := { name := "fnExactSetOk", fn := fun _ => fun
  | [d1, d2] => { results := [.lit (.bool true)], args := [d1, d2] }
  | _ => none }
def fnExactSetOkRow : OpenClaim := { program := "ytioibpedglocaaa", sum := "e9ed907f245c277360639b97d6c880e9e507a9e2cfba1519c9302458e70be3ef", func := "loop.example/g00717/laws.FnExactSetOk", spec := "fnExactSetOk", unfollowed := true, recurses := true, plainKeys := false, apart := false }
def FnExactSetOkSaid : Prop := fnExactSetOkRow.holds Try.pinned (OpenSpec.ofChange fnExactSetOkSpec)

/-- ITS FALSE NEIGHBOUR: 'it returns false'. Refute it at one input. -/
def fnExactSetOkWrong : ChangeSpec := { name := "fnExactSetOk", fn := fun _ => fun
  | [d1, d2] => { results := [.lit (.bool false)], args := [d1, d2] }
  | _ => none }
def FnExactSetOkWrongFalsely : Prop := fnExactSetOkRow.holds Try.pinned (OpenSpec.ofChange fnExactSetOkWrong)

/-- 'laws.FnExactClockOf': WHATEVER THE INPUT: true; the input reads as it did. -/
def fnExactClockOfSpec : ChangeSpec := { name := "fnExactClockOf", fn := fun _ => fun
  | [d1, d2] => { results := [.lit (.bool true)], args := [d1, d2] }
  | _ => none }
def fnExactClockOfRow : OpenClaim := { program := "ytioibpedglocaaa", sum := "e9ed907f245c277360639b97d6c880e9e507a9e2cfba1519c9302458e70be3ef", func := "loop.example/g00717/laws.FnExactClockOf", spec := "fnExactClockOf", unfollowed := true, recurses := true, plainKeys := false, apart := false }
def FnExactClockOfSaid : Prop := fnExactClockOfRow.holds Try.pinned (OpenSpec.ofChange fnExactClockOfSpec)

/-- ITS FALSE NEIGHBOUR: 'it returns false'. Refute it at one input. -/
def fnExactClockOfWrong : ChangeSpec := { name := "fnExactClockOf", fn := fun _ => fun
  | [d1, d2] => { results := [.lit (.bool false)], args := [d1, d2] }
  | _ => none }
def FnExactClockOfWrongFalsely : Prop := fnExactClockOfRow.holds Try.pinned (OpenSpec.ofChange fnExactClockOfWrong)

/-- 'laws.FnExactAddAct': WHATEVER THE INPUT: true; the input reads as it did. -/
def fnExactAddActSpec : ChangeSpec := { name := "fnExactAddAct", fn := fun _ => fun
  | [d1, d2, d3] => { results := [.lit (.bool true)], args := [d1, d2, d3] }
  | _ => none }
def fnExactAddActRow : OpenClaim := { program := "ytioibpedglocaaa", sum := "e9ed907f245c277360639b97d6c880e9e507a9e2cfba1519c9302458e70be3ef", func := "loop.example/g00717/laws.FnExactAddAct", spec := "fnExactAddAct", inPlace := ["slices.overlaps[loop.example/g00717/impl.Act]"], unfollowed := true, recurses := true, plainKeys := false, apart := false }
def FnExactAddActSaid : Prop := fnExactAddActRow.holds Try.pinned (OpenSpec.ofChange fnExactAddActSpec)

/-- ITS FALSE NEIGHBOUR: 'it returns false'. Refute it at one input. -/
def fnExactAddActWrong : ChangeSpec := { name := "fnExactAddAct", fn := fun _ => fun
  | [d1, d2, d3] => { results := [.lit (.bool false)], args := [d1, d2, d3] }
  | _ => none }
def FnExactAddActWrongFalsely : Prop := fnExactAddActRow.holds Try.pinned (OpenSpec.ofChange fnExactAddActWrong)

/-- 'laws.FnExactUnion': WHATEVER THE INPUT: true; the input reads as it did. -/
def fnExactUnionSpec : ChangeSpec := { name := "fnExactUnion", fn := fun _ => fun
  | [d1, d2, d3] => { results := [.lit (.bool true)], args := [d1, d2, d3] }
  | _ => none }
def fnExactUnionRow : OpenClaim := { program := "ytioibpedglocaaa", sum := "e9ed907f245c277360639b97d6c880e9e507a9e2cfba1519c9302458e70be3ef", func := "loop.example/g00717/laws.FnExactUnion", spec := "fnExactUnion", inPlace := ["slices.overlaps[loop.example/g00717/impl.Act]"], unfollowed := true, recurses := true, plainKeys := false, apart := false }
def FnExactUnionSaid : Prop := fnExactUnionRow.holds Try.pinned (OpenSpec.ofChange fnExactUnionSpec)

/-- ITS FALSE NEIGHBOUR: 'it returns false'. Refute it at one input. -/
def fnExactUnionWrong : ChangeSpec := { name := "fnExactUnion", fn := fun _ => fun
  | [d1, d2, d3] => { results := [.lit (.bool false)], args := [d1, d2, d3] }
  | _ => none }
def FnExactUnionWrongFalsely : Prop := fnExactUnionRow.holds Try.pinned (OpenSpec.ofChange fnExactUnionWrong)

/-- 'laws.FnExactPart': WHATEVER THE INPUT: true; the input reads as it did. -/
def fnExactPartSpec : ChangeSpec := { name := "fnExactPart", fn := fun _ => fun
  | [d1, d2, d3] => { results := [.lit (.bool true)], args := [d1, d2, d3] }
  | _ => none }
def fnExactPartRow : OpenClaim := { program := "ytioibpedglocaaa", sum := "e9ed907f245c277360639b97d6c880e9e507a9e2cfba1519c9302458e70be3ef", func := "loop.example/g00717/laws.FnExactPart", spec := "fnExactPart", unfollowed := true, recurses := true, plainKeys := false, apart := false }
def FnExactPartSaid : Prop := fnExactPartRow.holds Try.pinned (OpenSpec.ofChange fnExactPartSpec)

/-- ITS FALSE NEIGHBOUR: 'it returns false'. Refute it at one input. -/
def fnExactPartWrong : ChangeSpec := { name := "fnExactPart", fn := fun _ => fun
  | [d1, d2, d3] => { results := [.lit (.bool false)], args := [d1, d2, d3] }
  | _ => none }
def FnExactPartWrongFalsely : Prop := fnExactPartRow.holds Try.pinned (OpenSpec.ofChange fnExactPartWrong)

/-- 'laws.FnExactLacks': WHATEVER THE INPUT: true; the input reads as it did. -/
def fnExactLacksSpec : ChangeSpec := { name := "fnExactLacks", fn := fun _ => fun
  | [d1, d2, d3] => { results := [.lit (.bool true)], args := [d1, d2, d3] }
  | _ => none }
def fnExactLacksRow : OpenClaim := { program := "ytioibpedglocaaa", sum := "e9ed907f245c277360639b97d6c880e9e507a9e2cfba1519c9302458e70be3ef", func := "loop.example/g00717/laws.FnExactLacks", spec := "fnExactLacks", unfollowed := true, recurses := true, plainKeys := false, apart := false }
def FnExactLacksSaid : Prop := fnExactLacksRow.holds Try.pinned (OpenSpec.ofChange fnExactLacksSpec)

/-- ITS FALSE NEIGHBOUR: 'it returns false'. Refute it at one input. -/
def fnExactLacksWrong : ChangeSpec := { name := "fnExactLacks", fn := fun _ => fun
  | [d1, d2, d3] => { results := [.lit (.bool false)], args := [d1, d2, d3] }
  | _ => none }
def FnExactLacksWrongFalsely : Prop := fnExactLacksRow.holds Try.pinned (OpenSpec.ofChange fnExactLacksWrong)

/-- 'laws.FnExactClockMax': WHATEVER THE INPUT: true; the input reads as it did. -/
def fnExactClockMaxSpec : ChangeSpec := { name := "fnExactClockMax", fn := fun _ => fun
  | [d1, d2] => { results := [.lit (.bool true)], args := [d1, d2] }
  | _ => none }
def fnExactClockMaxRow : OpenClaim := { program := "ytioibpedglocaaa", sum := "e9ed907f245c277360639b97d6c880e9e507a9e2cfba1519c9302458e70be3ef", func := "loop.example/g00717/laws.FnExactClockMax", spec := "fnExactClockMax", plainKeys := false, apart := false }
def FnExactClockMaxSaid : Prop := fnExactClockMaxRow.holds Try.pinned (OpenSpec.ofChange fnExactClockMaxSpec)

/-- ITS FALSE NEIGHBOUR: 'it returns false'. Refute it at one input. -/
def fnExactClockMaxWrong : ChangeSpec := { name := "fnExactClockMax", fn := fun _ => fun
  | [d1, d2] => { results := [.lit (.bool false)], args := [d1, d2] }
  | _ => none }
def FnExactClockMaxWrongFalsely : Prop := fnExactClockMaxRow.holds Try.pinned (OpenSpec.ofChange fnExactClockMaxWrong)

/-- 'laws.FnExactEyeOf': WHATEVER THE INPUT: true; the input reads as it did. -/
def fnExactEyeOfSpec : ChangeSpec := { name := "fnExactEyeOf", fn := fun _ => fun
  | [d] => { results := [.lit (.bool true)], args := [d] }
  | _ => none }
def fnExactEyeOfRow : OpenClaim := { program := "ytioibpedglocaaa", sum := "e9ed907f245c277360639b97d6c880e9e507a9e2cfba1519c9302458e70be3ef", func := "loop.example/g00717/laws.FnExactEyeOf", spec := "fnExactEyeOf", plainKeys := false, apart := false }
def FnExactEyeOfSaid : Prop := fnExactEyeOfRow.holds Try.pinned (OpenSpec.ofChange fnExactEyeOfSpec)

/-- ITS FALSE NEIGHBOUR: 'it returns false'. Refute it at one input. -/
def fnExactEyeOfWrong : ChangeSpec := { name := "fnExactEyeOf", fn := fun _ => fun
  | [d] => { results := [.lit (.bool false)], args := [d] }
  | _ => none }
def FnExactEyeOfWrongFalsely : Prop := fnExactEyeOfRow.holds Try.pinned (OpenSpec.ofChange fnExactEyeOfWrong)

/-- 'laws.FnExactEyeNow': WHATEVER THE INPUT: true; the input reads as it did. -/
def fnExactEyeNowSpec : ChangeSpec := { name := "fnExactEyeNow", fn := fun _ => fun
  | [d1, d2] => { results := [.lit (.bool true)], args := [d1, d2] }
  | _ => none }
def fnExactEyeNowRow : OpenClaim := { program := "ytioibpedglocaaa", sum := "e9ed907f245c277360639b97d6c880e9e507a9e2cfba1519c9302458e70be3ef", func := "loop.example/g00717/laws.FnExactEyeNow", spec := "fnExactEyeNow", unfollowed := true, recurses := true, plainKeys := false, apart := false }
def FnExactEyeNowSaid : Prop := fnExactEyeNowRow.holds Try.pinned (OpenSpec.ofChange fnExactEyeNowSpec)

/-- ITS FALSE NEIGHBOUR: 'it returns false'. Refute it at one input. -/
def fnExactEyeNowWrong : ChangeSpec := { name := "fnExactEyeNow", fn := fun _ => fun
  | [d1, d2] => { results := [.lit (.bool false)], args := [d1, d2] }
  | _ => none }
def FnExactEyeNowWrongFalsely : Prop := fnExactEyeNowRow.holds Try.pinned (OpenSpec.ofChange fnExactEyeNowWrong)

/-- 'laws.FnExactHolds': WHATEVER THE INPUT: true; the input reads as it did. -/
def fnExactHoldsSpec : ChangeSpec := { name := "fnExactHolds", fn := fun _ => fun
  | [d1, d2, d3, d4] => { results := [.lit (.bool true)], args := [d1, d2, d3, d4] }
  | _ => none }
def fnExactHoldsRow : OpenClaim := { program := "ytioibpedglocaaa", sum := "e9ed907f245c277360639b97d6c880e9e507a9e2cfba1519c9302458e70be3ef", func := "loop.example/g00717/laws.FnExactHolds", spec := "fnExactHolds", unfollowed := true, recurses := true, plainKeys := false, apart := false }
def FnExactHoldsSaid : Prop := fnExactHoldsRow.holds Try.pinned (OpenSpec.ofChange fnExactHoldsSpec)

/-- ITS FALSE NEIGHBOUR: 'it returns false'. Refute it at one input. -/
def fnExactHoldsWrong : ChangeSpec := { name := "fnExactHolds", fn := fun _ => fun
  | [d1, d2, d3, d4] => { results := [.lit (.bool false)], args := [d1, d2, d3, d4] }
  | _ => none }
def FnExactHoldsWrongFalsely : Prop := fnExactHoldsRow.holds Try.pinned (OpenSpec.ofChange fnExactHoldsWrong)

/-- 'laws.FnExactCeiling': WHATEVER THE INPUT: true; the input reads as it did. -/
def fnExactCeilingSpec : ChangeSpec := { name := "fnExactCeiling", fn := fun _ => fun
  | [d1, d2, d3, d4] => { results := [.lit (.bool true)], args := [d1, d2, d3, d4] }
  | _ => none }
def fnExactCeilingRow : OpenClaim := { program := "ytioibpedglocaaa", sum := "e9ed907f245c277360639b97d6c880e9e507a9e2cfba1519c9302458e70be3ef", func := "loop.example/g00717/laws.FnExactCeiling", spec := "fnExactCeiling", unfollowed := true, recurses := true, plainKeys := false, apart := false }
def FnExactCeilingSaid : Prop := fnExactCeilingRow.holds Try.pinned (OpenSpec.ofChange fnExactCeilingSpec)

/-- ITS FALSE NEIGHBOUR: 'it returns false'. Refute it at one input. -/
def fnExactCeilingWrong : ChangeSpec := { name := "fnExactCeiling", fn := fun _ => fun
  | [d1, d2, d3, d4] => { results := [.lit (.bool false)], args := [d1, d2, d3, d4] }
  | _ => none }
def FnExactCeilingWrongFalsely : Prop := fnExactCeilingRow.holds Try.pinned (OpenSpec.ofChange fnExactCeilingWrong)

/-- 'laws.FnBack': WHATEVER THE INPUT: true; the input reads as it did. -/
def fnBackSpec : ChangeSpec := { name := "fnBack", fn := fun _ => fun
  | [d] => { results := [.lit (.bool true)], args := [d] }
  | _ => none }
def fnBackRow : OpenClaim := { program := "ytioibpedglocaaa", sum := "e9ed907f245c277360639b97d6c880e9e507a9e2cfba1519c9302458e70be3ef", func := "loop.example/g00717/laws.FnBack", spec := "fnBack", unfollowed := true, recurses := true, plainKeys := false, apart := false }
def FnBackSaid : Prop := fnBackRow.holds Try.pinned (OpenSpec.ofChange fnBackSpec)

/-- ITS FALSE NEIGHBOUR: 'it returns false'. Refute it at one input. -/
def fnBackWrong : ChangeSpec := { name := "fnBack", fn := fun _ => fun
  | [d] => { results := [.lit (.bool false)], args := [d] }
  | _ => none }
def FnBackWrongFalsely : Prop := fnBackRow.holds Try.pinned (OpenSpec.ofChange fnBackWrong)

/-- 'laws.FnCeils': WHATEVER THE INPUT: true; the input reads as it did. -/
def fnCeilsSpec : ChangeSpec := { name := "fnCeils", fn := fun _ => fun
  | [d] => { results := [.lit (.bool true)], args := [d] }
  | _ => none }
def fnCeilsRow : OpenClaim := { program := "ytioibpedglocaaa", sum := "e9ed907f245c277360639b97d6c880e9e507a9e2cfba1519c9302458e70be3ef", func := "loop.example/g00717/laws.FnCeils", spec := "fnCeils", unfollowed := true, recurses := true, plainKeys := false, apart := false }
def FnCeilsSaid : Prop := fnCeilsRow.holds Try.pinned (OpenSpec.ofChange fnCeilsSpec)

/-- ITS FALSE NEIGHBOUR: 'it returns false'. Refute it at one input. -/
def fnCeilsWrong : ChangeSpec := { name := "fnCeils", fn := fun _ => fun
  | [d] => { results := [.lit (.bool false)], args := [d] }
  | _ => none }
def FnCeilsWrongFalsely : Prop := fnCeilsRow.holds Try.pinned (OpenSpec.ofChange fnCeilsWrong)

/- THE SECOND FORM. 'bulk': how many values and letters a reading holds, each counted each time it is reached (what is shared counts as often as it is met; a slice's spare places count too). A statement '..UptoSaid' is the law's where the arguments, and the package variables that the reading takes, are together of bulk at most 1048576: NARROWER than '..Said'. Prove '..Said' where nothing that the law and all that it calls make is longer than what came in: it says more and counts as full. Else prove '..UptoSaid'. A law counts once. -/
mutual
def uptoBulk {H : Type} : DataW H → Nat
  | .lit (.string bytes) => bytes.length + 1
  | .lit _ => 1
  | .nil => 1
  | .ptr d => uptoBulk d + 1
  | .slice elems spare => uptoBulkAll elems + uptoBulkAll spare + 1
  | .agg parts => uptoBulkAll parts + 1
  | .iface _ d => uptoBulk d + 1
  | .map entries => uptoBulkEntries entries + 1
  | .held _ => 1
def uptoBulkAll {H : Type} : List (DataW H) → Nat
  | [] => 0
  | d :: r => uptoBulk d + uptoBulkAll r
def uptoBulkEntries {H : Type} : List (Lit × DataW H) → Nat
  | [] => 0
  | x :: r => uptoBulkEntry x + uptoBulkEntries r
def uptoBulkEntry {H : Type} : Lit × DataW H → Nat
  | (.string bytes, d) => bytes.length + uptoBulk d + 1
  | (_, d) => uptoBulk d + 1
 end
def uptoSmall : (H : Type) → List (DataW H) → Bool := fun _ ds => decide (uptoBulkAll ds ≤ 1048576)
def OpenSpec.upto (s : _root_.Go.ChangeSpec) : _root_.Go.OpenSpec := { _root_.Go.OpenSpec.ofChange s with cond := some uptoSmall }

/-- 'laws.FnExactSetOk', WHERE WHAT IT READS IS OF BULK AT MOST 1048576: true; the input reads as it did. -/
def fnExactSetOkUptoRow : OpenClaim := { program := "ytioibpedglocaaa", sum := "e9ed907f245c277360639b97d6c880e9e507a9e2cfba1519c9302458e70be3ef", func := "loop.example/g00717/laws.FnExactSetOk", spec := "fnExactSetOk", unfollowed := true, recurses := true, plainKeys := false, apart := false, narrowed := true }
def FnExactSetOkUptoSaid : Prop := fnExactSetOkUptoRow.holds Try.pinned (OpenSpec.upto fnExactSetOkSpec)

/-- 'laws.FnExactClockOf', WHERE WHAT IT READS IS OF BULK AT MOST 1048576: true; the input reads as it did. -/
def fnExactClockOfUptoRow : OpenClaim := { program := "ytioibpedglocaaa", sum := "e9ed907f245c277360639b97d6c880e9e507a9e2cfba1519c9302458e70be3ef", func := "loop.example/g00717/laws.FnExactClockOf", spec := "fnExactClockOf", unfollowed := true, recurses := true, plainKeys := false, apart := false, narrowed := true }
def FnExactClockOfUptoSaid : Prop := fnExactClockOfUptoRow.holds Try.pinned (OpenSpec.upto fnExactClockOfSpec)

/-- 'laws.FnExactAddAct', WHERE WHAT IT READS IS OF BULK AT MOST 1048576: true; the input reads as it did. -/
def fnExactAddActUptoRow : OpenClaim := { program := "ytioibpedglocaaa", sum := "e9ed907f245c277360639b97d6c880e9e507a9e2cfba1519c9302458e70be3ef", func := "loop.example/g00717/laws.FnExactAddAct", spec := "fnExactAddAct", inPlace := ["slices.overlaps[loop.example/g00717/impl.Act]"], unfollowed := true, recurses := true, plainKeys := false, apart := false, narrowed := true }
def FnExactAddActUptoSaid : Prop := fnExactAddActUptoRow.holds Try.pinned (OpenSpec.upto fnExactAddActSpec)

/-- 'laws.FnExactUnion', WHERE WHAT IT READS IS OF BULK AT MOST 1048576: true; the input reads as it did. -/
def fnExactUnionUptoRow : OpenClaim := { program := "ytioibpedglocaaa", sum := "e9ed907f245c277360639b97d6c880e9e507a9e2cfba1519c9302458e70be3ef", func := "loop.example/g00717/laws.FnExactUnion", spec := "fnExactUnion", inPlace := ["slices.overlaps[loop.example/g00717/impl.Act]"], unfollowed := true, recurses := true, plainKeys := false, apart := false, narrowed := true }
def FnExactUnionUptoSaid : Prop := fnExactUnionUptoRow.holds Try.pinned (OpenSpec.upto fnExactUnionSpec)

/-- 'laws.FnExactPart', WHERE WHAT IT READS IS OF BULK AT MOST 1048576: true; the input reads as it did. -/
def fnExactPartUptoRow : OpenClaim := { program := "ytioibpedglocaaa", sum := "e9ed907f245c277360639b97d6c880e9e507a9e2cfba1519c9302458e70be3ef", func := "loop.example/g00717/laws.FnExactPart", spec := "fnExactPart", unfollowed := true, recurses := true, plainKeys := false, apart := false, narrowed := true }
def FnExactPartUptoSaid : Prop := fnExactPartUptoRow.holds Try.pinned (OpenSpec.upto fnExactPartSpec)

/-- 'laws.FnExactLacks', WHERE WHAT IT READS IS OF BULK AT MOST 1048576: true; the input reads as it did. -/
def fnExactLacksUptoRow : OpenClaim := { program := "ytioibpedglocaaa", sum := "e9ed907f245c277360639b97d6c880e9e507a9e2cfba1519c9302458e70be3ef", func := "loop.example/g00717/laws.FnExactLacks", spec := "fnExactLacks", unfollowed := true, recurses := true, plainKeys := false, apart := false, narrowed := true }
def FnExactLacksUptoSaid : Prop := fnExactLacksUptoRow.holds Try.pinned (OpenSpec.upto fnExactLacksSpec)

/-- 'laws.FnExactClockMax', WHERE WHAT IT READS IS OF BULK AT MOST 1048576: true; the input reads as it did. -/
def fnExactClockMaxUptoRow : OpenClaim := { program := "ytioibpedglocaaa", sum := "e9ed907f245c277360639b97d6c880e9e507a9e2cfba1519c9302458e70be3ef", func := "loop.example/g00717/laws.FnExactClockMax", spec := "fnExactClockMax", plainKeys := false, apart := false, narrowed := true }
def FnExactClockMaxUptoSaid : Prop := fnExactClockMaxUptoRow.holds Try.pinned (OpenSpec.upto fnExactClockMaxSpec)

/-- 'laws.FnExactEyeOf', WHERE WHAT IT READS IS OF BULK AT MOST 1048576: true; the input reads as it did. -/
def fnExactEyeOfUptoRow : OpenClaim := { program := "ytioibpedglocaaa", sum := "e9ed907f245c277360639b97d6c880e9e507a9e2cfba1519c9302458e70be3ef", func := "loop.example/g00717/laws.FnExactEyeOf", spec := "fnExactEyeOf", plainKeys := false, apart := false, narrowed := true }
def FnExactEyeOfUptoSaid : Prop := fnExactEyeOfUptoRow.holds Try.pinned (OpenSpec.upto fnExactEyeOfSpec)

/-- 'laws.FnExactEyeNow', WHERE WHAT IT READS IS OF BULK AT MOST 1048576: true; the input reads as it did. -/
def fnExactEyeNowUptoRow : OpenClaim := { program := "ytioibpedglocaaa", sum := "e9ed907f245c277360639b97d6c880e9e507a9e2cfba1519c9302458e70be3ef", func := "loop.example/g00717/laws.FnExactEyeNow", spec := "fnExactEyeNow", unfollowed := true, recurses := true, plainKeys := false, apart := false, narrowed := true }
def FnExactEyeNowUptoSaid : Prop := fnExactEyeNowUptoRow.holds Try.pinned (OpenSpec.upto fnExactEyeNowSpec)

/-- 'laws.FnExactHolds', WHERE WHAT IT READS IS OF BULK AT MOST 1048576: true; the input reads as it did. -/
def fnExactHoldsUptoRow : OpenClaim := { program := "ytioibpedglocaaa", sum := "e9ed907f245c277360639b97d6c880e9e507a9e2cfba1519c9302458e70be3ef", func := "loop.example/g00717/laws.FnExactHolds", spec := "fnExactHolds", unfollowed := true, recurses := true, plainKeys := false, apart := false, narrowed := true }
def FnExactHoldsUptoSaid : Prop := fnExactHoldsUptoRow.holds Try.pinned (OpenSpec.upto fnExactHoldsSpec)

/-- 'laws.FnExactCeiling', WHERE WHAT IT READS IS OF BULK AT MOST 1048576: true; the input reads as it did. -/
def fnExactCeilingUptoRow : OpenClaim := { program := "ytioibpedglocaaa", sum := "e9ed907f245c277360639b97d6c880e9e507a9e2cfba1519c9302458e70be3ef", func := "loop.example/g00717/laws.FnExactCeiling", spec := "fnExactCeiling", unfollowed := true, recurses := true, plainKeys := false, apart := false, narrowed := true }
def FnExactCeilingUptoSaid : Prop := fnExactCeilingUptoRow.holds Try.pinned (OpenSpec.upto fnExactCeilingSpec)

/-- 'laws.FnBack', WHERE WHAT IT READS IS OF BULK AT MOST 1048576: true; the input reads as it did. -/
def fnBackUptoRow : OpenClaim := { program := "ytioibpedglocaaa", sum := "e9ed907f245c277360639b97d6c880e9e507a9e2cfba1519c9302458e70be3ef", func := "loop.example/g00717/laws.FnBack", spec := "fnBack", unfollowed := true, recurses := true, plainKeys := false, apart := false, narrowed := true }
def FnBackUptoSaid : Prop := fnBackUptoRow.holds Try.pinned (OpenSpec.upto fnBackSpec)

/-- 'laws.FnCeils', WHERE WHAT IT READS IS OF BULK AT MOST 1048576: true; the input reads as it did. -/
def fnCeilsUptoRow : OpenClaim := { program := "ytioibpedglocaaa", sum := "e9ed907f245c277360639b97d6c880e9e507a9e2cfba1519c9302458e70be3ef", func := "loop.example/g00717/laws.FnCeils", spec := "fnCeils", unfollowed := true, recurses := true, plainKeys := false, apart := false, narrowed := true }
def FnCeilsUptoSaid : Prop := fnCeilsUptoRow.holds Try.pinned (OpenSpec.upto fnCeilsSpec)

end Rows
end Go.Proofs.Ytioibpedglocaaa
