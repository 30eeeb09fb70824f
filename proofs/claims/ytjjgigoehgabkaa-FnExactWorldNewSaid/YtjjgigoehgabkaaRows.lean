/-
  No cell of these rows narrows 'for every input' (looked for: loops, veiled, ifaces, maps, wideKeys, modest, calm, conditions, laid).
  DERIVED. THE GIVEN ROWS OF THIS SEAT. 17 by the template 'for every input the law returns true; each argument reads behind the call as it read before'; 0 by the template 'total and deterministic' (their statements: YtjjgigoehgabkaaTotals.lean).
  GIVEN WITH THE SEED: the statements are not yours to turn. If you find one false, say at which input.
  Laid BY PROGRAM, IN A SANDBOX (cutbox-rows.mjs): the forced cells as the released guide's own fill.sh prints them over the translation a8b5d4639854b497… (all of the seat's roots in one cut). By AI agents, Wed Nov 11 2026. No macro, syntax, notation, axiom, sorry.
-/
import Derived.Test.YtjjgigoehgabkaaChecked
import GoSem.Claim
import GoSem.ClaimJoined
import GoSem.ClaimMapViews
import Derived.JoinedTies
import Derived.KernelRfl
namespace Go.Proofs.Ytjjgigoehgabkaa
/- THE CELL 'sum', in the pinned program and in every row, IS THE sha256 OF THE DUMP (.gsa) THAT YtjjgigoehgabkaaProg.lean LOADS. Nothing in Lean hashes anything: it is a label: what it is worth is what the hold of that sum in a sandbox is worth. -/
noncomputable def Try.pinned : Pinned := { name := "ytjjgigoehgabkaa", sum := "a8b5d4639854b4978562b4f35db8ad294f88c6eabb3709ee3ec7bc18a657480b", checked := Try.checked }
namespace Rows
def none {H : Type} : Left H := { results := [], args := [] }

/-- 'laws.FnExactSetOk': WHATEVER THE INPUT: true; the input reads as it did. -/
def fnExactSetOkSpec : ChangeSpec := { name := "fnExactSetOk", fn := fun _ => fun
  | [d1, d2] => { results := [.lit (.bool true)], args := [d1, d2] }
  | _ => none }
def fnExactSetOkRow : OpenClaim := { program := "ytjjgigoehgabkaa", sum := "a8b5d4639854b4978562b4f35db8ad294f88c6eabb3709ee3ec7bc18a657480b", func := "loop.example/g00717/laws.FnExactSetOk", spec := "fnExactSetOk", unfollowed := true, recurses := true, plainKeys := false, apart := false }
def FnExactSetOkSaid : Prop := fnExactSetOkRow.holds Try.pinned (OpenSpec.ofChange fnExactSetOkSpec)

/-- ITS FALSE NEIGHBOUR: 'it returns false'. Refute it at one input. -/
def fnExactSetOkWrong : ChangeSpec := { name := "fnExactSetOk", fn := fun _ => fun
  | [d1, d2] => { results := [.lit (.bool false)], args := [d1, d2] }
  | _ => none }
def FnExactSetOkWrongFalsely : Prop := fnExactSetOkRow.holds Try.pinned (OpenSpec.ofChange fnExactSetOkWrong)

/-- 'laws.FnExactClockOf': WHATEVER THE INPUT: true; the input reads as it did. -/
def fnExactClockOfSpec : ChangeSpec := { name := "fnExactClockOf", fn := fun _ => fun
  | [d1, d2] => { results := [.lit (.bool true)], args := [d1, d2] }
  | _ => none }
def fnExactClockOfRow : OpenClaim := { program := "ytjjgigoehgabkaa", sum := "a8b5d4639854b4978562b4f35db8ad294f88c6eabb3709ee3ec7bc18a657480b", func := "loop.example/g00717/laws.FnExactClockOf", spec := "fnExactClockOf", unfollowed := true, recurses := true, plainKeys := false, apart := false }
def FnExactClockOfSaid : Prop := fnExactClockOfRow.holds Try.pinned (OpenSpec.ofChange fnExactClockOfSpec)

/-- ITS FALSE NEIGHBOUR: 'it returns false'. Refute it at one input. -/
def fnExactClockOfWrong : ChangeSpec := { name := "fnExactClockOf", fn := fun _ => fun
  | [d1, d2] => { results := [.lit (.bool false)], args := [d1, d2] }
  | _ => none }
def FnExactClockOfWrongFalsely : Prop := fnExactClockOfRow.holds Try.pinned (OpenSpec.ofChange fnExactClockOfWrong)

/-- 'laws.FnExactAddAct': WHATEVER THE INPUT: true; the input reads as it did. -/
def fnExactAddActSpec : ChangeSpec := { name := "fnExactAddAct", fn := fun _ => fun
  | [d1, d2, d3] => { results := [.lit (.bool true)], args := [d1, d2, d3] }
  | _ => none }
def fnExactAddActRow : OpenClaim := { program := "ytjjgigoehgabkaa", sum := "a8b5d4639854b4978562b4f35db8ad294f88c6eabb3709ee3ec7bc18a657480b", func := "loop.example/g00717/laws.FnExactAddAct", spec := "fnExactAddAct", inPlace := ["slices.overlaps[loop.example/g00717/impl.Act]"], unfollowed := true, recurses := true, plainKeys := false, apart := false }
def FnExactAddActSaid : Prop := fnExactAddActRow.holds Try.pinned (OpenSpec.ofChange fnExactAddActSpec)

/-- ITS FALSE NEIGHBOUR: 'it returns false'. Refute it at one input. -/
def fnExactAddActWrong : ChangeSpec := { name := "fnExactAddAct", fn := fun _ => fun
  | [d1, d2, d3] => { results := [.lit (.bool false)], args := [d1, d2, d3] }
  | _ => none }
def FnExactAddActWrongFalsely : Prop := fnExactAddActRow.holds Try.pinned (OpenSpec.ofChange fnExactAddActWrong)

/-- 'laws.FnExactUnion': WHATEVER THE INPUT: true; the input reads as it did. -/
def fnExactUnionSpec : ChangeSpec := { name := "fnExactUnion", fn := fun _ => fun
  | [d1, d2, d3] => { results := [.lit (.bool true)], args := [d1, d2, d3] }
  | _ => none }
def fnExactUnionRow : OpenClaim := { program := "ytjjgigoehgabkaa", sum := "a8b5d4639854b4978562b4f35db8ad294f88c6eabb3709ee3ec7bc18a657480b", func := "loop.example/g00717/laws.FnExactUnion", spec := "fnExactUnion", inPlace := ["slices.overlaps[loop.example/g00717/impl.Act]"], unfollowed := true, recurses := true, plainKeys := false, apart := false }
def FnExactUnionSaid : Prop := fnExactUnionRow.holds Try.pinned (OpenSpec.ofChange fnExactUnionSpec)

/-- ITS FALSE NEIGHBOUR: 'it returns false'. Refute it at one input. -/
def fnExactUnionWrong : ChangeSpec := { name := "fnExactUnion", fn := fun _ => fun
  | [d1, d2, d3] => { results := [.lit (.bool false)], args := [d1, d2, d3] }
  | _ => none }
def FnExactUnionWrongFalsely : Prop := fnExactUnionRow.holds Try.pinned (OpenSpec.ofChange fnExactUnionWrong)

/-- 'laws.FnExactPart': WHATEVER THE INPUT: true; the input reads as it did. -/
def fnExactPartSpec : ChangeSpec := { name := "fnExactPart", fn := fun _ => fun
  | [d1, d2, d3] => { results := [.lit (.bool true)], args := [d1, d2, d3] }
  | _ => none }
def fnExactPartRow : OpenClaim := { program := "ytjjgigoehgabkaa", sum := "a8b5d4639854b4978562b4f35db8ad294f88c6eabb3709ee3ec7bc18a657480b", func := "loop.example/g00717/laws.FnExactPart", spec := "fnExactPart", unfollowed := true, recurses := true, plainKeys := false, apart := false }
def FnExactPartSaid : Prop := fnExactPartRow.holds Try.pinned (OpenSpec.ofChange fnExactPartSpec)

/-- ITS FALSE NEIGHBOUR: 'it returns false'. Refute it at one input. -/
def fnExactPartWrong : ChangeSpec := { name := "fnExactPart", fn := fun _ => fun
  | [d1, d2, d3] => { results := [.lit (.bool false)], args := [d1, d2, d3] }
  | _ => none }
def FnExactPartWrongFalsely : Prop := fnExactPartRow.holds Try.pinned (OpenSpec.ofChange fnExactPartWrong)

/-- 'laws.FnExactLacks': WHATEVER THE INPUT: true; the input reads as it did. -/
def fnExactLacksSpec : ChangeSpec := { name := "fnExactLacks", fn := fun _ => fun
  | [d1, d2, d3] => { results := [.lit (.bool true)], args := [d1, d2, d3] }
  | _ => none }
def fnExactLacksRow : OpenClaim := { program := "ytjjgigoehgabkaa", sum := "a8b5d4639854b4978562b4f35db8ad294f88c6eabb3709ee3ec7bc18a657480b", func := "loop.example/g00717/laws.FnExactLacks", spec := "fnExactLacks", unfollowed := true, recurses := true, plainKeys := false, apart := false }
def FnExactLacksSaid : Prop := fnExactLacksRow.holds Try.pinned (OpenSpec.ofChange fnExactLacksSpec)

/-- ITS FALSE NEIGHBOUR: 'it returns false'. Refute it at one input. -/
def fnExactLacksWrong : ChangeSpec := { name := "fnExactLacks", fn := fun _ => fun
  | [d1, d2, d3] => { results := [.lit (.bool false)], args := [d1, d2, d3] }
  | _ => none }
def FnExactLacksWrongFalsely : Prop := fnExactLacksRow.holds Try.pinned (OpenSpec.ofChange fnExactLacksWrong)

/-- 'laws.FnExactEyeOf': WHATEVER THE INPUT: true; the input reads as it did. -/
def fnExactEyeOfSpec : ChangeSpec := { name := "fnExactEyeOf", fn := fun _ => fun
  | [d] => { results := [.lit (.bool true)], args := [d] }
  | _ => none }
def fnExactEyeOfRow : OpenClaim := { program := "ytjjgigoehgabkaa", sum := "a8b5d4639854b4978562b4f35db8ad294f88c6eabb3709ee3ec7bc18a657480b", func := "loop.example/g00717/laws.FnExactEyeOf", spec := "fnExactEyeOf", plainKeys := false, apart := false }
def FnExactEyeOfSaid : Prop := fnExactEyeOfRow.holds Try.pinned (OpenSpec.ofChange fnExactEyeOfSpec)

/-- ITS FALSE NEIGHBOUR: 'it returns false'. Refute it at one input. -/
def fnExactEyeOfWrong : ChangeSpec := { name := "fnExactEyeOf", fn := fun _ => fun
  | [d] => { results := [.lit (.bool false)], args := [d] }
  | _ => none }
def FnExactEyeOfWrongFalsely : Prop := fnExactEyeOfRow.holds Try.pinned (OpenSpec.ofChange fnExactEyeOfWrong)

/-- 'laws.FnExactEyeNow': WHATEVER THE INPUT: true; the input reads as it did. -/
def fnExactEyeNowSpec : ChangeSpec := { name := "fnExactEyeNow", fn := fun _ => fun
  | [d1, d2] => { results := [.lit (.bool true)], args := [d1, d2] }
  | _ => none }
def fnExactEyeNowRow : OpenClaim := { program := "ytjjgigoehgabkaa", sum := "a8b5d4639854b4978562b4f35db8ad294f88c6eabb3709ee3ec7bc18a657480b", func := "loop.example/g00717/laws.FnExactEyeNow", spec := "fnExactEyeNow", unfollowed := true, recurses := true, plainKeys := false, apart := false }
def FnExactEyeNowSaid : Prop := fnExactEyeNowRow.holds Try.pinned (OpenSpec.ofChange fnExactEyeNowSpec)

/-- ITS FALSE NEIGHBOUR: 'it returns false'. Refute it at one input. -/
def fnExactEyeNowWrong : ChangeSpec := { name := "fnExactEyeNow", fn := fun _ => fun
  | [d1, d2] => { results := [.lit (.bool false)], args := [d1, d2] }
  | _ => none }
def FnExactEyeNowWrongFalsely : Prop := fnExactEyeNowRow.holds Try.pinned (OpenSpec.ofChange fnExactEyeNowWrong)

/-- 'laws.FnExactTouched': WHATEVER THE INPUT: true; the input reads as it did. -/
def fnExactTouchedSpec : ChangeSpec := { name := "fnExactTouched", fn := fun _ => fun
  | [d1, d2, d3] => { results := [.lit (.bool true)], args := [d1, d2, d3] }
  | _ => none }
def fnExactTouchedRow : OpenClaim := { program := "ytjjgigoehgabkaa", sum := "a8b5d4639854b4978562b4f35db8ad294f88c6eabb3709ee3ec7bc18a657480b", func := "loop.example/g00717/laws.FnExactTouched", spec := "fnExactTouched", unfollowed := true, recurses := true, plainKeys := false, apart := false }
def FnExactTouchedSaid : Prop := fnExactTouchedRow.holds Try.pinned (OpenSpec.ofChange fnExactTouchedSpec)

/-- ITS FALSE NEIGHBOUR: 'it returns false'. Refute it at one input. -/
def fnExactTouchedWrong : ChangeSpec := { name := "fnExactTouched", fn := fun _ => fun
  | [d1, d2, d3] => { results := [.lit (.bool false)], args := [d1, d2, d3] }
  | _ => none }
def FnExactTouchedWrongFalsely : Prop := fnExactTouchedRow.holds Try.pinned (OpenSpec.ofChange fnExactTouchedWrong)

/-- 'laws.FnExactSameThings': WHATEVER THE INPUT: true; the input reads as it did. -/
def fnExactSameThingsSpec : ChangeSpec := { name := "fnExactSameThings", fn := fun _ => fun
  | [d1, d2] => { results := [.lit (.bool true)], args := [d1, d2] }
  | _ => none }
def fnExactSameThingsRow : OpenClaim := { program := "ytjjgigoehgabkaa", sum := "a8b5d4639854b4978562b4f35db8ad294f88c6eabb3709ee3ec7bc18a657480b", func := "loop.example/g00717/laws.FnExactSameThings", spec := "fnExactSameThings", unfollowed := true, recurses := true, plainKeys := false, apart := false }
def FnExactSameThingsSaid : Prop := fnExactSameThingsRow.holds Try.pinned (OpenSpec.ofChange fnExactSameThingsSpec)

/-- ITS FALSE NEIGHBOUR: 'it returns false'. Refute it at one input. -/
def fnExactSameThingsWrong : ChangeSpec := { name := "fnExactSameThings", fn := fun _ => fun
  | [d1, d2] => { results := [.lit (.bool false)], args := [d1, d2] }
  | _ => none }
def FnExactSameThingsWrongFalsely : Prop := fnExactSameThingsRow.holds Try.pinned (OpenSpec.ofChange fnExactSameThingsWrong)

/-- 'laws.FnExactPlaceNew': WHATEVER THE INPUT: true; the input reads as it did. -/
def fnExactPlaceNewSpec : ChangeSpec := { name := "fnExactPlaceNew", fn := fun _ => fun
  | [d1, d2] => { results := [.lit (.bool true)], args := [d1, d2] }
  | _ => none }
def fnExactPlaceNewRow : OpenClaim := { program := "ytjjgigoehgabkaa", sum := "a8b5d4639854b4978562b4f35db8ad294f88c6eabb3709ee3ec7bc18a657480b", func := "loop.example/g00717/laws.FnExactPlaceNew", spec := "fnExactPlaceNew", plainKeys := false, apart := false }
def FnExactPlaceNewSaid : Prop := fnExactPlaceNewRow.holds Try.pinned (OpenSpec.ofChange fnExactPlaceNewSpec)

/-- ITS FALSE NEIGHBOUR: 'it returns false'. Refute it at one input. -/
def fnExactPlaceNewWrong : ChangeSpec := { name := "fnExactPlaceNew", fn := fun _ => fun
  | [d1, d2] => { results := [.lit (.bool false)], args := [d1, d2] }
  | _ => none }
def FnExactPlaceNewWrongFalsely : Prop := fnExactPlaceNewRow.holds Try.pinned (OpenSpec.ofChange fnExactPlaceNewWrong)

/-- 'laws.FnExactUpCount': WHATEVER THE INPUT: true; the input reads as it did. -/
def fnExactUpCountSpec : ChangeSpec := { name := "fnExactUpCount", fn := fun _ => fun
  | [d] => { results := [.lit (.bool true)], args := [d] }
  | _ => none }
def fnExactUpCountRow : OpenClaim := { program := "ytjjgigoehgabkaa", sum := "a8b5d4639854b4978562b4f35db8ad294f88c6eabb3709ee3ec7bc18a657480b", func := "loop.example/g00717/laws.FnExactUpCount", spec := "fnExactUpCount", plainKeys := false, apart := false }
def FnExactUpCountSaid : Prop := fnExactUpCountRow.holds Try.pinned (OpenSpec.ofChange fnExactUpCountSpec)

/-- ITS FALSE NEIGHBOUR: 'it returns false'. Refute it at one input. -/
def fnExactUpCountWrong : ChangeSpec := { name := "fnExactUpCount", fn := fun _ => fun
  | [d] => { results := [.lit (.bool false)], args := [d] }
  | _ => none }
def FnExactUpCountWrongFalsely : Prop := fnExactUpCountRow.holds Try.pinned (OpenSpec.ofChange fnExactUpCountWrong)

/-- 'laws.FnExactMark': WHATEVER THE INPUT: true; the input reads as it did. -/
def fnExactMarkSpec : ChangeSpec := { name := "fnExactMark", fn := fun _ => fun
  | [d] => { results := [.lit (.bool true)], args := [d] }
  | _ => none }
def fnExactMarkRow : OpenClaim := { program := "ytjjgigoehgabkaa", sum := "a8b5d4639854b4978562b4f35db8ad294f88c6eabb3709ee3ec7bc18a657480b", func := "loop.example/g00717/laws.FnExactMark", spec := "fnExactMark", plainKeys := false, apart := false }
def FnExactMarkSaid : Prop := fnExactMarkRow.holds Try.pinned (OpenSpec.ofChange fnExactMarkSpec)

/-- ITS FALSE NEIGHBOUR: 'it returns false'. Refute it at one input. -/
def fnExactMarkWrong : ChangeSpec := { name := "fnExactMark", fn := fun _ => fun
  | [d] => { results := [.lit (.bool false)], args := [d] }
  | _ => none }
def FnExactMarkWrongFalsely : Prop := fnExactMarkRow.holds Try.pinned (OpenSpec.ofChange fnExactMarkWrong)

/-- 'laws.FnExactWorldNew': WHATEVER THE INPUT: true; the input reads as it did. -/
def fnExactWorldNewSpec : ChangeSpec := { name := "fnExactWorldNew", fn := fun _ => fun
  | [d] => { results := [.lit (.bool true)], args := [d] }
  | _ => none }
def fnExactWorldNewRow : OpenClaim := { program := "ytjjgigoehgabkaa", sum := "a8b5d4639854b4978562b4f35db8ad294f88c6eabb3709ee3ec7bc18a657480b", func := "loop.example/g00717/laws.FnExactWorldNew", spec := "fnExactWorldNew", plainKeys := false, apart := false }
def FnExactWorldNewSaid : Prop := fnExactWorldNewRow.holds Try.pinned (OpenSpec.ofChange fnExactWorldNewSpec)

/-- ITS FALSE NEIGHBOUR: 'it returns false'. Refute it at one input. -/
def fnExactWorldNewWrong : ChangeSpec := { name := "fnExactWorldNew", fn := fun _ => fun
  | [d] => { results := [.lit (.bool false)], args := [d] }
  | _ => none }
def FnExactWorldNewWrongFalsely : Prop := fnExactWorldNewRow.holds Try.pinned (OpenSpec.ofChange fnExactWorldNewWrong)

/-- 'laws.FnExactHolds': WHATEVER THE INPUT: true; the input reads as it did. -/
def fnExactHoldsSpec : ChangeSpec := { name := "fnExactHolds", fn := fun _ => fun
  | [d1, d2, d3, d4] => { results := [.lit (.bool true)], args := [d1, d2, d3, d4] }
  | _ => none }
def fnExactHoldsRow : OpenClaim := { program := "ytjjgigoehgabkaa", sum := "a8b5d4639854b4978562b4f35db8ad294f88c6eabb3709ee3ec7bc18a657480b", func := "loop.example/g00717/laws.FnExactHolds", spec := "fnExactHolds", unfollowed := true, recurses := true, plainKeys := false, apart := false }
def FnExactHoldsSaid : Prop := fnExactHoldsRow.holds Try.pinned (OpenSpec.ofChange fnExactHoldsSpec)

/-- ITS FALSE NEIGHBOUR: 'it returns false'. Refute it at one input. -/
def fnExactHoldsWrong : ChangeSpec := { name := "fnExactHolds", fn := fun _ => fun
  | [d1, d2, d3, d4] => { results := [.lit (.bool false)], args := [d1, d2, d3, d4] }
  | _ => none }
def FnExactHoldsWrongFalsely : Prop := fnExactHoldsRow.holds Try.pinned (OpenSpec.ofChange fnExactHoldsWrong)

/-- 'laws.FnExactCeiling': WHATEVER THE INPUT: true; the input reads as it did. -/
def fnExactCeilingSpec : ChangeSpec := { name := "fnExactCeiling", fn := fun _ => fun
  | [d1, d2, d3, d4] => { results := [.lit (.bool true)], args := [d1, d2, d3, d4] }
  | _ => none }
def fnExactCeilingRow : OpenClaim := { program := "ytjjgigoehgabkaa", sum := "a8b5d4639854b4978562b4f35db8ad294f88c6eabb3709ee3ec7bc18a657480b", func := "loop.example/g00717/laws.FnExactCeiling", spec := "fnExactCeiling", unfollowed := true, recurses := true, plainKeys := false, apart := false }
def FnExactCeilingSaid : Prop := fnExactCeilingRow.holds Try.pinned (OpenSpec.ofChange fnExactCeilingSpec)

/-- ITS FALSE NEIGHBOUR: 'it returns false'. Refute it at one input. -/
def fnExactCeilingWrong : ChangeSpec := { name := "fnExactCeiling", fn := fun _ => fun
  | [d1, d2, d3, d4] => { results := [.lit (.bool false)], args := [d1, d2, d3, d4] }
  | _ => none }
def FnExactCeilingWrongFalsely : Prop := fnExactCeilingRow.holds Try.pinned (OpenSpec.ofChange fnExactCeilingWrong)

/-- 'laws.FnExactSettled': WHATEVER THE INPUT: true; the input reads as it did. -/
def fnExactSettledSpec : ChangeSpec := { name := "fnExactSettled", fn := fun _ => fun
  | [d1, d2] => { results := [.lit (.bool true)], args := [d1, d2] }
  | _ => none }
def fnExactSettledRow : OpenClaim := { program := "ytjjgigoehgabkaa", sum := "a8b5d4639854b4978562b4f35db8ad294f88c6eabb3709ee3ec7bc18a657480b", func := "loop.example/g00717/laws.FnExactSettled", spec := "fnExactSettled", unfollowed := true, recurses := true, plainKeys := false, apart := false }
def FnExactSettledSaid : Prop := fnExactSettledRow.holds Try.pinned (OpenSpec.ofChange fnExactSettledSpec)

/-- ITS FALSE NEIGHBOUR: 'it returns false'. Refute it at one input. -/
def fnExactSettledWrong : ChangeSpec := { name := "fnExactSettled", fn := fun _ => fun
  | [d1, d2] => { results := [.lit (.bool false)], args := [d1, d2] }
  | _ => none }
def FnExactSettledWrongFalsely : Prop := fnExactSettledRow.holds Try.pinned (OpenSpec.ofChange fnExactSettledWrong)

/- THE SECOND FORM. 'bulk': how many values and letters a reading holds, each counted each time it is reached (what is shared counts as often as it is met; a slice's spare places count too). A statement '..UptoSaid' is the law's where the arguments, and the package variables that the reading takes, are together of bulk at most 1048576: NARROWER than '..Said'. Prove '..Said' where nothing that the law and all that it calls make is longer than what came in: it says more and counts as full. Else prove '..UptoSaid'. A law counts once. -/
mutual
def uptoBulk {H : Type} : DataW H → Nat
  | .lit (.string bytes) => bytes.length + 1
  | .lit _ => 1
  | .nil => 1
  | .ptr d => uptoBulk d + 1
  | .slice elems spare => uptoBulkAll elems + uptoBulkAll spare + 1
  | .agg parts => uptoBulkAll parts + 1
  | .iface _ d => uptoBulk d + 1
  | .map entries => uptoBulkEntries entries + 1
  | .held _ => 1
def uptoBulkAll {H : Type} : List (DataW H) → Nat
  | [] => 0
  | d :: r => uptoBulk d + uptoBulkAll r
def uptoBulkEntries {H : Type} : List (Lit × DataW H) → Nat
  | [] => 0
  | x :: r => uptoBulkEntry x + uptoBulkEntries r
def uptoBulkEntry {H : Type} : Lit × DataW H → Nat
  | (.string bytes, d) => bytes.length + uptoBulk d + 1
  | (_, d) => uptoBulk d + 1
 end
def uptoSmall : (H : Type) → List (DataW H) → Bool := fun _ ds => decide (uptoBulkAll ds ≤ 1048576)
def OpenSpec.upto (s : _root_.Go.ChangeSpec) : _root_.Go.OpenSpec := { _root_.Go.OpenSpec.ofChange s with cond := some uptoSmall }

/-- 'laws.FnExactSetOk', WHERE WHAT IT READS IS OF BULK AT MOST 1048576: true; the input reads as it did. -/
def fnExactSetOkUptoRow : OpenClaim := { program := "ytjjgigoehgabkaa", sum := "a8b5d4639854b4978562b4f35db8ad294f88c6eabb3709ee3ec7bc18a657480b", func := "loop.example/g00717/laws.FnExactSetOk", spec := "fnExactSetOk", unfollowed := true, recurses := true, plainKeys := false, apart := false, narrowed := true }
def FnExactSetOkUptoSaid : Prop := fnExactSetOkUptoRow.holds Try.pinned (OpenSpec.upto fnExactSetOkSpec)

/-- 'laws.FnExactClockOf', WHERE WHAT IT READS IS OF BULK AT MOST 1048576: true; the input reads as it did. -/
def fnExactClockOfUptoRow : OpenClaim := { program := "ytjjgigoehgabkaa", sum := "a8b5d4639854b4978562b4f35db8ad294f88c6eabb3709ee3ec7bc18a657480b", func := "loop.example/g00717/laws.FnExactClockOf", spec := "fnExactClockOf", unfollowed := true, recurses := true, plainKeys := false, apart := false, narrowed := true }
def FnExactClockOfUptoSaid : Prop := fnExactClockOfUptoRow.holds Try.pinned (OpenSpec.upto fnExactClockOfSpec)

/-- 'laws.FnExactAddAct', WHERE WHAT IT READS IS OF BULK AT MOST 1048576: true; the input reads as it did. -/
def fnExactAddActUptoRow : OpenClaim := { program := "ytjjgigoehgabkaa", sum := "a8b5d4639854b4978562b4f35db8ad294f88c6eabb3709ee3ec7bc18a657480b", func := "loop.example/g00717/laws.FnExactAddAct", spec := "fnExactAddAct", inPlace := ["slices.overlaps[loop.example/g00717/impl.Act]"], unfollowed := true, recurses := true, plainKeys := false, apart := false, narrowed := true }
def FnExactAddActUptoSaid : Prop := fnExactAddActUptoRow.holds Try.pinned (OpenSpec.upto fnExactAddActSpec)

/-- 'laws.FnExactUnion', WHERE WHAT IT READS IS OF BULK AT MOST 1048576: true; the input reads as it did. -/
def fnExactUnionUptoRow : OpenClaim := { program := "ytjjgigoehgabkaa", sum := "a8b5d4639854b4978562b4f35db8ad294f88c6eabb3709ee3ec7bc18a657480b", func := "loop.example/g00717/laws.FnExactUnion", spec := "fnExactUnion", inPlace := ["slices.overlaps[loop.example/g00717/impl.Act]"], unfollowed := true, recurses := true, plainKeys := false, apart := false, narrowed := true }
def FnExactUnionUptoSaid : Prop := fnExactUnionUptoRow.holds Try.pinned (OpenSpec.upto fnExactUnionSpec)

/-- 'laws.FnExactPart', WHERE WHAT IT READS IS OF BULK AT MOST 1048576: true; the input reads as it did. -/
def fnExactPartUptoRow : OpenClaim := { program := "ytjjgigoehgabkaa", sum := "a8b5d4639854b4978562b4f35db8ad294f88c6eabb3709ee3ec7bc18a657480b", func := "loop.example/g00717/laws.FnExactPart", spec := "fnExactPart", unfollowed := true, recurses := true, plainKeys := false, apart := false, narrowed := true }
def FnExactPartUptoSaid : Prop := fnExactPartUptoRow.holds Try.pinned (OpenSpec.upto fnExactPartSpec)

/-- 'laws.FnExactLacks', WHERE WHAT IT READS IS OF BULK AT MOST 1048576: true; the input reads as it did. -/
def fnExactLacksUptoRow : OpenClaim := { program := "ytjjgigoehgabkaa", sum := "a8b5d4639854b4978562b4f35db8ad294f88c6eabb3709ee3ec7bc18a657480b", func := "loop.example/g00717/laws.FnExactLacks", spec := "fnExactLacks", unfollowed := true, recurses := true, plainKeys := false, apart := false, narrowed := true }
def FnExactLacksUptoSaid : Prop := fnExactLacksUptoRow.holds Try.pinned (OpenSpec.upto fnExactLacksSpec)

/-- 'laws.FnExactEyeOf', WHERE WHAT IT READS IS OF BULK AT MOST 1048576: true; the input reads as it did. -/
def fnExactEyeOfUptoRow : OpenClaim := { program := "ytjjgigoehgabkaa", sum := "a8b5d4639854b4978562b4f35db8ad294f88c6eabb3709ee3ec7bc18a657480b", func := "loop.example/g00717/laws.FnExactEyeOf", spec := "fnExactEyeOf", plainKeys := false, apart := false, narrowed := true }
def FnExactEyeOfUptoSaid : Prop := fnExactEyeOfUptoRow.holds Try.pinned (OpenSpec.upto fnExactEyeOfSpec)

/-- 'laws.FnExactEyeNow', WHERE WHAT IT READS IS OF BULK AT MOST 1048576: true; the input reads as it did. -/
def fnExactEyeNowUptoRow : OpenClaim := { program := "ytjjgigoehgabkaa", sum := "a8b5d4639854b4978562b4f35db8ad294f88c6eabb3709ee3ec7bc18a657480b", func := "loop.example/g00717/laws.FnExactEyeNow", spec := "fnExactEyeNow", unfollowed := true, recurses := true, plainKeys := false, apart := false, narrowed := true }
def FnExactEyeNowUptoSaid : Prop := fnExactEyeNowUptoRow.holds Try.pinned (OpenSpec.upto fnExactEyeNowSpec)

/-- 'laws.FnExactTouched', WHERE WHAT IT READS IS OF BULK AT MOST 1048576: true; the input reads as it did. -/
def fnExactTouchedUptoRow : OpenClaim := { program := "ytjjgigoehgabkaa", sum := "a8b5d4639854b4978562b4f35db8ad294f88c6eabb3709ee3ec7bc18a657480b", func := "loop.example/g00717/laws.FnExactTouched", spec := "fnExactTouched", unfollowed := true, recurses := true, plainKeys := false, apart := false, narrowed := true }
def FnExactTouchedUptoSaid : Prop := fnExactTouchedUptoRow.holds Try.pinned (OpenSpec.upto fnExactTouchedSpec)

/-- 'laws.FnExactSameThings', WHERE WHAT IT READS IS OF BULK AT MOST 1048576: true; the input reads as it did. -/
def fnExactSameThingsUptoRow : OpenClaim := { program := "ytjjgigoehgabkaa", sum := "a8b5d4639854b4978562b4f35db8ad294f88c6eabb3709ee3ec7bc18a657480b", func := "loop.example/g00717/laws.FnExactSameThings", spec := "fnExactSameThings", unfollowed := true, recurses := true, plainKeys := false, apart := false, narrowed := true }
def FnExactSameThingsUptoSaid : Prop := fnExactSameThingsUptoRow.holds Try.pinned (OpenSpec.upto fnExactSameThingsSpec)

/-- 'laws.FnExactPlaceNew', WHERE WHAT IT READS IS OF BULK AT MOST 1048576: true; the input reads as it did. -/
def fnExactPlaceNewUptoRow : OpenClaim := { program := "ytjjgigoehgabkaa", sum := "a8b5d4639854b4978562b4f35db8ad294f88c6eabb3709ee3ec7bc18a657480b", func := "loop.example/g00717/laws.FnExactPlaceNew", spec := "fnExactPlaceNew", plainKeys := false, apart := false, narrowed := true }
def FnExactPlaceNewUptoSaid : Prop := fnExactPlaceNewUptoRow.holds Try.pinned (OpenSpec.upto fnExactPlaceNewSpec)

/-- 'laws.FnExactUpCount', WHERE WHAT IT READS IS OF BULK AT MOST 1048576: true; the input reads as it did. -/
def fnExactUpCountUptoRow : OpenClaim := { program := "ytjjgigoehgabkaa", sum := "a8b5d4639854b4978562b4f35db8ad294f88c6eabb3709ee3ec7bc18a657480b", func := "loop.example/g00717/laws.FnExactUpCount", spec := "fnExactUpCount", plainKeys := false, apart := false, narrowed := true }
def FnExactUpCountUptoSaid : Prop := fnExactUpCountUptoRow.holds Try.pinned (OpenSpec.upto fnExactUpCountSpec)

/-- 'laws.FnExactMark', WHERE WHAT IT READS IS OF BULK AT MOST 1048576: true; the input reads as it did. -/
def fnExactMarkUptoRow : OpenClaim := { program := "ytjjgigoehgabkaa", sum := "a8b5d4639854b4978562b4f35db8ad294f88c6eabb3709ee3ec7bc18a657480b", func := "loop.example/g00717/laws.FnExactMark", spec := "fnExactMark", plainKeys := false, apart := false, narrowed := true }
def FnExactMarkUptoSaid : Prop := fnExactMarkUptoRow.holds Try.pinned (OpenSpec.upto fnExactMarkSpec)

/-- 'laws.FnExactWorldNew', WHERE WHAT IT READS IS OF BULK AT MOST 1048576: true; the input reads as it did. -/
def fnExactWorldNewUptoRow : OpenClaim := { program := "ytjjgigoehgabkaa", sum := "a8b5d4639854b4978562b4f35db8ad294f88c6eabb3709ee3ec7bc18a657480b", func := "loop.example/g00717/laws.FnExactWorldNew", spec := "fnExactWorldNew", plainKeys := false, apart := false, narrowed := true }
def FnExactWorldNewUptoSaid : Prop := fnExactWorldNewUptoRow.holds Try.pinned (OpenSpec.upto fnExactWorldNewSpec)

/-- 'laws.FnExactHolds', WHERE WHAT IT READS IS OF BULK AT MOST 1048576: true; the input reads as it did. -/
def fnExactHoldsUptoRow : OpenClaim := { program := "ytjjgigoehgabkaa", sum := "a8b5d4639854b4978562b4f35db8ad294f88c6eabb3709ee3ec7bc18a657480b", func := "loop.example/g00717/laws.FnExactHolds", spec := "fnExactHolds", unfollowed := true, recurses := true, plainKeys := false, apart := false, narrowed := true }
def FnExactHoldsUptoSaid : Prop := fnExactHoldsUptoRow.holds Try.pinned (OpenSpec.upto fnExactHoldsSpec)

/-- 'laws.FnExactCeiling', WHERE WHAT IT READS IS OF BULK AT MOST 1048576: true; the input reads as it did. -/
def fnExactCeilingUptoRow : OpenClaim := { program := "ytjjgigoehgabkaa", sum := "a8b5d4639854b4978562b4f35db8ad294f88c6eabb3709ee3ec7bc18a657480b", func := "loop.example/g00717/laws.FnExactCeiling", spec := "fnExactCeiling", unfollowed := true, recurses := true, plainKeys := false, apart := false, narrowed := true }
def FnExactCeilingUptoSaid : Prop := fnExactCeilingUptoRow.holds Try.pinned (OpenSpec.upto fnExactCeilingSpec)

/-- 'laws.FnExactSettled', WHERE WHAT IT READS IS OF BULK AT MOST 1048576: true; the input reads as it did. -/
def fnExactSettledUptoRow : OpenClaim := { program := "ytjjgigoehgabkaa", sum := "a8b5d4639854b4978562b4f35db8ad294f88c6eabb3709ee3ec7bc18a657480b", func := "loop.example/g00717/laws.FnExactSettled", spec := "fnExactSettled", unfollowed := true, recurses := true, plainKeys := false, apart := false, narrowed := true }
def FnExactSettledUptoSaid : Prop := fnExactSettledUptoRow.holds Try.pinned (OpenSpec.upto fnExactSettledSpec)

end Rows
end Go.Proofs.Ytjjgigoehgabkaa
