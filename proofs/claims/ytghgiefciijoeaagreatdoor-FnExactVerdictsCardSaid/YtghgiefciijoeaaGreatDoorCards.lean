/-
  DERIVED. GIVEN WITH THE SEED: THE CARDS: each row of YtghgiefciijoeaaGreatDoorRows.lean that lists a variable, with what it lists TIED to the program's text (the seventh form; the later family's looks); each row that meets fmt, with fmt's text TOLD by the authors' own Lean function (tested against real Go, not proved from fmt's source: count such statements apart). THE CARD IS WHAT COUNTS. Prove the row's statement (the work); the ties are given (YtghgiefciijoeaaGreatDoorTie.lean); close each card by the builder's one call (the guide's Derived/Test/ToyasCard.lean, 'card_holds'). Laid BY PROGRAM, IN A SANDBOX (cutbox-door.mjs). By AI agents, Wed Nov 11 2026. No macro, syntax, notation, axiom, sorry.
-/
import Derived.Test.YtghgiefciijoeaaGreatDoorRows
import GoSem.ClaimSeven
namespace Go.Proofs.YtghgiefciijoeaaGreatDoor
namespace Rows

/-- THE TIED CARD OF 'laws.FnKeeper'. -/
def fnKeeperCard : Claim7 := { stood := { row := fnKeeperRow, standIns := [], harness := (true, "a21f771d070d1551de39fd2c801063606beccbbe33f8e227fa4cf4c2553db014"), looks := true }, kinds := [], alts := [], laidByText := true, laidKinds := [.handle], laidTests := true, laidLooks := .later }
def FnKeeperCardSaid : Prop := Claim7.holds Tryz.pinned (.plain (OpenSpec.ofChange fnKeeperSpec)) fnKeeperCard

/-- THE TIED CARD OF 'laws.FnUpdates'. -/
def fnUpdatesCard : Claim7 := { stood := { row := fnUpdatesRow, standIns := [], harness := (true, "a21f771d070d1551de39fd2c801063606beccbbe33f8e227fa4cf4c2553db014"), looks := true }, kinds := [], alts := [], laidByText := true, laidKinds := [.handle], laidTests := true, laidLooks := .later }
def FnUpdatesCardSaid : Prop := Claim7.holds Tryz.pinned (.plain (OpenSpec.ofChange fnUpdatesSpec)) fnUpdatesCard

/-- THE TIED CARD OF 'laws.FnSettles'. -/
def fnSettlesCard : Claim7 := { stood := { row := fnSettlesRow, standIns := [], harness := (true, "a21f771d070d1551de39fd2c801063606beccbbe33f8e227fa4cf4c2553db014"), looks := true }, kinds := [], alts := [], laidByText := true, laidKinds := [.handle], laidTests := true, laidLooks := .later }
def FnSettlesCardSaid : Prop := Claim7.holds Tryz.pinned (.plain (OpenSpec.ofChange fnSettlesSpec)) fnSettlesCard

/-- THE TIED CARD OF 'laws.FnExactCounts'. -/
def fnExactCountsCard : Claim7 := { stood := { row := fnExactCountsRow, standIns := [], harness := (true, "a21f771d070d1551de39fd2c801063606beccbbe33f8e227fa4cf4c2553db014"), looks := true }, kinds := [], alts := [], laidByText := true, laidKinds := [.handle], laidTests := true, laidLooks := .later }
def FnExactCountsCardSaid : Prop := Claim7.holds Tryz.pinned (.plain (OpenSpec.ofChange fnExactCountsSpec)) fnExactCountsCard

/-- THE TIED CARD OF 'laws.FnExactVerdicts'. -/
def fnExactVerdictsCard : Claim7 := { stood := { row := fnExactVerdictsRow, standIns := [], harness := (true, "a21f771d070d1551de39fd2c801063606beccbbe33f8e227fa4cf4c2553db014"), looks := true }, kinds := [], alts := [], laidByText := true, laidKinds := [.handle], laidTests := true, laidLooks := .later }
def FnExactVerdictsCardSaid : Prop := Claim7.holds Tryz.pinned (.plain (OpenSpec.ofChange fnExactVerdictsSpec)) fnExactVerdictsCard

/-- THE TIED CARD OF 'laws.FnExactUpdate'. -/
def fnExactUpdateCard : Claim7 := { stood := { row := fnExactUpdateRow, standIns := [], harness := (true, "a21f771d070d1551de39fd2c801063606beccbbe33f8e227fa4cf4c2553db014"), looks := true }, kinds := [], alts := [], laidByText := true, laidKinds := [.handle], laidTests := true, laidLooks := .later }
def FnExactUpdateCardSaid : Prop := Claim7.holds Tryz.pinned (.plain (OpenSpec.ofChange fnExactUpdateSpec)) fnExactUpdateCard

/-- THE SECOND FORM's CARD OF 'laws.FnKeeper'. -/
def fnKeeperUptoCard : Claim7 := { stood := { row := fnKeeperUptoRow, standIns := [], harness := (true, "a21f771d070d1551de39fd2c801063606beccbbe33f8e227fa4cf4c2553db014"), looks := true }, kinds := [], alts := [], laidByText := true, laidKinds := [.handle], laidTests := true, laidLooks := .later }
def FnKeeperUptoCardSaid : Prop := Claim7.holds Tryz.pinned (.plain (OpenSpec.upto fnKeeperSpec)) fnKeeperUptoCard

/-- THE SECOND FORM's CARD OF 'laws.FnUpdates'. -/
def fnUpdatesUptoCard : Claim7 := { stood := { row := fnUpdatesUptoRow, standIns := [], harness := (true, "a21f771d070d1551de39fd2c801063606beccbbe33f8e227fa4cf4c2553db014"), looks := true }, kinds := [], alts := [], laidByText := true, laidKinds := [.handle], laidTests := true, laidLooks := .later }
def FnUpdatesUptoCardSaid : Prop := Claim7.holds Tryz.pinned (.plain (OpenSpec.upto fnUpdatesSpec)) fnUpdatesUptoCard

/-- THE SECOND FORM's CARD OF 'laws.FnSettles'. -/
def fnSettlesUptoCard : Claim7 := { stood := { row := fnSettlesUptoRow, standIns := [], harness := (true, "a21f771d070d1551de39fd2c801063606beccbbe33f8e227fa4cf4c2553db014"), looks := true }, kinds := [], alts := [], laidByText := true, laidKinds := [.handle], laidTests := true, laidLooks := .later }
def FnSettlesUptoCardSaid : Prop := Claim7.holds Tryz.pinned (.plain (OpenSpec.upto fnSettlesSpec)) fnSettlesUptoCard

/-- THE SECOND FORM's CARD OF 'laws.FnExactCounts'. -/
def fnExactCountsUptoCard : Claim7 := { stood := { row := fnExactCountsUptoRow, standIns := [], harness := (true, "a21f771d070d1551de39fd2c801063606beccbbe33f8e227fa4cf4c2553db014"), looks := true }, kinds := [], alts := [], laidByText := true, laidKinds := [.handle], laidTests := true, laidLooks := .later }
def FnExactCountsUptoCardSaid : Prop := Claim7.holds Tryz.pinned (.plain (OpenSpec.upto fnExactCountsSpec)) fnExactCountsUptoCard

/-- THE SECOND FORM's CARD OF 'laws.FnExactVerdicts'. -/
def fnExactVerdictsUptoCard : Claim7 := { stood := { row := fnExactVerdictsUptoRow, standIns := [], harness := (true, "a21f771d070d1551de39fd2c801063606beccbbe33f8e227fa4cf4c2553db014"), looks := true }, kinds := [], alts := [], laidByText := true, laidKinds := [.handle], laidTests := true, laidLooks := .later }
def FnExactVerdictsUptoCardSaid : Prop := Claim7.holds Tryz.pinned (.plain (OpenSpec.upto fnExactVerdictsSpec)) fnExactVerdictsUptoCard

/-- THE SECOND FORM's CARD OF 'laws.FnExactUpdate'. -/
def fnExactUpdateUptoCard : Claim7 := { stood := { row := fnExactUpdateUptoRow, standIns := [], harness := (true, "a21f771d070d1551de39fd2c801063606beccbbe33f8e227fa4cf4c2553db014"), looks := true }, kinds := [], alts := [], laidByText := true, laidKinds := [.handle], laidTests := true, laidLooks := .later }
def FnExactUpdateUptoCardSaid : Prop := Claim7.holds Tryz.pinned (.plain (OpenSpec.upto fnExactUpdateSpec)) fnExactUpdateUptoCard
end Rows
end Go.Proofs.YtghgiefciijoeaaGreatDoor
