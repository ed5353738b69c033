/-
  DERIVED. GIVEN WITH THE SEED: THE CARDS: each row of YtfdbnolifimnhabDoorRows.lean that lists a variable, with what it lists TIED to the program's text (the seventh form; the later family's looks); each row that meets fmt, with fmt's text TOLD by the authors' own Lean function (tested against real Go, not proved from fmt's source: count such statements apart). THE CARD IS WHAT COUNTS. Prove the row's statement (the work); the ties are given (YtfdbnolifimnhabDoorTie.lean); close each card by the builder's one call (the guide's Derived/Test/ToyasCard.lean, 'card_holds'). Laid BY PROGRAM, IN A SANDBOX (cutbox-door.mjs). By AI agents, Wed Nov 11 2026. No macro, syntax, notation, axiom, sorry.
-/
import Derived.Test.YtfdbnolifimnhabDoorRows
import GoSem.ClaimSeven
namespace Go.Proofs.YtfdbnolifimnhabDoor
namespace Rows

/-- THE TIED CARD OF 'laws.FnInstructions'. -/
def fnInstructionsCard : Claim7 := { stood := { row := fnInstructionsRow, standIns := [], harness := (true, "baf6ec3581b69d43f8428ef0fd0066a4f1205e2f894562a81dc88dcc75f61281"), looks := true }, kinds := [], alts := [], laidByText := true, laidKinds := [.data, .data, .data, .sentinel, .sentinel, .data], laidTests := true, laidLooks := .later }
def FnInstructionsCardSaid : Prop := Claim7.holds Tryd.pinned (.plain (OpenSpec.ofChange fnInstructionsSpec)) fnInstructionsCard

/-- THE TIED CARD OF 'laws.FnGuestRuns'. -/
def fnGuestRunsCard : Claim7 := { stood := { row := fnGuestRunsRow, standIns := [], harness := (true, "baf6ec3581b69d43f8428ef0fd0066a4f1205e2f894562a81dc88dcc75f61281"), looks := true }, kinds := [], alts := [], laidByText := true, laidKinds := [.data], laidTests := true, laidLooks := .later }
def FnGuestRunsCardSaid : Prop := Claim7.holds Tryd.pinned (.plain (OpenSpec.ofChange fnGuestRunsSpec)) fnGuestRunsCard

/-- THE TIED CARD OF 'laws.FnExactParseAssembly'. -/
def fnExactParseAssemblyCard : Claim7 := { stood := { row := fnExactParseAssemblyRow, standIns := [], harness := (true, "baf6ec3581b69d43f8428ef0fd0066a4f1205e2f894562a81dc88dcc75f61281"), looks := true }, kinds := [], alts := [], laidByText := true, laidKinds := [.data, .data, .data, .sentinel, .sentinel, .data], laidTests := true, laidLooks := .later }
def FnExactParseAssemblyCardSaid : Prop := Claim7.holds Tryd.pinned (.plain (OpenSpec.ofChange fnExactParseAssemblySpec)) fnExactParseAssemblyCard

/-- THE SECOND FORM's CARD OF 'laws.FnInstructions'. -/
def fnInstructionsUptoCard : Claim7 := { stood := { row := fnInstructionsUptoRow, standIns := [], harness := (true, "baf6ec3581b69d43f8428ef0fd0066a4f1205e2f894562a81dc88dcc75f61281"), looks := true }, kinds := [], alts := [], laidByText := true, laidKinds := [.data, .data, .data, .sentinel, .sentinel, .data], laidTests := true, laidLooks := .later }
def FnInstructionsUptoCardSaid : Prop := Claim7.holds Tryd.pinned (.plain (OpenSpec.upto fnInstructionsSpec)) fnInstructionsUptoCard

/-- THE SECOND FORM's CARD OF 'laws.FnGuestRuns'. -/
def fnGuestRunsUptoCard : Claim7 := { stood := { row := fnGuestRunsUptoRow, standIns := [], harness := (true, "baf6ec3581b69d43f8428ef0fd0066a4f1205e2f894562a81dc88dcc75f61281"), looks := true }, kinds := [], alts := [], laidByText := true, laidKinds := [.data], laidTests := true, laidLooks := .later }
def FnGuestRunsUptoCardSaid : Prop := Claim7.holds Tryd.pinned (.plain (OpenSpec.upto fnGuestRunsSpec)) fnGuestRunsUptoCard

/-- THE SECOND FORM's CARD OF 'laws.FnExactParseAssembly'. -/
def fnExactParseAssemblyUptoCard : Claim7 := { stood := { row := fnExactParseAssemblyUptoRow, standIns := [], harness := (true, "baf6ec3581b69d43f8428ef0fd0066a4f1205e2f894562a81dc88dcc75f61281"), looks := true }, kinds := [], alts := [], laidByText := true, laidKinds := [.data, .data, .data, .sentinel, .sentinel, .data], laidTests := true, laidLooks := .later }
def FnExactParseAssemblyUptoCardSaid : Prop := Claim7.holds Tryd.pinned (.plain (OpenSpec.upto fnExactParseAssemblySpec)) fnExactParseAssemblyUptoCard
end Rows
end Go.Proofs.YtfdbnolifimnhabDoor
