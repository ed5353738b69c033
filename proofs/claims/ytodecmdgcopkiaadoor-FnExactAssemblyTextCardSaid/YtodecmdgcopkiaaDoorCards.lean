/-
  DERIVED. GIVEN WITH THE SEED: THE CARDS: each row of YtodecmdgcopkiaaDoorRows.lean that lists a variable, with what it lists TIED to the program's text (the seventh form; the later family's looks); each row that meets fmt, with fmt's text TOLD by the authors' own Lean function (tested against real Go, not proved from fmt's source: count such statements apart). THE CARD IS WHAT COUNTS. Prove the row's statement (the work); the ties are given (YtodecmdgcopkiaaDoorTie.lean); close each card by the builder's one call (the guide's Derived/Test/ToyasCard.lean, 'card_holds'). Laid BY PROGRAM, IN A SANDBOX (cutbox-door.mjs). By AI agents, Wed Nov 11 2026. No macro, syntax, notation, axiom, sorry.
-/
import Derived.Test.YtodecmdgcopkiaaDoorRows
import GoSem.ClaimSeven
namespace Go.Proofs.YtodecmdgcopkiaaDoor
namespace Rows

/-- THE TIED CARD OF 'laws.FnInstructions'. -/
def fnInstructionsCard : Claim7 := { stood := { row := fnInstructionsRow, standIns := [], harness := (true, "58361509a949acde3d1b79abfad79699a6dd53bd2d9453699125d28d8af10b66"), looks := true }, kinds := [], alts := [], laidByText := true, laidKinds := [.data, .data, .data, .sentinel, .sentinel, .data], laidTests := true, laidLooks := .later }
def FnInstructionsCardSaid : Prop := Claim7.holds Tryd.pinned (.plain (OpenSpec.ofChange fnInstructionsSpec)) fnInstructionsCard

/-- THE TIED CARD OF 'laws.FnGuestRuns'. -/
def fnGuestRunsCard : Claim7 := { stood := { row := fnGuestRunsRow, standIns := [], harness := (true, "58361509a949acde3d1b79abfad79699a6dd53bd2d9453699125d28d8af10b66"), looks := true }, kinds := [], alts := [], laidByText := true, laidKinds := [.data], laidTests := true, laidLooks := .later }
def FnGuestRunsCardSaid : Prop := Claim7.holds Tryd.pinned (.plain (OpenSpec.ofChange fnGuestRunsSpec)) fnGuestRunsCard

/-- THE TIED CARD OF 'laws.FnExactIsInstruction'. -/
def fnExactIsInstructionCard : Claim7 := { stood := { row := fnExactIsInstructionRow, standIns := [], harness := (true, "58361509a949acde3d1b79abfad79699a6dd53bd2d9453699125d28d8af10b66"), looks := true }, kinds := [], alts := [], laidByText := true, laidKinds := [.data], laidTests := true, laidLooks := .later }
def FnExactIsInstructionCardSaid : Prop := Claim7.holds Tryd.pinned (.plain (OpenSpec.ofChange fnExactIsInstructionSpec)) fnExactIsInstructionCard

/-- THE TIED CARD OF 'laws.FnExactIsProgram'. -/
def fnExactIsProgramCard : Claim7 := { stood := { row := fnExactIsProgramRow, standIns := [], harness := (true, "58361509a949acde3d1b79abfad79699a6dd53bd2d9453699125d28d8af10b66"), looks := true }, kinds := [], alts := [], laidByText := true, laidKinds := [.data], laidTests := true, laidLooks := .later }
def FnExactIsProgramCardSaid : Prop := Claim7.holds Tryd.pinned (.plain (OpenSpec.ofChange fnExactIsProgramSpec)) fnExactIsProgramCard

/-- THE TIED CARD OF 'laws.FnExactAreRegisters'. -/
def fnExactAreRegistersCard : Claim7 := { stood := { row := fnExactAreRegistersRow, standIns := [], harness := (true, "58361509a949acde3d1b79abfad79699a6dd53bd2d9453699125d28d8af10b66"), looks := true }, kinds := [], alts := [], laidByText := true, laidKinds := [.data], laidTests := true, laidLooks := .later }
def FnExactAreRegistersCardSaid : Prop := Claim7.holds Tryd.pinned (.plain (OpenSpec.ofChange fnExactAreRegistersSpec)) fnExactAreRegistersCard

/-- THE TIED CARD OF 'laws.FnExactStepGuest'. -/
def fnExactStepGuestCard : Claim7 := { stood := { row := fnExactStepGuestRow, standIns := [], harness := (true, "58361509a949acde3d1b79abfad79699a6dd53bd2d9453699125d28d8af10b66"), looks := true }, kinds := [], alts := [], laidByText := true, laidKinds := [.data], laidTests := true, laidLooks := .later }
def FnExactStepGuestCardSaid : Prop := Claim7.holds Tryd.pinned (.plain (OpenSpec.ofChange fnExactStepGuestSpec)) fnExactStepGuestCard

/-- THE TIED CARD OF 'laws.FnExactRunGuest'. -/
def fnExactRunGuestCard : Claim7 := { stood := { row := fnExactRunGuestRow, standIns := [], harness := (true, "58361509a949acde3d1b79abfad79699a6dd53bd2d9453699125d28d8af10b66"), looks := true }, kinds := [], alts := [], laidByText := true, laidKinds := [.data], laidTests := true, laidLooks := .later }
def FnExactRunGuestCardSaid : Prop := Claim7.holds Tryd.pinned (.plain (OpenSpec.ofChange fnExactRunGuestSpec)) fnExactRunGuestCard

/-- THE TIED CARD OF 'laws.FnExactPackInstruction'. -/
def fnExactPackInstructionCard : Claim7 := { stood := { row := fnExactPackInstructionRow, standIns := [], harness := (true, "58361509a949acde3d1b79abfad79699a6dd53bd2d9453699125d28d8af10b66"), looks := true }, kinds := [], alts := [], laidByText := true, laidKinds := [.data], laidTests := true, laidLooks := .later }
def FnExactPackInstructionCardSaid : Prop := Claim7.holds Tryd.pinned (.plain (OpenSpec.ofChange fnExactPackInstructionSpec)) fnExactPackInstructionCard

/-- THE TIED CARD OF 'laws.FnExactUnpackInstruction'. -/
def fnExactUnpackInstructionCard : Claim7 := { stood := { row := fnExactUnpackInstructionRow, standIns := [], harness := (true, "58361509a949acde3d1b79abfad79699a6dd53bd2d9453699125d28d8af10b66"), looks := true }, kinds := [], alts := [], laidByText := true, laidKinds := [.data], laidTests := true, laidLooks := .later }
def FnExactUnpackInstructionCardSaid : Prop := Claim7.holds Tryd.pinned (.plain (OpenSpec.ofChange fnExactUnpackInstructionSpec)) fnExactUnpackInstructionCard

/-- THE TIED CARD OF 'laws.FnExactAssemblyText'. -/
def fnExactAssemblyTextCard : Claim7 := { stood := { row := fnExactAssemblyTextRow, standIns := [], harness := (true, "58361509a949acde3d1b79abfad79699a6dd53bd2d9453699125d28d8af10b66"), looks := true }, kinds := [], alts := [], laidByText := true, laidKinds := [.data, .data, .data, .data], laidTests := true, laidLooks := .later }
def FnExactAssemblyTextCardSaid : Prop := Claim7.holds Tryd.pinned (.plain (OpenSpec.ofChange fnExactAssemblyTextSpec)) fnExactAssemblyTextCard

/-- THE TIED CARD OF 'laws.FnExactParseAssembly'. -/
def fnExactParseAssemblyCard : Claim7 := { stood := { row := fnExactParseAssemblyRow, standIns := [], harness := (true, "58361509a949acde3d1b79abfad79699a6dd53bd2d9453699125d28d8af10b66"), looks := true }, kinds := [], alts := [], laidByText := true, laidKinds := [.data, .data, .data, .sentinel, .sentinel, .data], laidTests := true, laidLooks := .later }
def FnExactParseAssemblyCardSaid : Prop := Claim7.holds Tryd.pinned (.plain (OpenSpec.ofChange fnExactParseAssemblySpec)) fnExactParseAssemblyCard

/-- THE TIED CARD OF 'laws.FnExactReachedBy'. -/
def fnExactReachedByCard : Claim7 := { stood := { row := fnExactReachedByRow, standIns := [], harness := (true, "58361509a949acde3d1b79abfad79699a6dd53bd2d9453699125d28d8af10b66"), looks := true }, kinds := [], alts := [], laidByText := true, laidKinds := [.data], laidTests := true, laidLooks := .later }
def FnExactReachedByCardSaid : Prop := Claim7.holds Tryd.pinned (.plain (OpenSpec.ofChange fnExactReachedBySpec)) fnExactReachedByCard

/-- THE SECOND FORM's CARD OF 'laws.FnInstructions'. -/
def fnInstructionsUptoCard : Claim7 := { stood := { row := fnInstructionsUptoRow, standIns := [], harness := (true, "58361509a949acde3d1b79abfad79699a6dd53bd2d9453699125d28d8af10b66"), looks := true }, kinds := [], alts := [], laidByText := true, laidKinds := [.data, .data, .data, .sentinel, .sentinel, .data], laidTests := true, laidLooks := .later }
def FnInstructionsUptoCardSaid : Prop := Claim7.holds Tryd.pinned (.plain (OpenSpec.upto fnInstructionsSpec)) fnInstructionsUptoCard

/-- THE SECOND FORM's CARD OF 'laws.FnGuestRuns'. -/
def fnGuestRunsUptoCard : Claim7 := { stood := { row := fnGuestRunsUptoRow, standIns := [], harness := (true, "58361509a949acde3d1b79abfad79699a6dd53bd2d9453699125d28d8af10b66"), looks := true }, kinds := [], alts := [], laidByText := true, laidKinds := [.data], laidTests := true, laidLooks := .later }
def FnGuestRunsUptoCardSaid : Prop := Claim7.holds Tryd.pinned (.plain (OpenSpec.upto fnGuestRunsSpec)) fnGuestRunsUptoCard

/-- THE SECOND FORM's CARD OF 'laws.FnExactIsInstruction'. -/
def fnExactIsInstructionUptoCard : Claim7 := { stood := { row := fnExactIsInstructionUptoRow, standIns := [], harness := (true, "58361509a949acde3d1b79abfad79699a6dd53bd2d9453699125d28d8af10b66"), looks := true }, kinds := [], alts := [], laidByText := true, laidKinds := [.data], laidTests := true, laidLooks := .later }
def FnExactIsInstructionUptoCardSaid : Prop := Claim7.holds Tryd.pinned (.plain (OpenSpec.upto fnExactIsInstructionSpec)) fnExactIsInstructionUptoCard

/-- THE SECOND FORM's CARD OF 'laws.FnExactIsProgram'. -/
def fnExactIsProgramUptoCard : Claim7 := { stood := { row := fnExactIsProgramUptoRow, standIns := [], harness := (true, "58361509a949acde3d1b79abfad79699a6dd53bd2d9453699125d28d8af10b66"), looks := true }, kinds := [], alts := [], laidByText := true, laidKinds := [.data], laidTests := true, laidLooks := .later }
def FnExactIsProgramUptoCardSaid : Prop := Claim7.holds Tryd.pinned (.plain (OpenSpec.upto fnExactIsProgramSpec)) fnExactIsProgramUptoCard

/-- THE SECOND FORM's CARD OF 'laws.FnExactAreRegisters'. -/
def fnExactAreRegistersUptoCard : Claim7 := { stood := { row := fnExactAreRegistersUptoRow, standIns := [], harness := (true, "58361509a949acde3d1b79abfad79699a6dd53bd2d9453699125d28d8af10b66"), looks := true }, kinds := [], alts := [], laidByText := true, laidKinds := [.data], laidTests := true, laidLooks := .later }
def FnExactAreRegistersUptoCardSaid : Prop := Claim7.holds Tryd.pinned (.plain (OpenSpec.upto fnExactAreRegistersSpec)) fnExactAreRegistersUptoCard

/-- THE SECOND FORM's CARD OF 'laws.FnExactStepGuest'. -/
def fnExactStepGuestUptoCard : Claim7 := { stood := { row := fnExactStepGuestUptoRow, standIns := [], harness := (true, "58361509a949acde3d1b79abfad79699a6dd53bd2d9453699125d28d8af10b66"), looks := true }, kinds := [], alts := [], laidByText := true, laidKinds := [.data], laidTests := true, laidLooks := .later }
def FnExactStepGuestUptoCardSaid : Prop := Claim7.holds Tryd.pinned (.plain (OpenSpec.upto fnExactStepGuestSpec)) fnExactStepGuestUptoCard

/-- THE SECOND FORM's CARD OF 'laws.FnExactRunGuest'. -/
def fnExactRunGuestUptoCard : Claim7 := { stood := { row := fnExactRunGuestUptoRow, standIns := [], harness := (true, "58361509a949acde3d1b79abfad79699a6dd53bd2d9453699125d28d8af10b66"), looks := true }, kinds := [], alts := [], laidByText := true, laidKinds := [.data], laidTests := true, laidLooks := .later }
def FnExactRunGuestUptoCardSaid : Prop := Claim7.holds Tryd.pinned (.plain (OpenSpec.upto fnExactRunGuestSpec)) fnExactRunGuestUptoCard

/-- THE SECOND FORM's CARD OF 'laws.FnExactPackInstruction'. -/
def fnExactPackInstructionUptoCard : Claim7 := { stood := { row := fnExactPackInstructionUptoRow, standIns := [], harness := (true, "58361509a949acde3d1b79abfad79699a6dd53bd2d9453699125d28d8af10b66"), looks := true }, kinds := [], alts := [], laidByText := true, laidKinds := [.data], laidTests := true, laidLooks := .later }
def FnExactPackInstructionUptoCardSaid : Prop := Claim7.holds Tryd.pinned (.plain (OpenSpec.upto fnExactPackInstructionSpec)) fnExactPackInstructionUptoCard

/-- THE SECOND FORM's CARD OF 'laws.FnExactUnpackInstruction'. -/
def fnExactUnpackInstructionUptoCard : Claim7 := { stood := { row := fnExactUnpackInstructionUptoRow, standIns := [], harness := (true, "58361509a949acde3d1b79abfad79699a6dd53bd2d9453699125d28d8af10b66"), looks := true }, kinds := [], alts := [], laidByText := true, laidKinds := [.data], laidTests := true, laidLooks := .later }
def FnExactUnpackInstructionUptoCardSaid : Prop := Claim7.holds Tryd.pinned (.plain (OpenSpec.upto fnExactUnpackInstructionSpec)) fnExactUnpackInstructionUptoCard

/-- THE SECOND FORM's CARD OF 'laws.FnExactAssemblyText'. -/
def fnExactAssemblyTextUptoCard : Claim7 := { stood := { row := fnExactAssemblyTextUptoRow, standIns := [], harness := (true, "58361509a949acde3d1b79abfad79699a6dd53bd2d9453699125d28d8af10b66"), looks := true }, kinds := [], alts := [], laidByText := true, laidKinds := [.data, .data, .data, .data], laidTests := true, laidLooks := .later }
def FnExactAssemblyTextUptoCardSaid : Prop := Claim7.holds Tryd.pinned (.plain (OpenSpec.upto fnExactAssemblyTextSpec)) fnExactAssemblyTextUptoCard

/-- THE SECOND FORM's CARD OF 'laws.FnExactParseAssembly'. -/
def fnExactParseAssemblyUptoCard : Claim7 := { stood := { row := fnExactParseAssemblyUptoRow, standIns := [], harness := (true, "58361509a949acde3d1b79abfad79699a6dd53bd2d9453699125d28d8af10b66"), looks := true }, kinds := [], alts := [], laidByText := true, laidKinds := [.data, .data, .data, .sentinel, .sentinel, .data], laidTests := true, laidLooks := .later }
def FnExactParseAssemblyUptoCardSaid : Prop := Claim7.holds Tryd.pinned (.plain (OpenSpec.upto fnExactParseAssemblySpec)) fnExactParseAssemblyUptoCard

/-- THE SECOND FORM's CARD OF 'laws.FnExactReachedBy'. -/
def fnExactReachedByUptoCard : Claim7 := { stood := { row := fnExactReachedByUptoRow, standIns := [], harness := (true, "58361509a949acde3d1b79abfad79699a6dd53bd2d9453699125d28d8af10b66"), looks := true }, kinds := [], alts := [], laidByText := true, laidKinds := [.data], laidTests := true, laidLooks := .later }
def FnExactReachedByUptoCardSaid : Prop := Claim7.holds Tryd.pinned (.plain (OpenSpec.upto fnExactReachedBySpec)) fnExactReachedByUptoCard
end Rows
end Go.Proofs.YtodecmdgcopkiaaDoor
