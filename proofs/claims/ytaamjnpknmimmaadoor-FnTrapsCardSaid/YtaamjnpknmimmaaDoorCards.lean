/-
  DERIVED. GIVEN WITH THE SEED: THE CARDS: each row of YtaamjnpknmimmaaDoorRows.lean that lists a variable, with what it lists TIED to the program's text (the seventh form; the later family's looks); each row that meets fmt, with fmt's text TOLD by the authors' own Lean function (tested against real Go, not proved from fmt's source: count such statements apart). THE CARD IS WHAT COUNTS. Prove the row's statement (the work); the ties are given (YtaamjnpknmimmaaDoorTie.lean); close each card by the builder's one call (the guide's Derived/Test/ToyasCard.lean, 'card_holds'). Laid BY PROGRAM, IN A SANDBOX (cutbox-door.mjs). By AI agents, Wed Nov 11 2026. No macro, syntax, notation, axiom, sorry.
-/
import Derived.Test.YtaamjnpknmimmaaDoorRows
import GoSem.ClaimSeven
namespace Go.Proofs.YtaamjnpknmimmaaDoor
namespace Rows

/-- THE TIED CARD OF 'laws.FnExactTrapName'. -/
def fnExactTrapNameCard : Claim7 := { stood := { row := fnExactTrapNameRow, standIns := [], harness := (true, "0392b386a51fa691a6f48c7e41590aecedbcae0fbb328291a53705f6d6691f23"), looks := false }, kinds := [], alts := [], laidByText := true, laidKinds := [.data], laidTests := true, laidLooks := .later }
def FnExactTrapNameCardSaid : Prop := Claim7.holds Tryd.pinned (.plain (OpenSpec.ofChange fnExactTrapNameSpec)) fnExactTrapNameCard

/-- THE TIED CARD OF 'laws.FnTraps'. -/
def fnTrapsCard : Claim7 := { stood := { row := fnTrapsRow, standIns := [], harness := (true, "0392b386a51fa691a6f48c7e41590aecedbcae0fbb328291a53705f6d6691f23"), looks := false }, kinds := [], alts := [], laidByText := true, laidKinds := [.data], laidTests := true, laidLooks := .later }
def FnTrapsCardSaid : Prop := Claim7.holds Tryd.pinned (.plain (OpenSpec.ofChange fnTrapsSpec)) fnTrapsCard

/-- THE SECOND FORM's CARD OF 'laws.FnExactTrapName'. -/
def fnExactTrapNameUptoCard : Claim7 := { stood := { row := fnExactTrapNameUptoRow, standIns := [], harness := (true, "0392b386a51fa691a6f48c7e41590aecedbcae0fbb328291a53705f6d6691f23"), looks := false }, kinds := [], alts := [], laidByText := true, laidKinds := [.data], laidTests := true, laidLooks := .later }
def FnExactTrapNameUptoCardSaid : Prop := Claim7.holds Tryd.pinned (.plain (OpenSpec.upto fnExactTrapNameSpec)) fnExactTrapNameUptoCard

/-- THE SECOND FORM's CARD OF 'laws.FnTraps'. -/
def fnTrapsUptoCard : Claim7 := { stood := { row := fnTrapsUptoRow, standIns := [], harness := (true, "0392b386a51fa691a6f48c7e41590aecedbcae0fbb328291a53705f6d6691f23"), looks := false }, kinds := [], alts := [], laidByText := true, laidKinds := [.data], laidTests := true, laidLooks := .later }
def FnTrapsUptoCardSaid : Prop := Claim7.holds Tryd.pinned (.plain (OpenSpec.upto fnTrapsSpec)) fnTrapsUptoCard
end Rows
end Go.Proofs.YtaamjnpknmimmaaDoor
