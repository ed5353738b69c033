/-
  No cell of these rows narrows 'for every input' (looked for: loops, veiled, ifaces, maps, wideKeys, modest, calm, conditions, laid).
  DERIVED. THE GIVEN ROWS OF THIS SEAT. 10 by the template 'for every input the law returns true; each argument reads behind the call as it read before'; 0 by the template 'total and deterministic' (their statements: YtaamjnpknmimmaaTotals.lean).
  GIVEN WITH THE SEED: the statements are not yours to turn. If you find one false, say at which input.
  Laid BY PROGRAM, IN A SANDBOX (cutbox-rows.mjs): the forced cells as the released guide's own fill.sh prints them over the translation 9b72d3f31c75ed55… (all of the seat's roots in one cut). By AI agents, Wed Nov 11 2026. No macro, syntax, notation, axiom, sorry.
-/
import Derived.Test.YtaamjnpknmimmaaChecked
import GoSem.Claim
import GoSem.ClaimJoined
import GoSem.ClaimMapViews
import Derived.JoinedTies
import Derived.KernelRfl
namespace Go.Proofs.Ytaamjnpknmimmaa
/- THE CELL 'sum', in the pinned program and in every row, IS THE sha256 OF THE DUMP (.gsa) THAT YtaamjnpknmimmaaProg.lean LOADS. Nothing in Lean hashes anything: it is a label: what it is worth is what the hold of that sum in a sandbox is worth. -/
noncomputable def Try.pinned : Pinned := { name := "ytaamjnpknmimmaa", sum := "9b72d3f31c75ed5563f0681343dc614f2540bef287853b9ab56275d33fa36bbd", checked := Try.checked }
namespace Rows
def none {H : Type} : Left H := { results := [], args := [] }

/-- 'laws.FnExactIsTrap': WHATEVER THE INPUT: true; the input reads as it did. -/
def fnExactIsTrapSpec : ChangeSpec := { name := "fnExactIsTrap", fn := fun _ => fun
  | [d] => { results := [.lit (.bool true)], args := [d] }
  | _ => none }
def fnExactIsTrapRow : OpenClaim := { program := "ytaamjnpknmimmaa", sum := "9b72d3f31c75ed5563f0681343dc614f2540bef287853b9ab56275d33fa36bbd", func := "loop.example/g00843/laws.FnExactIsTrap", spec := "fnExactIsTrap", apart := false }
def FnExactIsTrapSaid : Prop := fnExactIsTrapRow.holds Try.pinned (OpenSpec.ofChange fnExactIsTrapSpec)

/-- ITS FALSE NEIGHBOUR: 'it returns false'. Refute it at one input. -/
def fnExactIsTrapWrong : ChangeSpec := { name := "fnExactIsTrap", fn := fun _ => fun
  | [d] => { results := [.lit (.bool false)], args := [d] }
  | _ => none }
def FnExactIsTrapWrongFalsely : Prop := fnExactIsTrapRow.holds Try.pinned (OpenSpec.ofChange fnExactIsTrapWrong)

/-- 'laws.FnExactSyndrome': WHATEVER THE INPUT: true; the input reads as it did. -/
def fnExactSyndromeSpec : ChangeSpec := { name := "fnExactSyndrome", fn := fun _ => fun
  | [d] => { results := [.lit (.bool true)], args := [d] }
  | _ => none }
def fnExactSyndromeRow : OpenClaim := { program := "ytaamjnpknmimmaa", sum := "9b72d3f31c75ed5563f0681343dc614f2540bef287853b9ab56275d33fa36bbd", func := "loop.example/g00843/laws.FnExactSyndrome", spec := "fnExactSyndrome", apart := false }
def FnExactSyndromeSaid : Prop := fnExactSyndromeRow.holds Try.pinned (OpenSpec.ofChange fnExactSyndromeSpec)

/-- ITS FALSE NEIGHBOUR: 'it returns false'. Refute it at one input. -/
def fnExactSyndromeWrong : ChangeSpec := { name := "fnExactSyndrome", fn := fun _ => fun
  | [d] => { results := [.lit (.bool false)], args := [d] }
  | _ => none }
def FnExactSyndromeWrongFalsely : Prop := fnExactSyndromeRow.holds Try.pinned (OpenSpec.ofChange fnExactSyndromeWrong)

/-- 'laws.FnExactTrapOf': WHATEVER THE INPUT: true; the input reads as it did. -/
def fnExactTrapOfSpec : ChangeSpec := { name := "fnExactTrapOf", fn := fun _ => fun
  | [d] => { results := [.lit (.bool true)], args := [d] }
  | _ => none }
def fnExactTrapOfRow : OpenClaim := { program := "ytaamjnpknmimmaa", sum := "9b72d3f31c75ed5563f0681343dc614f2540bef287853b9ab56275d33fa36bbd", func := "loop.example/g00843/laws.FnExactTrapOf", spec := "fnExactTrapOf", apart := false }
def FnExactTrapOfSaid : Prop := fnExactTrapOfRow.holds Try.pinned (OpenSpec.ofChange fnExactTrapOfSpec)

/-- ITS FALSE NEIGHBOUR: 'it returns false'. Refute it at one input. -/
def fnExactTrapOfWrong : ChangeSpec := { name := "fnExactTrapOf", fn := fun _ => fun
  | [d] => { results := [.lit (.bool false)], args := [d] }
  | _ => none }
def FnExactTrapOfWrongFalsely : Prop := fnExactTrapOfRow.holds Try.pinned (OpenSpec.ofChange fnExactTrapOfWrong)

/-- 'laws.FnExactFaultTrap': WHATEVER THE INPUT: true; the input reads as it did. -/
def fnExactFaultTrapSpec : ChangeSpec := { name := "fnExactFaultTrap", fn := fun _ => fun
  | [d1, d2] => { results := [.lit (.bool true)], args := [d1, d2] }
  | _ => none }
def fnExactFaultTrapRow : OpenClaim := { program := "ytaamjnpknmimmaa", sum := "9b72d3f31c75ed5563f0681343dc614f2540bef287853b9ab56275d33fa36bbd", func := "loop.example/g00843/laws.FnExactFaultTrap", spec := "fnExactFaultTrap", apart := false }
def FnExactFaultTrapSaid : Prop := fnExactFaultTrapRow.holds Try.pinned (OpenSpec.ofChange fnExactFaultTrapSpec)

/-- ITS FALSE NEIGHBOUR: 'it returns false'. Refute it at one input. -/
def fnExactFaultTrapWrong : ChangeSpec := { name := "fnExactFaultTrap", fn := fun _ => fun
  | [d1, d2] => { results := [.lit (.bool false)], args := [d1, d2] }
  | _ => none }
def FnExactFaultTrapWrongFalsely : Prop := fnExactFaultTrapRow.holds Try.pinned (OpenSpec.ofChange fnExactFaultTrapWrong)

/-- 'laws.FnExactDeviceTrap': WHATEVER THE INPUT: true; the input reads as it did. -/
def fnExactDeviceTrapSpec : ChangeSpec := { name := "fnExactDeviceTrap", fn := fun _ => fun
  | [d1, d2, d3, d4] => { results := [.lit (.bool true)], args := [d1, d2, d3, d4] }
  | _ => none }
def fnExactDeviceTrapRow : OpenClaim := { program := "ytaamjnpknmimmaa", sum := "9b72d3f31c75ed5563f0681343dc614f2540bef287853b9ab56275d33fa36bbd", func := "loop.example/g00843/laws.FnExactDeviceTrap", spec := "fnExactDeviceTrap", apart := false }
def FnExactDeviceTrapSaid : Prop := fnExactDeviceTrapRow.holds Try.pinned (OpenSpec.ofChange fnExactDeviceTrapSpec)

/-- ITS FALSE NEIGHBOUR: 'it returns false'. Refute it at one input. -/
def fnExactDeviceTrapWrong : ChangeSpec := { name := "fnExactDeviceTrap", fn := fun _ => fun
  | [d1, d2, d3, d4] => { results := [.lit (.bool false)], args := [d1, d2, d3, d4] }
  | _ => none }
def FnExactDeviceTrapWrongFalsely : Prop := fnExactDeviceTrapRow.holds Try.pinned (OpenSpec.ofChange fnExactDeviceTrapWrong)

/-- 'laws.FnExactStoredValue': WHATEVER THE INPUT: true; the input reads as it did. -/
def fnExactStoredValueSpec : ChangeSpec := { name := "fnExactStoredValue", fn := fun _ => fun
  | [d1, d2] => { results := [.lit (.bool true)], args := [d1, d2] }
  | _ => none }
def fnExactStoredValueRow : OpenClaim := { program := "ytaamjnpknmimmaa", sum := "9b72d3f31c75ed5563f0681343dc614f2540bef287853b9ab56275d33fa36bbd", func := "loop.example/g00843/laws.FnExactStoredValue", spec := "fnExactStoredValue", apart := false }
def FnExactStoredValueSaid : Prop := fnExactStoredValueRow.holds Try.pinned (OpenSpec.ofChange fnExactStoredValueSpec)

/-- ITS FALSE NEIGHBOUR: 'it returns false'. Refute it at one input. -/
def fnExactStoredValueWrong : ChangeSpec := { name := "fnExactStoredValue", fn := fun _ => fun
  | [d1, d2] => { results := [.lit (.bool false)], args := [d1, d2] }
  | _ => none }
def FnExactStoredValueWrongFalsely : Prop := fnExactStoredValueRow.holds Try.pinned (OpenSpec.ofChange fnExactStoredValueWrong)

/-- 'laws.FnExactLoadValue': WHATEVER THE INPUT: true; the input reads as it did. -/
def fnExactLoadValueSpec : ChangeSpec := { name := "fnExactLoadValue", fn := fun _ => fun
  | [d1, d2, d3] => { results := [.lit (.bool true)], args := [d1, d2, d3] }
  | _ => none }
def fnExactLoadValueRow : OpenClaim := { program := "ytaamjnpknmimmaa", sum := "9b72d3f31c75ed5563f0681343dc614f2540bef287853b9ab56275d33fa36bbd", func := "loop.example/g00843/laws.FnExactLoadValue", spec := "fnExactLoadValue", apart := false }
def FnExactLoadValueSaid : Prop := fnExactLoadValueRow.holds Try.pinned (OpenSpec.ofChange fnExactLoadValueSpec)

/-- ITS FALSE NEIGHBOUR: 'it returns false'. Refute it at one input. -/
def fnExactLoadValueWrong : ChangeSpec := { name := "fnExactLoadValue", fn := fun _ => fun
  | [d1, d2, d3] => { results := [.lit (.bool false)], args := [d1, d2, d3] }
  | _ => none }
def FnExactLoadValueWrongFalsely : Prop := fnExactLoadValueRow.holds Try.pinned (OpenSpec.ofChange fnExactLoadValueWrong)

/-- 'laws.FnExactCountCauses': WHATEVER THE INPUT: true; the input reads as it did. -/
def fnExactCountCausesSpec : ChangeSpec := { name := "fnExactCountCauses", fn := fun _ => fun
  | [d] => { results := [.lit (.bool true)], args := [d] }
  | _ => none }
def fnExactCountCausesRow : OpenClaim := { program := "ytaamjnpknmimmaa", sum := "9b72d3f31c75ed5563f0681343dc614f2540bef287853b9ab56275d33fa36bbd", func := "loop.example/g00843/laws.FnExactCountCauses", spec := "fnExactCountCauses", apart := false }
def FnExactCountCausesSaid : Prop := fnExactCountCausesRow.holds Try.pinned (OpenSpec.ofChange fnExactCountCausesSpec)

/-- ITS FALSE NEIGHBOUR: 'it returns false'. Refute it at one input. -/
def fnExactCountCausesWrong : ChangeSpec := { name := "fnExactCountCauses", fn := fun _ => fun
  | [d] => { results := [.lit (.bool false)], args := [d] }
  | _ => none }
def FnExactCountCausesWrongFalsely : Prop := fnExactCountCausesRow.holds Try.pinned (OpenSpec.ofChange fnExactCountCausesWrong)

/-- 'laws.FnExactDoesRepeat': WHATEVER THE INPUT: true; the input reads as it did. -/
def fnExactDoesRepeatSpec : ChangeSpec := { name := "fnExactDoesRepeat", fn := fun _ => fun
  | [d] => { results := [.lit (.bool true)], args := [d] }
  | _ => none }
def fnExactDoesRepeatRow : OpenClaim := { program := "ytaamjnpknmimmaa", sum := "9b72d3f31c75ed5563f0681343dc614f2540bef287853b9ab56275d33fa36bbd", func := "loop.example/g00843/laws.FnExactDoesRepeat", spec := "fnExactDoesRepeat", apart := false }
def FnExactDoesRepeatSaid : Prop := fnExactDoesRepeatRow.holds Try.pinned (OpenSpec.ofChange fnExactDoesRepeatSpec)

/-- ITS FALSE NEIGHBOUR: 'it returns false'. Refute it at one input. -/
def fnExactDoesRepeatWrong : ChangeSpec := { name := "fnExactDoesRepeat", fn := fun _ => fun
  | [d] => { results := [.lit (.bool false)], args := [d] }
  | _ => none }
def FnExactDoesRepeatWrongFalsely : Prop := fnExactDoesRepeatRow.holds Try.pinned (OpenSpec.ofChange fnExactDoesRepeatWrong)

/-- 'laws.FnTrapValues': WHATEVER THE INPUT: true; the input reads as it did. -/
def fnTrapValuesSpec : ChangeSpec := { name := "fnTrapValues", fn := fun _ => fun
  | [d] => { results := [.lit (.bool true)], args := [d] }
  | _ => none }
def fnTrapValuesRow : OpenClaim := { program := "ytaamjnpknmimmaa", sum := "9b72d3f31c75ed5563f0681343dc614f2540bef287853b9ab56275d33fa36bbd", func := "loop.example/g00843/laws.FnTrapValues", spec := "fnTrapValues", apart := false }
def FnTrapValuesSaid : Prop := fnTrapValuesRow.holds Try.pinned (OpenSpec.ofChange fnTrapValuesSpec)

/-- ITS FALSE NEIGHBOUR: 'it returns false'. Refute it at one input. -/
def fnTrapValuesWrong : ChangeSpec := { name := "fnTrapValues", fn := fun _ => fun
  | [d] => { results := [.lit (.bool false)], args := [d] }
  | _ => none }
def FnTrapValuesWrongFalsely : Prop := fnTrapValuesRow.holds Try.pinned (OpenSpec.ofChange fnTrapValuesWrong)

/- THE SECOND FORM. 'bulk': how many values and letters a reading holds, each counted each time it is reached (what is shared counts as often as it is met; a slice's spare places count too). A statement '..UptoSaid' is the law's where the arguments, and the package variables that the reading takes, are together of bulk at most 1048576: NARROWER than '..Said'. Prove '..Said' where nothing that the law and all that it calls make is longer than what came in: it says more and counts as full. Else prove '..UptoSaid'. A law counts once. -/
mutual
def uptoBulk {H : Type} : DataW H → Nat
  | .lit (.string bytes) => bytes.length + 1
  | .lit _ => 1
  | .nil => 1
  | .ptr d => uptoBulk d + 1
  | .slice elems spare => uptoBulkAll elems + uptoBulkAll spare + 1
  | .agg parts => uptoBulkAll parts + 1
  | .iface _ d => uptoBulk d + 1
  | .map entries => uptoBulkEntries entries + 1
  | .held _ => 1
def uptoBulkAll {H : Type} : List (DataW H) → Nat
  | [] => 0
  | d :: r => uptoBulk d + uptoBulkAll r
def uptoBulkEntries {H : Type} : List (Lit × DataW H) → Nat
  | [] => 0
  | x :: r => uptoBulkEntry x + uptoBulkEntries r
def uptoBulkEntry {H : Type} : Lit × DataW H → Nat
  | (.string bytes, d) => bytes.length + uptoBulk d + 1
  | (_, d) => uptoBulk d + 1
 end
def uptoSmall : (H : Type) → List (DataW H) → Bool := fun _ ds => decide (uptoBulkAll ds ≤ 1048576)
def OpenSpec.upto (s : _root_.Go.ChangeSpec) : _root_.Go.OpenSpec := { _root_.Go.OpenSpec.ofChange s with cond := some uptoSmall }

/-- 'laws.FnExactIsTrap', WHERE WHAT IT READS IS OF BULK AT MOST 1048576: true; the input reads as it did. -/
def fnExactIsTrapUptoRow : OpenClaim := { program := "ytaamjnpknmimmaa", sum := "9b72d3f31c75ed5563f0681343dc614f2540bef287853b9ab56275d33fa36bbd", func := "loop.example/g00843/laws.FnExactIsTrap", spec := "fnExactIsTrap", apart := false, narrowed := true }
def FnExactIsTrapUptoSaid : Prop := fnExactIsTrapUptoRow.holds Try.pinned (OpenSpec.upto fnExactIsTrapSpec)

/-- 'laws.FnExactSyndrome', WHERE WHAT IT READS IS OF BULK AT MOST 1048576: true; the input reads as it did. -/
def fnExactSyndromeUptoRow : OpenClaim := { program := "ytaamjnpknmimmaa", sum := "9b72d3f31c75ed5563f0681343dc614f2540bef287853b9ab56275d33fa36bbd", func := "loop.example/g00843/laws.FnExactSyndrome", spec := "fnExactSyndrome", apart := false, narrowed := true }
def FnExactSyndromeUptoSaid : Prop := fnExactSyndromeUptoRow.holds Try.pinned (OpenSpec.upto fnExactSyndromeSpec)

/-- 'laws.FnExactTrapOf', WHERE WHAT IT READS IS OF BULK AT MOST 1048576: true; the input reads as it did. -/
def fnExactTrapOfUptoRow : OpenClaim := { program := "ytaamjnpknmimmaa", sum := "9b72d3f31c75ed5563f0681343dc614f2540bef287853b9ab56275d33fa36bbd", func := "loop.example/g00843/laws.FnExactTrapOf", spec := "fnExactTrapOf", apart := false, narrowed := true }
def FnExactTrapOfUptoSaid : Prop := fnExactTrapOfUptoRow.holds Try.pinned (OpenSpec.upto fnExactTrapOfSpec)

/-- 'laws.FnExactFaultTrap', WHERE WHAT IT READS IS OF BULK AT MOST 1048576: true; the input reads as it did. -/
def fnExactFaultTrapUptoRow : OpenClaim := { program := "ytaamjnpknmimmaa", sum := "9b72d3f31c75ed5563f0681343dc614f2540bef287853b9ab56275d33fa36bbd", func := "loop.example/g00843/laws.FnExactFaultTrap", spec := "fnExactFaultTrap", apart := false, narrowed := true }
def FnExactFaultTrapUptoSaid : Prop := fnExactFaultTrapUptoRow.holds Try.pinned (OpenSpec.upto fnExactFaultTrapSpec)

/-- 'laws.FnExactDeviceTrap', WHERE WHAT IT READS IS OF BULK AT MOST 1048576: true; the input reads as it did. -/
def fnExactDeviceTrapUptoRow : OpenClaim := { program := "ytaamjnpknmimmaa", sum := "9b72d3f31c75ed5563f0681343dc614f2540bef287853b9ab56275d33fa36bbd", func := "loop.example/g00843/laws.FnExactDeviceTrap", spec := "fnExactDeviceTrap", apart := false, narrowed := true }
def FnExactDeviceTrapUptoSaid : Prop := fnExactDeviceTrapUptoRow.holds Try.pinned (OpenSpec.upto fnExactDeviceTrapSpec)

/-- 'laws.FnExactStoredValue', WHERE WHAT IT READS IS OF BULK AT MOST 1048576: true; the input reads as it did. -/
def fnExactStoredValueUptoRow : OpenClaim := { program := "ytaamjnpknmimmaa", sum := "9b72d3f31c75ed5563f0681343dc614f2540bef287853b9ab56275d33fa36bbd", func := "loop.example/g00843/laws.FnExactStoredValue", spec := "fnExactStoredValue", apart := false, narrowed := true }
def FnExactStoredValueUptoSaid : Prop := fnExactStoredValueUptoRow.holds Try.pinned (OpenSpec.upto fnExactStoredValueSpec)

/-- 'laws.FnExactLoadValue', WHERE WHAT IT READS IS OF BULK AT MOST 1048576: true; the input reads as it did. -/
def fnExactLoadValueUptoRow : OpenClaim := { program := "ytaamjnpknmimmaa", sum := "9b72d3f31c75ed5563f0681343dc614f2540bef287853b9ab56275d33fa36bbd", func := "loop.example/g00843/laws.FnExactLoadValue", spec := "fnExactLoadValue", apart := false, narrowed := true }
def FnExactLoadValueUptoSaid : Prop := fnExactLoadValueUptoRow.holds Try.pinned (OpenSpec.upto fnExactLoadValueSpec)

/-- 'laws.FnExactCountCauses', WHERE WHAT IT READS IS OF BULK AT MOST 1048576: true; the input reads as it did. -/
def fnExactCountCausesUptoRow : OpenClaim := { program := "ytaamjnpknmimmaa", sum := "9b72d3f31c75ed5563f0681343dc614f2540bef287853b9ab56275d33fa36bbd", func := "loop.example/g00843/laws.FnExactCountCauses", spec := "fnExactCountCauses", apart := false, narrowed := true }
def FnExactCountCausesUptoSaid : Prop := fnExactCountCausesUptoRow.holds Try.pinned (OpenSpec.upto fnExactCountCausesSpec)

/-- 'laws.FnExactDoesRepeat', WHERE WHAT IT READS IS OF BULK AT MOST 1048576: true; the input reads as it did. -/
def fnExactDoesRepeatUptoRow : OpenClaim := { program := "ytaamjnpknmimmaa", sum := "9b72d3f31c75ed5563f0681343dc614f2540bef287853b9ab56275d33fa36bbd", func := "loop.example/g00843/laws.FnExactDoesRepeat", spec := "fnExactDoesRepeat", apart := false, narrowed := true }
def FnExactDoesRepeatUptoSaid : Prop := fnExactDoesRepeatUptoRow.holds Try.pinned (OpenSpec.upto fnExactDoesRepeatSpec)

/-- 'laws.FnTrapValues', WHERE WHAT IT READS IS OF BULK AT MOST 1048576: true; the input reads as it did. -/
def fnTrapValuesUptoRow : OpenClaim := { program := "ytaamjnpknmimmaa", sum := "9b72d3f31c75ed5563f0681343dc614f2540bef287853b9ab56275d33fa36bbd", func := "loop.example/g00843/laws.FnTrapValues", spec := "fnTrapValues", apart := false, narrowed := true }
def FnTrapValuesUptoSaid : Prop := fnTrapValuesUptoRow.holds Try.pinned (OpenSpec.upto fnTrapValuesSpec)

end Rows
end Go.Proofs.Ytaamjnpknmimmaa
