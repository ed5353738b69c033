/-
  No cell of these rows narrows 'for every input' (looked for: loops, veiled, ifaces, maps, wideKeys, modest, calm, conditions, laid).
  DERIVED. THE GIVEN ROWS OF THIS SEAT. 12 by the template 'for every input the law returns true; each argument reads behind the call as it read before'; 0 by the template 'total and deterministic' (their statements: YtclnhdjnmfkeaaaTotals.lean).
  GIVEN WITH THE SEED: the statements are not yours to turn. If you find one false, say at which input.
  Laid BY PROGRAM, IN A SANDBOX (cutbox-rows.mjs): the forced cells as the released guide's own fill.sh prints them over the translation 27f8d47b2c18d843… (all of the seat's roots in one cut). By AI agents, Wed Nov 11 2026. No macro, syntax, notation, axiom, sorry.
-/
import Derived.Test.YtclnhdjnmfkeaaaChecked
import GoSem.Claim
import GoSem.ClaimJoined
import GoSem.ClaimMapViews
import Derived.JoinedTies
import Derived.KernelRfl
namespace Go.Proofs.Ytclnhdjnmfkeaaa
/- THE CELL 'sum', in the pinned program and in every row, IS THE sha256 OF THE DUMP (.gsa) THAT YtclnhdjnmfkeaaaProg.lean LOADS. Nothing in Lean hashes anything: it is a label: what it is worth is what the hold of that sum in a sandbox is worth. -/
noncomputable def Try.pinned : Pinned := { name := "ytclnhdjnmfkeaaa", sum := "27f8d47b2c18d8431dcc3b559f526a4321cd778d44f1512b4ca9421d261579ad", checked := Try.checked }
namespace Rows
def none {H : Type} : Left H := { results := [], args := [] }

/-- 'laws.FnExactAreIrqs': WHATEVER THE INPUT: true; the input reads as it did. -/
def fnExactAreIrqsSpec : ChangeSpec := { name := "fnExactAreIrqs", fn := fun _ => fun
  | [d] => { results := [.lit (.bool true)], args := [d] }
  | _ => none }
def fnExactAreIrqsRow : OpenClaim := { program := "ytclnhdjnmfkeaaa", sum := "27f8d47b2c18d8431dcc3b559f526a4321cd778d44f1512b4ca9421d261579ad", func := "loop.example/g00843/laws.FnExactAreIrqs", spec := "fnExactAreIrqs", apart := false }
def FnExactAreIrqsSaid : Prop := fnExactAreIrqsRow.holds Try.pinned (OpenSpec.ofChange fnExactAreIrqsSpec)

/-- ITS FALSE NEIGHBOUR: 'it returns false'. Refute it at one input. -/
def fnExactAreIrqsWrong : ChangeSpec := { name := "fnExactAreIrqs", fn := fun _ => fun
  | [d] => { results := [.lit (.bool false)], args := [d] }
  | _ => none }
def FnExactAreIrqsWrongFalsely : Prop := fnExactAreIrqsRow.holds Try.pinned (OpenSpec.ofChange fnExactAreIrqsWrong)

/-- 'laws.FnExactSetPending': WHATEVER THE INPUT: true; the input reads as it did. -/
def fnExactSetPendingSpec : ChangeSpec := { name := "fnExactSetPending", fn := fun _ => fun
  | [d1, d2, d3] => { results := [.lit (.bool true)], args := [d1, d2, d3] }
  | _ => none }
def fnExactSetPendingRow : OpenClaim := { program := "ytclnhdjnmfkeaaa", sum := "27f8d47b2c18d8431dcc3b559f526a4321cd778d44f1512b4ca9421d261579ad", func := "loop.example/g00843/laws.FnExactSetPending", spec := "fnExactSetPending", apart := false }
def FnExactSetPendingSaid : Prop := fnExactSetPendingRow.holds Try.pinned (OpenSpec.ofChange fnExactSetPendingSpec)

/-- ITS FALSE NEIGHBOUR: 'it returns false'. Refute it at one input. -/
def fnExactSetPendingWrong : ChangeSpec := { name := "fnExactSetPending", fn := fun _ => fun
  | [d1, d2, d3] => { results := [.lit (.bool false)], args := [d1, d2, d3] }
  | _ => none }
def FnExactSetPendingWrongFalsely : Prop := fnExactSetPendingRow.holds Try.pinned (OpenSpec.ofChange fnExactSetPendingWrong)

/-- 'laws.FnExactEnableIrq': WHATEVER THE INPUT: true; the input reads as it did. -/
def fnExactEnableIrqSpec : ChangeSpec := { name := "fnExactEnableIrq", fn := fun _ => fun
  | [d1, d2, d3] => { results := [.lit (.bool true)], args := [d1, d2, d3] }
  | _ => none }
def fnExactEnableIrqRow : OpenClaim := { program := "ytclnhdjnmfkeaaa", sum := "27f8d47b2c18d8431dcc3b559f526a4321cd778d44f1512b4ca9421d261579ad", func := "loop.example/g00843/laws.FnExactEnableIrq", spec := "fnExactEnableIrq", apart := false }
def FnExactEnableIrqSaid : Prop := fnExactEnableIrqRow.holds Try.pinned (OpenSpec.ofChange fnExactEnableIrqSpec)

/-- ITS FALSE NEIGHBOUR: 'it returns false'. Refute it at one input. -/
def fnExactEnableIrqWrong : ChangeSpec := { name := "fnExactEnableIrq", fn := fun _ => fun
  | [d1, d2, d3] => { results := [.lit (.bool false)], args := [d1, d2, d3] }
  | _ => none }
def FnExactEnableIrqWrongFalsely : Prop := fnExactEnableIrqRow.holds Try.pinned (OpenSpec.ofChange fnExactEnableIrqWrong)

/-- 'laws.FnExactRouteIrq': WHATEVER THE INPUT: true; the input reads as it did. -/
def fnExactRouteIrqSpec : ChangeSpec := { name := "fnExactRouteIrq", fn := fun _ => fun
  | [d1, d2, d3, d4] => { results := [.lit (.bool true)], args := [d1, d2, d3, d4] }
  | _ => none }
def fnExactRouteIrqRow : OpenClaim := { program := "ytclnhdjnmfkeaaa", sum := "27f8d47b2c18d8431dcc3b559f526a4321cd778d44f1512b4ca9421d261579ad", func := "loop.example/g00843/laws.FnExactRouteIrq", spec := "fnExactRouteIrq", apart := false }
def FnExactRouteIrqSaid : Prop := fnExactRouteIrqRow.holds Try.pinned (OpenSpec.ofChange fnExactRouteIrqSpec)

/-- ITS FALSE NEIGHBOUR: 'it returns false'. Refute it at one input. -/
def fnExactRouteIrqWrong : ChangeSpec := { name := "fnExactRouteIrq", fn := fun _ => fun
  | [d1, d2, d3, d4] => { results := [.lit (.bool false)], args := [d1, d2, d3, d4] }
  | _ => none }
def FnExactRouteIrqWrongFalsely : Prop := fnExactRouteIrqRow.holds Try.pinned (OpenSpec.ofChange fnExactRouteIrqWrong)

/-- 'laws.FnExactReadyIrqs': WHATEVER THE INPUT: true; the input reads as it did. -/
def fnExactReadyIrqsSpec : ChangeSpec := { name := "fnExactReadyIrqs", fn := fun _ => fun
  | [d1, d2] => { results := [.lit (.bool true)], args := [d1, d2] }
  | _ => none }
def fnExactReadyIrqsRow : OpenClaim := { program := "ytclnhdjnmfkeaaa", sum := "27f8d47b2c18d8431dcc3b559f526a4321cd778d44f1512b4ca9421d261579ad", func := "loop.example/g00843/laws.FnExactReadyIrqs", spec := "fnExactReadyIrqs", unfollowed := true, recurses := true, apart := false }
def FnExactReadyIrqsSaid : Prop := fnExactReadyIrqsRow.holds Try.pinned (OpenSpec.ofChange fnExactReadyIrqsSpec)

/-- ITS FALSE NEIGHBOUR: 'it returns false'. Refute it at one input. -/
def fnExactReadyIrqsWrong : ChangeSpec := { name := "fnExactReadyIrqs", fn := fun _ => fun
  | [d1, d2] => { results := [.lit (.bool false)], args := [d1, d2] }
  | _ => none }
def FnExactReadyIrqsWrongFalsely : Prop := fnExactReadyIrqsRow.holds Try.pinned (OpenSpec.ofChange fnExactReadyIrqsWrong)

/-- 'laws.FnExactMostUrgent': WHATEVER THE INPUT: true; the input reads as it did. -/
def fnExactMostUrgentSpec : ChangeSpec := { name := "fnExactMostUrgent", fn := fun _ => fun
  | [d1, d2] => { results := [.lit (.bool true)], args := [d1, d2] }
  | _ => none }
def fnExactMostUrgentRow : OpenClaim := { program := "ytclnhdjnmfkeaaa", sum := "27f8d47b2c18d8431dcc3b559f526a4321cd778d44f1512b4ca9421d261579ad", func := "loop.example/g00843/laws.FnExactMostUrgent", spec := "fnExactMostUrgent", unfollowed := true, recurses := true, apart := false }
def FnExactMostUrgentSaid : Prop := fnExactMostUrgentRow.holds Try.pinned (OpenSpec.ofChange fnExactMostUrgentSpec)

/-- ITS FALSE NEIGHBOUR: 'it returns false'. Refute it at one input. -/
def fnExactMostUrgentWrong : ChangeSpec := { name := "fnExactMostUrgent", fn := fun _ => fun
  | [d1, d2] => { results := [.lit (.bool false)], args := [d1, d2] }
  | _ => none }
def FnExactMostUrgentWrongFalsely : Prop := fnExactMostUrgentRow.holds Try.pinned (OpenSpec.ofChange fnExactMostUrgentWrong)

/-- 'laws.FnExactBeginIrq': WHATEVER THE INPUT: true; the input reads as it did. -/
def fnExactBeginIrqSpec : ChangeSpec := { name := "fnExactBeginIrq", fn := fun _ => fun
  | [d1, d2] => { results := [.lit (.bool true)], args := [d1, d2] }
  | _ => none }
def fnExactBeginIrqRow : OpenClaim := { program := "ytclnhdjnmfkeaaa", sum := "27f8d47b2c18d8431dcc3b559f526a4321cd778d44f1512b4ca9421d261579ad", func := "loop.example/g00843/laws.FnExactBeginIrq", spec := "fnExactBeginIrq", apart := false }
def FnExactBeginIrqSaid : Prop := fnExactBeginIrqRow.holds Try.pinned (OpenSpec.ofChange fnExactBeginIrqSpec)

/-- ITS FALSE NEIGHBOUR: 'it returns false'. Refute it at one input. -/
def fnExactBeginIrqWrong : ChangeSpec := { name := "fnExactBeginIrq", fn := fun _ => fun
  | [d1, d2] => { results := [.lit (.bool false)], args := [d1, d2] }
  | _ => none }
def FnExactBeginIrqWrongFalsely : Prop := fnExactBeginIrqRow.holds Try.pinned (OpenSpec.ofChange fnExactBeginIrqWrong)

/-- 'laws.FnExactEndIrq': WHATEVER THE INPUT: true; the input reads as it did. -/
def fnExactEndIrqSpec : ChangeSpec := { name := "fnExactEndIrq", fn := fun _ => fun
  | [d1, d2] => { results := [.lit (.bool true)], args := [d1, d2] }
  | _ => none }
def fnExactEndIrqRow : OpenClaim := { program := "ytclnhdjnmfkeaaa", sum := "27f8d47b2c18d8431dcc3b559f526a4321cd778d44f1512b4ca9421d261579ad", func := "loop.example/g00843/laws.FnExactEndIrq", spec := "fnExactEndIrq", apart := false }
def FnExactEndIrqSaid : Prop := fnExactEndIrqRow.holds Try.pinned (OpenSpec.ofChange fnExactEndIrqSpec)

/-- ITS FALSE NEIGHBOUR: 'it returns false'. Refute it at one input. -/
def fnExactEndIrqWrong : ChangeSpec := { name := "fnExactEndIrq", fn := fun _ => fun
  | [d1, d2] => { results := [.lit (.bool false)], args := [d1, d2] }
  | _ => none }
def FnExactEndIrqWrongFalsely : Prop := fnExactEndIrqRow.holds Try.pinned (OpenSpec.ofChange fnExactEndIrqWrong)

/-- 'laws.FnExactServeAll': WHATEVER THE INPUT: true; the input reads as it did. -/
def fnExactServeAllSpec : ChangeSpec := { name := "fnExactServeAll", fn := fun _ => fun
  | [d1, d2] => { results := [.lit (.bool true)], args := [d1, d2] }
  | _ => none }
def fnExactServeAllRow : OpenClaim := { program := "ytclnhdjnmfkeaaa", sum := "27f8d47b2c18d8431dcc3b559f526a4321cd778d44f1512b4ca9421d261579ad", func := "loop.example/g00843/laws.FnExactServeAll", spec := "fnExactServeAll", unfollowed := true, recurses := true, apart := false }
def FnExactServeAllSaid : Prop := fnExactServeAllRow.holds Try.pinned (OpenSpec.ofChange fnExactServeAllSpec)

/-- ITS FALSE NEIGHBOUR: 'it returns false'. Refute it at one input. -/
def fnExactServeAllWrong : ChangeSpec := { name := "fnExactServeAll", fn := fun _ => fun
  | [d1, d2] => { results := [.lit (.bool false)], args := [d1, d2] }
  | _ => none }
def FnExactServeAllWrongFalsely : Prop := fnExactServeAllRow.holds Try.pinned (OpenSpec.ofChange fnExactServeAllWrong)

/-- 'laws.FnExactPriorityMask': WHATEVER THE INPUT: true; the input reads as it did. -/
def fnExactPriorityMaskSpec : ChangeSpec := { name := "fnExactPriorityMask", fn := fun _ => fun
  | [d1, d2, d3] => { results := [.lit (.bool true)], args := [d1, d2, d3] }
  | _ => none }
def fnExactPriorityMaskRow : OpenClaim := { program := "ytclnhdjnmfkeaaa", sum := "27f8d47b2c18d8431dcc3b559f526a4321cd778d44f1512b4ca9421d261579ad", func := "loop.example/g00843/laws.FnExactPriorityMask", spec := "fnExactPriorityMask", unfollowed := true, recurses := true, apart := false }
def FnExactPriorityMaskSaid : Prop := fnExactPriorityMaskRow.holds Try.pinned (OpenSpec.ofChange fnExactPriorityMaskSpec)

/-- ITS FALSE NEIGHBOUR: 'it returns false'. Refute it at one input. -/
def fnExactPriorityMaskWrong : ChangeSpec := { name := "fnExactPriorityMask", fn := fun _ => fun
  | [d1, d2, d3] => { results := [.lit (.bool false)], args := [d1, d2, d3] }
  | _ => none }
def FnExactPriorityMaskWrongFalsely : Prop := fnExactPriorityMaskRow.holds Try.pinned (OpenSpec.ofChange fnExactPriorityMaskWrong)

/-- 'laws.FnDistributor': WHATEVER THE INPUT: true; the input reads as it did. -/
def fnDistributorSpec : ChangeSpec := { name := "fnDistributor", fn := fun _ => fun
  | [d] => { results := [.lit (.bool true)], args := [d] }
  | _ => none }
def fnDistributorRow : OpenClaim := { program := "ytclnhdjnmfkeaaa", sum := "27f8d47b2c18d8431dcc3b559f526a4321cd778d44f1512b4ca9421d261579ad", func := "loop.example/g00843/laws.FnDistributor", spec := "fnDistributor", unfollowed := true, recurses := true, apart := false }
def FnDistributorSaid : Prop := fnDistributorRow.holds Try.pinned (OpenSpec.ofChange fnDistributorSpec)

/-- ITS FALSE NEIGHBOUR: 'it returns false'. Refute it at one input. -/
def fnDistributorWrong : ChangeSpec := { name := "fnDistributor", fn := fun _ => fun
  | [d] => { results := [.lit (.bool false)], args := [d] }
  | _ => none }
def FnDistributorWrongFalsely : Prop := fnDistributorRow.holds Try.pinned (OpenSpec.ofChange fnDistributorWrong)

/-- 'laws.FnIrqStates': WHATEVER THE INPUT: true; the input reads as it did. -/
def fnIrqStatesSpec : ChangeSpec := { name := "fnIrqStates", fn := fun _ => fun
  | [d] => { results := [.lit (.bool true)], args := [d] }
  | _ => none }
def fnIrqStatesRow : OpenClaim := { program := "ytclnhdjnmfkeaaa", sum := "27f8d47b2c18d8431dcc3b559f526a4321cd778d44f1512b4ca9421d261579ad", func := "loop.example/g00843/laws.FnIrqStates", spec := "fnIrqStates", apart := false }
def FnIrqStatesSaid : Prop := fnIrqStatesRow.holds Try.pinned (OpenSpec.ofChange fnIrqStatesSpec)

/-- ITS FALSE NEIGHBOUR: 'it returns false'. Refute it at one input. -/
def fnIrqStatesWrong : ChangeSpec := { name := "fnIrqStates", fn := fun _ => fun
  | [d] => { results := [.lit (.bool false)], args := [d] }
  | _ => none }
def FnIrqStatesWrongFalsely : Prop := fnIrqStatesRow.holds Try.pinned (OpenSpec.ofChange fnIrqStatesWrong)

/- THE SECOND FORM. 'bulk': how many values and letters a reading holds, each counted each time it is reached (what is shared counts as often as it is met; a slice's spare places count too). A statement '..UptoSaid' is the law's where the arguments, and the package variables that the reading takes, are together of bulk at most 1048576: NARROWER than '..Said'. Prove '..Said' where nothing that the law and all that it calls make is longer than what came in: it says more and counts as full. Else prove '..UptoSaid'. A law counts once. -/
mutual
def uptoBulk {H : Type} : DataW H → Nat
  | .lit (.string bytes) => bytes.length + 1
  | .lit _ => 1
  | .nil => 1
  | .ptr d => uptoBulk d + 1
  | .slice elems spare => uptoBulkAll elems + uptoBulkAll spare + 1
  | .agg parts => uptoBulkAll parts + 1
  | .iface _ d => uptoBulk d + 1
  | .map entries => uptoBulkEntries entries + 1
  | .held _ => 1
def uptoBulkAll {H : Type} : List (DataW H) → Nat
  | [] => 0
  | d :: r => uptoBulk d + uptoBulkAll r
def uptoBulkEntries {H : Type} : List (Lit × DataW H) → Nat
  | [] => 0
  | x :: r => uptoBulkEntry x + uptoBulkEntries r
def uptoBulkEntry {H : Type} : Lit × DataW H → Nat
  | (.string bytes, d) => bytes.length + uptoBulk d + 1
  | (_, d) => uptoBulk d + 1
 end
def uptoSmall : (H : Type) → List (DataW H) → Bool := fun _ ds => decide (uptoBulkAll ds ≤ 1048576)
def OpenSpec.upto (s : _root_.Go.ChangeSpec) : _root_.Go.OpenSpec := { _root_.Go.OpenSpec.ofChange s with cond := some uptoSmall }

/-- 'laws.FnExactAreIrqs', WHERE WHAT IT READS IS OF BULK AT MOST 1048576: true; the input reads as it did. -/
def fnExactAreIrqsUptoRow : OpenClaim := { program := "ytclnhdjnmfkeaaa", sum := "27f8d47b2c18d8431dcc3b559f526a4321cd778d44f1512b4ca9421d261579ad", func := "loop.example/g00843/laws.FnExactAreIrqs", spec := "fnExactAreIrqs", apart := false, narrowed := true }
def FnExactAreIrqsUptoSaid : Prop := fnExactAreIrqsUptoRow.holds Try.pinned (OpenSpec.upto fnExactAreIrqsSpec)

/-- 'laws.FnExactSetPending', WHERE WHAT IT READS IS OF BULK AT MOST 1048576: true; the input reads as it did. -/
def fnExactSetPendingUptoRow : OpenClaim := { program := "ytclnhdjnmfkeaaa", sum := "27f8d47b2c18d8431dcc3b559f526a4321cd778d44f1512b4ca9421d261579ad", func := "loop.example/g00843/laws.FnExactSetPending", spec := "fnExactSetPending", apart := false, narrowed := true }
def FnExactSetPendingUptoSaid : Prop := fnExactSetPendingUptoRow.holds Try.pinned (OpenSpec.upto fnExactSetPendingSpec)

/-- 'laws.FnExactEnableIrq', WHERE WHAT IT READS IS OF BULK AT MOST 1048576: true; the input reads as it did. -/
def fnExactEnableIrqUptoRow : OpenClaim := { program := "ytclnhdjnmfkeaaa", sum := "27f8d47b2c18d8431dcc3b559f526a4321cd778d44f1512b4ca9421d261579ad", func := "loop.example/g00843/laws.FnExactEnableIrq", spec := "fnExactEnableIrq", apart := false, narrowed := true }
def FnExactEnableIrqUptoSaid : Prop := fnExactEnableIrqUptoRow.holds Try.pinned (OpenSpec.upto fnExactEnableIrqSpec)

/-- 'laws.FnExactRouteIrq', WHERE WHAT IT READS IS OF BULK AT MOST 1048576: true; the input reads as it did. -/
def fnExactRouteIrqUptoRow : OpenClaim := { program := "ytclnhdjnmfkeaaa", sum := "27f8d47b2c18d8431dcc3b559f526a4321cd778d44f1512b4ca9421d261579ad", func := "loop.example/g00843/laws.FnExactRouteIrq", spec := "fnExactRouteIrq", apart := false, narrowed := true }
def FnExactRouteIrqUptoSaid : Prop := fnExactRouteIrqUptoRow.holds Try.pinned (OpenSpec.upto fnExactRouteIrqSpec)

/-- 'laws.FnExactReadyIrqs', WHERE WHAT IT READS IS OF BULK AT MOST 1048576: true; the input reads as it did. -/
def fnExactReadyIrqsUptoRow : OpenClaim := { program := "ytclnhdjnmfkeaaa", sum := "27f8d47b2c18d8431dcc3b559f526a4321cd778d44f1512b4ca9421d261579ad", func := "loop.example/g00843/laws.FnExactReadyIrqs", spec := "fnExactReadyIrqs", unfollowed := true, recurses := true, apart := false, narrowed := true }
def FnExactReadyIrqsUptoSaid : Prop := fnExactReadyIrqsUptoRow.holds Try.pinned (OpenSpec.upto fnExactReadyIrqsSpec)

/-- 'laws.FnExactMostUrgent', WHERE WHAT IT READS IS OF BULK AT MOST 1048576: true; the input reads as it did. -/
def fnExactMostUrgentUptoRow : OpenClaim := { program := "ytclnhdjnmfkeaaa", sum := "27f8d47b2c18d8431dcc3b559f526a4321cd778d44f1512b4ca9421d261579ad", func := "loop.example/g00843/laws.FnExactMostUrgent", spec := "fnExactMostUrgent", unfollowed := true, recurses := true, apart := false, narrowed := true }
def FnExactMostUrgentUptoSaid : Prop := fnExactMostUrgentUptoRow.holds Try.pinned (OpenSpec.upto fnExactMostUrgentSpec)

/-- 'laws.FnExactBeginIrq', WHERE WHAT IT READS IS OF BULK AT MOST 1048576: true; the input reads as it did. -/
def fnExactBeginIrqUptoRow : OpenClaim := { program := "ytclnhdjnmfkeaaa", sum := "27f8d47b2c18d8431dcc3b559f526a4321cd778d44f1512b4ca9421d261579ad", func := "loop.example/g00843/laws.FnExactBeginIrq", spec := "fnExactBeginIrq", apart := false, narrowed := true }
def FnExactBeginIrqUptoSaid : Prop := fnExactBeginIrqUptoRow.holds Try.pinned (OpenSpec.upto fnExactBeginIrqSpec)

/-- 'laws.FnExactEndIrq', WHERE WHAT IT READS IS OF BULK AT MOST 1048576: true; the input reads as it did. -/
def fnExactEndIrqUptoRow : OpenClaim := { program := "ytclnhdjnmfkeaaa", sum := "27f8d47b2c18d8431dcc3b559f526a4321cd778d44f1512b4ca9421d261579ad", func := "loop.example/g00843/laws.FnExactEndIrq", spec := "fnExactEndIrq", apart := false, narrowed := true }
def FnExactEndIrqUptoSaid : Prop := fnExactEndIrqUptoRow.holds Try.pinned (OpenSpec.upto fnExactEndIrqSpec)

/-- 'laws.FnExactServeAll', WHERE WHAT IT READS IS OF BULK AT MOST 1048576: true; the input reads as it did. -/
def fnExactServeAllUptoRow : OpenClaim := { program := "ytclnhdjnmfkeaaa", sum := "27f8d47b2c18d8431dcc3b559f526a4321cd778d44f1512b4ca9421d261579ad", func := "loop.example/g00843/laws.FnExactServeAll", spec := "fnExactServeAll", unfollowed := true, recurses := true, apart := false, narrowed := true }
def FnExactServeAllUptoSaid : Prop := fnExactServeAllUptoRow.holds Try.pinned (OpenSpec.upto fnExactServeAllSpec)

/-- 'laws.FnExactPriorityMask', WHERE WHAT IT READS IS OF BULK AT MOST 1048576: true; the input reads as it did. -/
def fnExactPriorityMaskUptoRow : OpenClaim := { program := "ytclnhdjnmfkeaaa", sum := "27f8d47b2c18d8431dcc3b559f526a4321cd778d44f1512b4ca9421d261579ad", func := "loop.example/g00843/laws.FnExactPriorityMask", spec := "fnExactPriorityMask", unfollowed := true, recurses := true, apart := false, narrowed := true }
def FnExactPriorityMaskUptoSaid : Prop := fnExactPriorityMaskUptoRow.holds Try.pinned (OpenSpec.upto fnExactPriorityMaskSpec)

/-- 'laws.FnDistributor', WHERE WHAT IT READS IS OF BULK AT MOST 1048576: true; the input reads as it did. -/
def fnDistributorUptoRow : OpenClaim := { program := "ytclnhdjnmfkeaaa", sum := "27f8d47b2c18d8431dcc3b559f526a4321cd778d44f1512b4ca9421d261579ad", func := "loop.example/g00843/laws.FnDistributor", spec := "fnDistributor", unfollowed := true, recurses := true, apart := false, narrowed := true }
def FnDistributorUptoSaid : Prop := fnDistributorUptoRow.holds Try.pinned (OpenSpec.upto fnDistributorSpec)

/-- 'laws.FnIrqStates', WHERE WHAT IT READS IS OF BULK AT MOST 1048576: true; the input reads as it did. -/
def fnIrqStatesUptoRow : OpenClaim := { program := "ytclnhdjnmfkeaaa", sum := "27f8d47b2c18d8431dcc3b559f526a4321cd778d44f1512b4ca9421d261579ad", func := "loop.example/g00843/laws.FnIrqStates", spec := "fnIrqStates", apart := false, narrowed := true }
def FnIrqStatesUptoSaid : Prop := fnIrqStatesUptoRow.holds Try.pinned (OpenSpec.upto fnIrqStatesSpec)

end Rows
end Go.Proofs.Ytclnhdjnmfkeaaa
