/-
  NARROWER THAN 'FOR EVERY INPUT', by the rows' own cells (each row's printed sentence says how): FnExactTrapName: laid · FnTraps: laid.
  DERIVED. THE GIVEN ROWS OF THIS SEAT. 2 by the template 'for every input the law returns true; each argument reads behind the call as it read before'; 0 by the template 'total and deterministic' (their statements: YtaamjnpknmimmaaDoorTotals.lean).
  GIVEN WITH THE SEED: the statements are not yours to turn. If you find one false, say at which input.
  Laid BY PROGRAM, IN A SANDBOX (cutbox-rows.mjs): the forced cells as the released guide's own fill.sh prints them over the translation b52d685b682abd0c… (all of the seat's roots in one cut). By AI agents, Wed Nov 11 2026. No macro, syntax, notation, axiom, sorry.
-/
import Derived.Test.YtaamjnpknmimmaaDoorChecked
import GoSem.Claim
import GoSem.ClaimJoined
import GoSem.ClaimMapViews
import Derived.JoinedTies
import Derived.KernelRfl
namespace Go.Proofs.YtaamjnpknmimmaaDoor
/- THE CELL 'sum', in the pinned program and in every row, IS THE sha256 OF THE DUMP (.gsa) THAT YtaamjnpknmimmaaDoorProg.lean LOADS. Nothing in Lean hashes anything: it is a label: what it is worth is what the hold of that sum in a sandbox is worth. -/
noncomputable def Tryd.pinned : Pinned := { name := "ytaamjnpknmimmaadoor", sum := "b52d685b682abd0c8d4405a1b4f53c7e1616a90f14e14d7e3753fd5f0f886dc6", checked := Tryd.checked }
namespace Rows
def none {H : Type} : Left H := { results := [], args := [] }

/- WHAT THE LISTED PACKAGE-LEVEL VARIABLES READ AS WHEN THE CALL BEGINS. Each datum BY PROGRAM (the guide's laid-datum.mjs) off the statement by which the dump's own 'gosem.cut.vars' lays the variable. In a bare row this is a premise. The card (YtaamjnpknmimmaaDoorCards.lean) ties it to the program's text. -/
def laid_loop_example_g00843_impl_trapNames {H : Type} : DataW H := .agg [.lit (.string []), .lit (.string [102, 97, 117, 108, 116]), .lit (.string [99, 97, 108, 108]), .lit (.string [100, 101, 118, 105, 99, 101]), .lit (.string [119, 97, 105, 116]), .lit (.string [98, 97, 100])]

/-- 'laws.FnExactTrapName': WHATEVER THE INPUT: true; the input reads as it did. -/
def fnExactTrapNameSpec : ChangeSpec := { name := "fnExactTrapName", vars := ["loop.example/g00843/impl.trapNames"], fn := fun _ => fun
  | [d, g1] => { results := [.lit (.bool true)], args := [d], vars := [g1] }
  | _ => none }
def fnExactTrapNameRow : OpenClaim := { program := "ytaamjnpknmimmaadoor", sum := "b52d685b682abd0c8d4405a1b4f53c7e1616a90f14e14d7e3753fd5f0f886dc6", func := "loop.example/g00843/laws.FnExactTrapName", spec := "fnExactTrapName", named := ["loop.example/g00843/impl.trapNames"], apart := false, laid := [("loop.example/g00843/impl.trapNames", laid_loop_example_g00843_impl_trapNames)] }
def FnExactTrapNameSaid : Prop := fnExactTrapNameRow.holds Tryd.pinned (OpenSpec.ofChange fnExactTrapNameSpec)

/-- ITS FALSE NEIGHBOUR: 'it returns false'. Refute it at one input. -/
def fnExactTrapNameWrong : ChangeSpec := { name := "fnExactTrapName", vars := ["loop.example/g00843/impl.trapNames"], fn := fun _ => fun
  | [d, g1] => { results := [.lit (.bool false)], args := [d], vars := [g1] }
  | _ => none }
def FnExactTrapNameWrongFalsely : Prop := fnExactTrapNameRow.holds Tryd.pinned (OpenSpec.ofChange fnExactTrapNameWrong)

/-- 'laws.FnTraps': WHATEVER THE INPUT: true; the input reads as it did. -/
def fnTrapsSpec : ChangeSpec := { name := "fnTraps", vars := ["loop.example/g00843/impl.trapNames"], fn := fun _ => fun
  | [d, g1] => { results := [.lit (.bool true)], args := [d], vars := [g1] }
  | _ => none }
def fnTrapsRow : OpenClaim := { program := "ytaamjnpknmimmaadoor", sum := "b52d685b682abd0c8d4405a1b4f53c7e1616a90f14e14d7e3753fd5f0f886dc6", func := "loop.example/g00843/laws.FnTraps", spec := "fnTraps", named := ["loop.example/g00843/impl.trapNames"], apart := false, laid := [("loop.example/g00843/impl.trapNames", laid_loop_example_g00843_impl_trapNames)] }
def FnTrapsSaid : Prop := fnTrapsRow.holds Tryd.pinned (OpenSpec.ofChange fnTrapsSpec)

/-- ITS FALSE NEIGHBOUR: 'it returns false'. Refute it at one input. -/
def fnTrapsWrong : ChangeSpec := { name := "fnTraps", vars := ["loop.example/g00843/impl.trapNames"], fn := fun _ => fun
  | [d, g1] => { results := [.lit (.bool false)], args := [d], vars := [g1] }
  | _ => none }
def FnTrapsWrongFalsely : Prop := fnTrapsRow.holds Tryd.pinned (OpenSpec.ofChange fnTrapsWrong)

/- THE SECOND FORM. 'bulk': how many values and letters a reading holds, each counted each time it is reached (what is shared counts as often as it is met; a slice's spare places count too). A statement '..UptoSaid' is the law's where the arguments, and the package variables that the reading takes, are together of bulk at most 1048576: NARROWER than '..Said'. Prove '..Said' where nothing that the law and all that it calls make is longer than what came in: it says more and counts as full. Else prove '..UptoSaid'. A law counts once. -/
mutual
def uptoBulk {H : Type} : DataW H → Nat
  | .lit (.string bytes) => bytes.length + 1
  | .lit _ => 1
  | .nil => 1
  | .ptr d => uptoBulk d + 1
  | .slice elems spare => uptoBulkAll elems + uptoBulkAll spare + 1
  | .agg parts => uptoBulkAll parts + 1
  | .iface _ d => uptoBulk d + 1
  | .map entries => uptoBulkEntries entries + 1
  | .held _ => 1
def uptoBulkAll {H : Type} : List (DataW H) → Nat
  | [] => 0
  | d :: r => uptoBulk d + uptoBulkAll r
def uptoBulkEntries {H : Type} : List (Lit × DataW H) → Nat
  | [] => 0
  | x :: r => uptoBulkEntry x + uptoBulkEntries r
def uptoBulkEntry {H : Type} : Lit × DataW H → Nat
  | (.string bytes, d) => bytes.length + uptoBulk d + 1
  | (_, d) => uptoBulk d + 1
 end
def uptoSmall : (H : Type) → List (DataW H) → Bool := fun _ ds => decide (uptoBulkAll ds ≤ 1048576)
def OpenSpec.upto (s : _root_.Go.ChangeSpec) : _root_.Go.OpenSpec := { _root_.Go.OpenSpec.ofChange s with cond := some uptoSmall }

/-- 'laws.FnExactTrapName', WHERE WHAT IT READS IS OF BULK AT MOST 1048576: true; the input reads as it did. -/
def fnExactTrapNameUptoRow : OpenClaim := { program := "ytaamjnpknmimmaadoor", sum := "b52d685b682abd0c8d4405a1b4f53c7e1616a90f14e14d7e3753fd5f0f886dc6", func := "loop.example/g00843/laws.FnExactTrapName", spec := "fnExactTrapName", named := ["loop.example/g00843/impl.trapNames"], apart := false, laid := [("loop.example/g00843/impl.trapNames", laid_loop_example_g00843_impl_trapNames)], narrowed := true }
def FnExactTrapNameUptoSaid : Prop := fnExactTrapNameUptoRow.holds Tryd.pinned (OpenSpec.upto fnExactTrapNameSpec)

/-- 'laws.FnTraps', WHERE WHAT IT READS IS OF BULK AT MOST 1048576: true; the input reads as it did. -/
def fnTrapsUptoRow : OpenClaim := { program := "ytaamjnpknmimmaadoor", sum := "b52d685b682abd0c8d4405a1b4f53c7e1616a90f14e14d7e3753fd5f0f886dc6", func := "loop.example/g00843/laws.FnTraps", spec := "fnTraps", named := ["loop.example/g00843/impl.trapNames"], apart := false, laid := [("loop.example/g00843/impl.trapNames", laid_loop_example_g00843_impl_trapNames)], narrowed := true }
def FnTrapsUptoSaid : Prop := fnTrapsUptoRow.holds Tryd.pinned (OpenSpec.upto fnTrapsSpec)

end Rows
end Go.Proofs.YtaamjnpknmimmaaDoor
