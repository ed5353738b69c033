/- Slot as data. No program's text. -/
import Derived.Test.YtadpjkghfgnbbaaDoorCells
namespace Go.Proofs.YtadpjkghfgnbbaaDoor.L8
open Go Go.Proofs.YtadpjkghfgnbbaaDoor.Own
structure Slt where
  st : Int
  iq : Int
  pr : Int
deriving DecidableEq, Inhabited
instance : Cells Slt where
  size := 3
  cells x := [.int .i64 x.st, .int .i64 x.iq, .int .i64 x.pr]
  len _ := rfl
  pos := by decide
def Slt.val (x : Slt) : Value := .agg #[.int .i64 x.st, .int .i64 x.iq, .int .i64 x.pr]
end Go.Proofs.YtadpjkghfgnbbaaDoor.L8
