/- Trap as data. No program's text. -/
import Derived.Test.YtaamjnpknmimmaaCells
namespace Go.Proofs.Ytaamjnpknmimmaa.L5
open Go Go.Proofs.Ytaamjnpknmimmaa.Own
structure Trp where
  cause : Int
  width : Int
  store : Bool
  reg : Int
  info : Int
deriving DecidableEq, Inhabited
instance : Cells Trp where
  size := 5
  cells x := [.int .i64 x.cause, .int .i64 x.width, .bool x.store, .int .i64 x.reg, .int .i64 x.info]
  len _ := rfl
  pos := by decide
def Trp.val (x : Trp) : Value := .agg #[.int .i64 x.cause, .int .i64 x.width, .bool x.store, .int .i64 x.reg, .int .i64 x.info]
end Go.Proofs.Ytaamjnpknmimmaa.L5
