/- Line as data. No program's text. -/
import Derived.Test.YtfdbnolifimnhaaCells
namespace Go.Proofs.Ytfdbnolifimnhaa.L7
open Go Go.Proofs.Ytfdbnolifimnhaa.Own
structure Lin where
  ki : Int
  iq : Int
  hi : Bool
  ra : Bool
deriving DecidableEq, Inhabited
instance : Cells Lin where
  size := 4
  cells x := [.int .i64 x.ki, .int .i64 x.iq, .bool x.hi, .bool x.ra]
  len _ := rfl
  pos := by decide
def Lin.val (x : Lin) : Value := .agg #[.int .i64 x.ki, .int .i64 x.iq, .bool x.hi, .bool x.ra]
end Go.Proofs.Ytfdbnolifimnhaa.L7
