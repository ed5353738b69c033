/- Irq as data. No program's text. -/
import Derived.Test.YtadpjkghfgnbbaaCells
namespace Go.Proofs.Ytadpjkghfgnbbaa.L6
open Go Go.Proofs.Ytadpjkghfgnbbaa.Own
structure Irq where
  en : Bool
  pe : Bool
  ac : Bool
  pr : Int
  tg : Int
deriving DecidableEq, Inhabited
instance : Cells Irq where
  size := 5
  cells x := [.bool x.en, .bool x.pe, .bool x.ac, .int .i64 x.pr, .int .i64 x.tg]
  len _ := rfl
  pos := by decide
def Irq.val (x : Irq) : Value := .agg #[.bool x.en, .bool x.pe, .bool x.ac, .int .i64 x.pr, .int .i64 x.tg]
end Go.Proofs.Ytadpjkghfgnbbaa.L6
