/- What the laws do with one Trap: copy, compare. -/
import Derived.Test.YtaamjnpknmimmaaRows
import Derived.Test.YtaamjnpknmimmaaBlk
import Derived.Test.YtaamjnpknmimmaaTrpD
import Derived.Lib.QuietBelow
namespace Go.Proofs.Ytaamjnpknmimmaa.L5
open Go Go.RowKit Go.Proofs.Ytaamjnpknmimmaa.Mem Go.Proofs.Ytaamjnpknmimmaa.Own
set_option maxHeartbeats 1000000 in
theorem toTrap_c (x0 : Int) (x1 : Int) (x2 : Bool) (x3 : Int) (x4 : Int) (w : World) :
    Calls Try.prog 14 #[.agg #[.int .i64 x0, .int .i64 x1, .bool x2, .int .i64 x3, .int .i64 x4]] w fun e w' => e = .returned (.agg #[.int .i64 x0, .int .i64 x1, .bool x2, .int .i64 x3, .int .i64 x4]) ∧ Below w.heap.size w w' := by
  go_enter Try.func14, Try.ntmps14
  go_wp2
  refine bodyPost_ret (v := .agg #[.int .i64 x0, .int .i64 x1, .bool x2, .int .i64 x3, .int .i64 x4]) (by simp [results, Try.results14, go_sem]) rfl ⟨rfl, ?_⟩
  exact (below_more (below_more (below_more (Below.refl _ _) _) _) _)
theorem toTrap_any (x : Trp) (w : World) : Calls Try.prog 14 #[x.val] w fun e w' => e = .returned x.val ∧ Below w.heap.size w w' := by
  obtain ⟨x0, x1, x2, x3, x4⟩ := x
  exact toTrap_c x0 x1 x2 x3 x4 w
end Go.Proofs.Ytaamjnpknmimmaa.L5
