/- What the laws' comparison of two Trap answers. -/
import Derived.Test.YtaamjnpknmimmaaTrpC
namespace Go.Proofs.Ytaamjnpknmimmaa.L5
open Go Go.RowKit Go.Proofs.Ytaamjnpknmimmaa.Mem Go.Proofs.Ytaamjnpknmimmaa.Own
set_option maxHeartbeats 1000000 in
theorem eqTrap_c (x0 : Int) (x1 : Int) (x2 : Bool) (x3 : Int) (x4 : Int) (w : World) :
    Calls Try.prog 20 #[.agg #[.int .i64 x0, .int .i64 x1, .bool x2, .int .i64 x3, .int .i64 x4], .agg #[.int .i64 x0, .int .i64 x1, .bool x2, .int .i64 x3, .int .i64 x4]] w fun e w' => e = .returned (.bool true) ∧ Below w.heap.size w w' := by
  go_enter Try.func20, Try.ntmps20
  go_wp2
  go_ret
  exact ⟨rfl, (below_more (below_more (Below.refl _ _) _) _)⟩
theorem eqTrap_any (x : Trp) (w : World) : Calls Try.prog 20 #[x.val, x.val] w fun e w' => e = .returned (.bool true) ∧ Below w.heap.size w w' := by
  obtain ⟨x0, x1, x2, x3, x4⟩ := x
  exact eqTrap_c x0 x1 x2 x3 x4 w
end Go.Proofs.Ytaamjnpknmimmaa.L5
