/- What the laws' comparison of two Line answers. -/
import Derived.Test.YtfdbnolifimnhabLinC
namespace Go.Proofs.Ytfdbnolifimnhab.L7
open Go Go.RowKit Go.Proofs.Ytfdbnolifimnhab.Mem Go.Proofs.Ytfdbnolifimnhab.Own
set_option maxHeartbeats 1000000 in
theorem eqLine_c (x0 : Int) (x1 : Int) (x2 : Bool) (x3 : Bool) (w : World) :
    Calls Try.prog 21 #[.agg #[.int .i64 x0, .int .i64 x1, .bool x2, .bool x3], .agg #[.int .i64 x0, .int .i64 x1, .bool x2, .bool x3]] w fun e w' => e = .returned (.bool true) ∧ Below w.heap.size w w' := by
  go_enter Try.func21, Try.ntmps21
  go_wp2
  go_ret
  exact ⟨rfl, (below_more (below_more (Below.refl _ _) _) _)⟩
theorem eqLine_any (x : Lin) (w : World) : Calls Try.prog 21 #[x.val, x.val] w fun e w' => e = .returned (.bool true) ∧ Below w.heap.size w w' := by
  obtain ⟨x0, x1, x2, x3⟩ := x
  exact eqLine_c x0 x1 x2 x3 w
end Go.Proofs.Ytfdbnolifimnhab.L7
