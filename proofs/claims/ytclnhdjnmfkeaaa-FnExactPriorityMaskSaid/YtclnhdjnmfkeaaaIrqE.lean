/- What the laws' comparison of two Irq answers. -/
import Derived.Test.YtclnhdjnmfkeaaaIrqC
namespace Go.Proofs.Ytclnhdjnmfkeaaa.L6
open Go Go.RowKit Go.Proofs.Ytclnhdjnmfkeaaa.Mem Go.Proofs.Ytclnhdjnmfkeaaa.Own
set_option maxHeartbeats 1000000 in
theorem eqIrq_c (x0 : Bool) (x1 : Bool) (x2 : Bool) (x3 : Int) (x4 : Int) (w : World) :
    Calls Try.prog 58 #[.agg #[.bool x0, .bool x1, .bool x2, .int .i64 x3, .int .i64 x4], .agg #[.bool x0, .bool x1, .bool x2, .int .i64 x3, .int .i64 x4]] w fun e w' => e = .returned (.bool true) ∧ Below w.heap.size w w' := by
  go_enter Try.func58, Try.ntmps58
  go_wp2
  go_ret
  exact ⟨rfl, (below_more (below_more (Below.refl _ _) _) _)⟩
theorem eqIrq_any (x : Irq) (w : World) : Calls Try.prog 58 #[x.val, x.val] w fun e w' => e = .returned (.bool true) ∧ Below w.heap.size w w' := by
  obtain ⟨x0, x1, x2, x3, x4⟩ := x
  exact eqIrq_c x0 x1 x2 x3 x4 w
end Go.Proofs.Ytclnhdjnmfkeaaa.L6
