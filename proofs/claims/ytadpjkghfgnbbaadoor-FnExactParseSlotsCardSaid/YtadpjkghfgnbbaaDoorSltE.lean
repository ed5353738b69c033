/- What the laws' comparison of two Slot answers. -/
import Derived.Test.YtadpjkghfgnbbaaDoorSltC
namespace Go.Proofs.YtadpjkghfgnbbaaDoor.L8
open Go Go.RowKit Go.Proofs.YtadpjkghfgnbbaaDoor.Mem Go.Proofs.YtadpjkghfgnbbaaDoor.Own
set_option maxHeartbeats 1000000 in
theorem eqSlot_c (x0 : Int) (x1 : Int) (x2 : Int) (w : World) :
    Calls Tryd.prog 20 #[.agg #[.int .i64 x0, .int .i64 x1, .int .i64 x2], .agg #[.int .i64 x0, .int .i64 x1, .int .i64 x2]] w fun e w' => e = .returned (.bool true) ∧ Below w.heap.size w w' := by
  go_enter Tryd.func20, Tryd.ntmps20
  go_wp2
  go_ret
  exact ⟨rfl, (below_more (below_more (Below.refl _ _) _) _)⟩
theorem eqSlot_any (x : Slt) (w : World) : Calls Tryd.prog 20 #[x.val, x.val] w fun e w' => e = .returned (.bool true) ∧ Below w.heap.size w w' := by
  obtain ⟨x0, x1, x2⟩ := x
  exact eqSlot_c x0 x1 x2 w
end Go.Proofs.YtadpjkghfgnbbaaDoor.L8
