/- What the laws do with instructions: comparisons. -/
import Derived.Test.YtfdbnolifimnhabDoorBlk
import Derived.Test.YtfdbnolifimnhabDoorIsB
import Derived.Test.YtfdbnolifimnhabDoorL3
import Derived.Lib.QuietBelow
namespace Go.Proofs.YtfdbnolifimnhabDoor.L3
open Go.RowKit Go.Proofs.YtfdbnolifimnhabDoor.Mem Go.Proofs.YtfdbnolifimnhabDoor.Own
set_option maxHeartbeats 1000000 in
theorem eqInstruction_same (x : Ins) (w : World) :
    Calls Tryd.prog 33 #[x.val, x.val] w fun e w' => e = .returned (.bool true) ∧ Below w.heap.size w w' := by
  obtain ⟨op, a, b, n⟩ := x
  show Calls Tryd.prog 33 #[.agg #[.int .i64 op, .int .i64 a, .int .i64 b, .int .i64 n], .agg #[.int .i64 op, .int .i64 a, .int .i64 b, .int .i64 n]] w fun e w' => e = .returned (.bool true) ∧ Below w.heap.size w w'
  go_enter Tryd.func33, Tryd.ntmps33
  go_wp2
  go_ret
  exact ⟨rfl, below_more (below_more (Below.refl _ _) _) _⟩
end Go.Proofs.YtfdbnolifimnhabDoor.L3
