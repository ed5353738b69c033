/- What the laws do with instructions: copies, comparisons. -/
import Derived.Test.YtcpfnihpheoiiabDoorBlk
import Derived.Test.YtcpfnihpheoiiabDoorIsB
import Derived.Test.YtcpfnihpheoiiabDoorL3
import Derived.Lib.QuietBelow
namespace Go.Proofs.YtcpfnihpheoiiabDoor.L3
open Go.RowKit Go.Proofs.YtcpfnihpheoiiabDoor.Mem Go.Proofs.YtcpfnihpheoiiabDoor.Own
set_option maxHeartbeats 1000000 in
theorem toInstruction_any (x : Ins) (w : World) :
    Calls Tryd.prog 52 #[x.val] w fun e w' => e = .returned x.val ∧ Below w.heap.size w w' := by
  obtain ⟨op, a, b, n⟩ := x
  show Calls Tryd.prog 52 #[.agg #[.int .i64 op, .int .i64 a, .int .i64 b, .int .i64 n]] w fun e w' => e = .returned (.agg #[.int .i64 op, .int .i64 a, .int .i64 b, .int .i64 n]) ∧ Below w.heap.size w w'
  go_enter Tryd.func52, Tryd.ntmps52
  go_wp2
  refine bodyPost_ret (v := .agg #[.int .i64 op, .int .i64 a, .int .i64 b, .int .i64 n]) (by simp [results, Tryd.results52, go_sem]) rfl ⟨rfl, ?_⟩
  exact below_more (below_more (below_more (Below.refl _ _) _) _) _
set_option maxHeartbeats 1000000 in
theorem eqInstruction_same (x : Ins) (w : World) :
    Calls Tryd.prog 24 #[x.val, x.val] w fun e w' => e = .returned (.bool true) ∧ Below w.heap.size w w' := by
  obtain ⟨op, a, b, n⟩ := x
  show Calls Tryd.prog 24 #[.agg #[.int .i64 op, .int .i64 a, .int .i64 b, .int .i64 n], .agg #[.int .i64 op, .int .i64 a, .int .i64 b, .int .i64 n]] w fun e w' => e = .returned (.bool true) ∧ Below w.heap.size w w'
  go_enter Tryd.func24, Tryd.ntmps24
  go_wp2
  go_ret
  exact ⟨rfl, below_more (below_more (Below.refl _ _) _) _⟩
end Go.Proofs.YtcpfnihpheoiiabDoor.L3
