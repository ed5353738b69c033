/- What the laws do with one Irq: copy, compare. -/
import Derived.Test.YtclnhdjnmfkeaaaRows
import Derived.Test.YtclnhdjnmfkeaaaBlk
import Derived.Test.YtclnhdjnmfkeaaaIrqD
import Derived.Lib.QuietBelow
namespace Go.Proofs.Ytclnhdjnmfkeaaa.L6
open Go Go.RowKit Go.Proofs.Ytclnhdjnmfkeaaa.Mem Go.Proofs.Ytclnhdjnmfkeaaa.Own
set_option maxHeartbeats 1000000 in
theorem toIrq_c (x0 : Bool) (x1 : Bool) (x2 : Bool) (x3 : Int) (x4 : Int) (w : World) :
    Calls Try.prog 55 #[.agg #[.bool x0, .bool x1, .bool x2, .int .i64 x3, .int .i64 x4]] w fun e w' => e = .returned (.agg #[.bool x0, .bool x1, .bool x2, .int .i64 x3, .int .i64 x4]) ∧ Below w.heap.size w w' := by
  go_enter Try.func55, Try.ntmps55
  go_wp2
  refine bodyPost_ret (v := .agg #[.bool x0, .bool x1, .bool x2, .int .i64 x3, .int .i64 x4]) (by simp [results, Try.results55, go_sem]) rfl ⟨rfl, ?_⟩
  exact (below_more (below_more (below_more (Below.refl _ _) _) _) _)
theorem toIrq_any (x : Irq) (w : World) : Calls Try.prog 55 #[x.val] w fun e w' => e = .returned x.val ∧ Below w.heap.size w w' := by
  obtain ⟨x0, x1, x2, x3, x4⟩ := x
  exact toIrq_c x0 x1 x2 x3 x4 w
end Go.Proofs.Ytclnhdjnmfkeaaa.L6
