/- What the laws do with one Slot: copy, compare. -/
import Derived.Test.YtadpjkghfgnbbaaRows
import Derived.Test.YtadpjkghfgnbbaaBlk
import Derived.Test.YtadpjkghfgnbbaaSltD
import Derived.Lib.QuietBelow
namespace Go.Proofs.Ytadpjkghfgnbbaa.L8
open Go Go.RowKit Go.Proofs.Ytadpjkghfgnbbaa.Mem Go.Proofs.Ytadpjkghfgnbbaa.Own
set_option maxHeartbeats 1000000 in
theorem toSlot_c (x0 : Int) (x1 : Int) (x2 : Int) (w : World) :
    Calls Try.prog 64 #[.agg #[.int .i64 x0, .int .i64 x1, .int .i64 x2]] w fun e w' => e = .returned (.agg #[.int .i64 x0, .int .i64 x1, .int .i64 x2]) ∧ Below w.heap.size w w' := by
  go_enter Try.func64, Try.ntmps64
  go_wp2
  refine bodyPost_ret (v := .agg #[.int .i64 x0, .int .i64 x1, .int .i64 x2]) (by simp [results, Try.results64, go_sem]) rfl ⟨rfl, ?_⟩
  exact (below_more (below_more (below_more (Below.refl _ _) _) _) _)
theorem toSlot_any (x : Slt) (w : World) : Calls Try.prog 64 #[x.val] w fun e w' => e = .returned x.val ∧ Below w.heap.size w w' := by
  obtain ⟨x0, x1, x2⟩ := x
  exact toSlot_c x0 x1 x2 w
end Go.Proofs.Ytadpjkghfgnbbaa.L8
