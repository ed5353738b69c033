/- What the laws do with one Slot: copy, compare. -/
import Derived.Test.YtadpjkghfgnbbaaDoorRows
import Derived.Test.YtadpjkghfgnbbaaDoorBlk
import Derived.Test.YtadpjkghfgnbbaaDoorSltD
import Derived.Lib.QuietBelow
namespace Go.Proofs.YtadpjkghfgnbbaaDoor.L8
open Go Go.RowKit Go.Proofs.YtadpjkghfgnbbaaDoor.Mem Go.Proofs.YtadpjkghfgnbbaaDoor.Own
set_option maxHeartbeats 1000000 in
theorem toSlot_c (x0 : Int) (x1 : Int) (x2 : Int) (w : World) :
    Calls Tryd.prog 16 #[.agg #[.int .i64 x0, .int .i64 x1, .int .i64 x2]] w fun e w' => e = .returned (.agg #[.int .i64 x0, .int .i64 x1, .int .i64 x2]) ∧ Below w.heap.size w w' := by
  go_enter Tryd.func16, Tryd.ntmps16
  go_wp2
  refine bodyPost_ret (v := .agg #[.int .i64 x0, .int .i64 x1, .int .i64 x2]) (by simp [results, Tryd.results16, go_sem]) rfl ⟨rfl, ?_⟩
  exact (below_more (below_more (below_more (Below.refl _ _) _) _) _)
theorem toSlot_any (x : Slt) (w : World) : Calls Tryd.prog 16 #[x.val] w fun e w' => e = .returned x.val ∧ Below w.heap.size w w' := by
  obtain ⟨x0, x1, x2⟩ := x
  exact toSlot_c x0 x1 x2 w
end Go.Proofs.YtadpjkghfgnbbaaDoor.L8
