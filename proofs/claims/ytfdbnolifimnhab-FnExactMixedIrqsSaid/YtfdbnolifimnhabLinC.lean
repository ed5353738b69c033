/- What the laws do with one Line: copy, compare. -/
import Derived.Test.YtfdbnolifimnhabRows
import Derived.Test.YtfdbnolifimnhabBlk
import Derived.Test.YtfdbnolifimnhabLinD
import Derived.Lib.QuietBelow
namespace Go.Proofs.Ytfdbnolifimnhab.L7
open Go Go.RowKit Go.Proofs.Ytfdbnolifimnhab.Mem Go.Proofs.Ytfdbnolifimnhab.Own
set_option maxHeartbeats 1000000 in
theorem toLine_c (x0 : Int) (x1 : Int) (x2 : Bool) (x3 : Bool) (w : World) :
    Calls Try.prog 18 #[.agg #[.int .i64 x0, .int .i64 x1, .bool x2, .bool x3]] w fun e w' => e = .returned (.agg #[.int .i64 x0, .int .i64 x1, .bool x2, .bool x3]) ∧ Below w.heap.size w w' := by
  go_enter Try.func18, Try.ntmps18
  go_wp2
  refine bodyPost_ret (v := .agg #[.int .i64 x0, .int .i64 x1, .bool x2, .bool x3]) (by simp [results, Try.results18, go_sem]) rfl ⟨rfl, ?_⟩
  exact (below_more (below_more (below_more (Below.refl _ _) _) _) _)
theorem toLine_any (x : Lin) (w : World) : Calls Try.prog 18 #[x.val] w fun e w' => e = .returned x.val ∧ Below w.heap.size w w' := by
  obtain ⟨x0, x1, x2, x3⟩ := x
  exact toLine_c x0 x1 x2 x3 w
end Go.Proofs.Ytfdbnolifimnhab.L7
