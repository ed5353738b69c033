/- What the laws do with instructions: copies, comparisons. -/
import Derived.Test.YtclnhdjnmfkeaabDoorBlk
import Derived.Test.YtclnhdjnmfkeaabDoorIsB
import Derived.Test.YtclnhdjnmfkeaabDoorL3
import Derived.Lib.QuietBelow
namespace Go.Proofs.YtclnhdjnmfkeaabDoor.L3
open Go.RowKit Go.Proofs.YtclnhdjnmfkeaabDoor.Mem Go.Proofs.YtclnhdjnmfkeaabDoor.Own
set_option maxHeartbeats 1000000 in
theorem toInstruction_any (x : Ins) (w : World) :
    Calls Tryd.prog 55 #[x.val] w fun e w' => e = .returned x.val ∧ Below w.heap.size w w' := by
  obtain ⟨op, a, b, n⟩ := x
  show Calls Tryd.prog 55 #[.agg #[.int .i64 op, .int .i64 a, .int .i64 b, .int .i64 n]] w fun e w' => e = .returned (.agg #[.int .i64 op, .int .i64 a, .int .i64 b, .int .i64 n]) ∧ Below w.heap.size w w'
  go_enter Tryd.func55, Tryd.ntmps55
  go_wp2
  refine bodyPost_ret (v := .agg #[.int .i64 op, .int .i64 a, .int .i64 b, .int .i64 n]) (by simp [results, Tryd.results55, go_sem]) rfl ⟨rfl, ?_⟩
  exact below_more (below_more (below_more (Below.refl _ _) _) _) _
set_option maxHeartbeats 1000000 in
theorem eqInstruction_same (x : Ins) (w : World) :
    Calls Tryd.prog 9 #[x.val, x.val] w fun e w' => e = .returned (.bool true) ∧ Below w.heap.size w w' := by
  obtain ⟨op, a, b, n⟩ := x
  show Calls Tryd.prog 9 #[.agg #[.int .i64 op, .int .i64 a, .int .i64 b, .int .i64 n], .agg #[.int .i64 op, .int .i64 a, .int .i64 b, .int .i64 n]] w fun e w' => e = .returned (.bool true) ∧ Below w.heap.size w w'
  go_enter Tryd.func9, Tryd.ntmps9
  go_wp2
  go_ret
  exact ⟨rfl, below_more (below_more (Below.refl _ _) _) _⟩
end Go.Proofs.YtclnhdjnmfkeaabDoor.L3
