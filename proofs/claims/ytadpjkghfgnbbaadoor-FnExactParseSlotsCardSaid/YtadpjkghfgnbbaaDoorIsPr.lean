/- What impl.isPriority answers. -/
import Derived.Test.YtadpjkghfgnbbaaDoorIsB
import Derived.Deep.Cut
namespace Go.Proofs.YtadpjkghfgnbbaaDoor.L6
open Go Go.RowKit Go.Proofs.YtadpjkghfgnbbaaDoor.Mem Go.Proofs.YtadpjkghfgnbbaaDoor.Own
theorem isPriority_any (x : Int) (b : Bool) (hb : decide (0 ≤ x ∧ x < 16) = b) (w : World) :
    Calls Tryd.prog 41 #[.int .i64 x] w fun e w' => e = .returned (.bool b) ∧ w = w' := by
  go_enter Tryd.func41, Tryd.ntmps41
  go_wp2_with fail
  refine (isBelow_any x 16 b hb _).mono ?_
  rintro e w1 ⟨rfl, rfl⟩
  go_wp2_with fail
  go_ret
  exact ⟨rfl, rfl⟩
end Go.Proofs.YtadpjkghfgnbbaaDoor.L6
