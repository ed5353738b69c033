/- What impl.isIrq answers. -/
import Derived.Test.YtadpjkghfgnbbaaDoorIsB
import Derived.Deep.Cut
namespace Go.Proofs.YtadpjkghfgnbbaaDoor.L6
open Go Go.RowKit Go.Proofs.YtadpjkghfgnbbaaDoor.Mem Go.Proofs.YtadpjkghfgnbbaaDoor.Own
theorem isIrq_any (x : Int) (b : Bool) (hb : decide (0 ≤ x ∧ x < 8) = b) (w : World) :
    Calls Tryd.prog 40 #[.int .i64 x] w fun e w' => e = .returned (.bool b) ∧ w = w' := by
  go_enter Tryd.func40, Tryd.ntmps40
  go_wp2_with fail
  refine (isBelow_any x 8 b hb _).mono ?_
  rintro e w1 ⟨rfl, rfl⟩
  go_wp2_with fail
  go_ret
  exact ⟨rfl, rfl⟩
end Go.Proofs.YtadpjkghfgnbbaaDoor.L6
