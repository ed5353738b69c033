/- What impl.isIrq answers. -/
import Derived.Test.YtadpjkghfgnbbaaIsB
import Derived.Deep.Cut
namespace Go.Proofs.Ytadpjkghfgnbbaa.L6
open Go Go.RowKit Go.Proofs.Ytadpjkghfgnbbaa.Mem Go.Proofs.Ytadpjkghfgnbbaa.Own
theorem isIrq_any (x : Int) (b : Bool) (hb : decide (0 ≤ x ∧ x < 8) = b) (w : World) :
    Calls Try.prog 59 #[.int .i64 x] w fun e w' => e = .returned (.bool b) ∧ w = w' := by
  go_enter Try.func59, Try.ntmps59
  go_wp2_with fail
  refine (isBelow_any x 8 b hb _).mono ?_
  rintro e w1 ⟨rfl, rfl⟩
  go_wp2_with fail
  go_ret
  exact ⟨rfl, rfl⟩
end Go.Proofs.Ytadpjkghfgnbbaa.L6
