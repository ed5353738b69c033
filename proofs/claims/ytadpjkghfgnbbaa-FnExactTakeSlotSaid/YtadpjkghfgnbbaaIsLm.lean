/- What impl.isLimit answers. -/
import Derived.Test.YtadpjkghfgnbbaaIsB
import Derived.Deep.Cut
namespace Go.Proofs.Ytadpjkghfgnbbaa.L6
open Go Go.RowKit Go.Proofs.Ytadpjkghfgnbbaa.Mem Go.Proofs.Ytadpjkghfgnbbaa.Own
theorem isLimit_any (x : Int) (b : Bool) (hb : decide (0 ≤ x ∧ x < 17) = b) (w : World) :
    Calls Try.prog 70 #[.int .i64 x] w fun e w' => e = .returned (.bool b) ∧ w = w' := by
  go_enter Try.func70, Try.ntmps70
  go_wp2_with fail
  refine (isBelow_any x 17 b hb _).mono ?_
  rintro e w1 ⟨rfl, rfl⟩
  go_wp2_with fail
  go_ret
  exact ⟨rfl, rfl⟩
end Go.Proofs.Ytadpjkghfgnbbaa.L6
