/- What impl.isIrq answers. -/
import Derived.Test.YtfdbnolifimnhabIsB
import Derived.Deep.Cut
namespace Go.Proofs.Ytfdbnolifimnhab.L6
open Go Go.RowKit Go.Proofs.Ytfdbnolifimnhab.Mem Go.Proofs.Ytfdbnolifimnhab.Own
theorem isIrq_any (x : Int) (b : Bool) (hb : decide (0 ≤ x ∧ x < 8) = b) (w : World) :
    Calls Try.prog 33 #[.int .i64 x] w fun e w' => e = .returned (.bool b) ∧ w = w' := by
  go_enter Try.func33, Try.ntmps33
  go_wp2_with fail
  refine (isBelow_any x 8 b hb _).mono ?_
  rintro e w1 ⟨rfl, rfl⟩
  go_wp2_with fail
  go_ret
  exact ⟨rfl, rfl⟩
end Go.Proofs.Ytfdbnolifimnhab.L6
