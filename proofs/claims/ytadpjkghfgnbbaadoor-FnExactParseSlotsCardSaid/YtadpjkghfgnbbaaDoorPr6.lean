/- What spec.l6Prio answers. -/
import Derived.Test.YtadpjkghfgnbbaaDoorIq6
namespace Go.Proofs.YtadpjkghfgnbbaaDoor.L6
open Go Go.RowKit Go.Proofs.YtadpjkghfgnbbaaDoor.Mem Go.Proofs.YtadpjkghfgnbbaaDoor.Own Go.Proofs.YtadpjkghfgnbbaaDoor.L1
theorem l6Prio_any (x : Int) (b : Bool) (hb : decide (0 ≤ x ∧ x < 16) = b) (w : World) :
    Calls Tryd.prog 27 #[.int .i64 x] w fun e w' => e = .returned (.bool b) ∧ w = w' := by
  have h2 : decide (0 ≤ x ∧ x ≤ 15) = b := by rw [← hb]; exact decide_eq_decide.2 (by omega)
  clear hb
  go_enter Tryd.func27, Tryd.ntmps27
  go_wp2_with fail
  refine (l1In_any x 0 15 b h2 _).mono ?_
  rintro e w1 ⟨rfl, rfl⟩
  go_wp2_with fail
  go_ret
  exact ⟨rfl, rfl⟩
end Go.Proofs.YtadpjkghfgnbbaaDoor.L6
