/- What spec.l6Prio answers. -/
import Derived.Test.YtadpjkghfgnbbaaIq6
namespace Go.Proofs.Ytadpjkghfgnbbaa.L6
open Go Go.RowKit Go.Proofs.Ytadpjkghfgnbbaa.Mem Go.Proofs.Ytadpjkghfgnbbaa.Own Go.Proofs.Ytadpjkghfgnbbaa.L1
theorem l6Prio_any (x : Int) (b : Bool) (hb : decide (0 ≤ x ∧ x < 16) = b) (w : World) :
    Calls Try.prog 66 #[.int .i64 x] w fun e w' => e = .returned (.bool b) ∧ w = w' := by
  have h2 : decide (0 ≤ x ∧ x ≤ 15) = b := by rw [← hb]; exact decide_eq_decide.2 (by omega)
  clear hb
  go_enter Try.func66, Try.ntmps66
  go_wp2_with fail
  refine (l1In_any x 0 15 b h2 _).mono ?_
  rintro e w1 ⟨rfl, rfl⟩
  go_wp2_with fail
  go_ret
  exact ⟨rfl, rfl⟩
end Go.Proofs.Ytadpjkghfgnbbaa.L6
