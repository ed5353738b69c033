/- What spec.l1In, spec.l6Irq answer. -/
import Derived.Test.YtadpjkghfgnbbaaDoorIn
import Derived.Test.YtadpjkghfgnbbaaDoorMem
import Derived.Test.YtadpjkghfgnbbaaDoorOwn
import Derived.Deep.Cut
namespace Go.Proofs.YtadpjkghfgnbbaaDoor.L6
open Go Go.RowKit Go.Proofs.YtadpjkghfgnbbaaDoor.Mem Go.Proofs.YtadpjkghfgnbbaaDoor.Own Go.Proofs.YtadpjkghfgnbbaaDoor.L1
theorem l1In_any (x a b : Int) (q : Bool) (h : decide (a ≤ x ∧ x ≤ b) = q) (w : World) :
    Calls Tryd.prog 25 #[.int .i64 x, .int .i64 a, .int .i64 b] w fun e w' => e = .returned (.bool q) ∧ w = w' := by
  subst h
  by_cases h : a ≤ x ∧ x ≤ b
  · rw [decide_eq_true h]; exact l1In_yes x a b h.1 h.2 w
  · rw [decide_eq_false h]; exact l1In_no x a b (by omega) w
theorem l6Irq_any (x : Int) (b : Bool) (hb : decide (0 ≤ x ∧ x < 8) = b) (w : World) :
    Calls Tryd.prog 26 #[.int .i64 x] w fun e w' => e = .returned (.bool b) ∧ w = w' := by
  have h2 : decide (0 ≤ x ∧ x ≤ 7) = b := by rw [← hb]; exact decide_eq_decide.2 (by omega)
  clear hb
  go_enter Tryd.func26, Tryd.ntmps26
  go_wp2_with fail
  refine (l1In_any x 0 7 b h2 _).mono ?_
  rintro e w1 ⟨rfl, rfl⟩
  go_wp2_with fail
  go_ret
  exact ⟨rfl, rfl⟩
end Go.Proofs.YtadpjkghfgnbbaaDoor.L6
