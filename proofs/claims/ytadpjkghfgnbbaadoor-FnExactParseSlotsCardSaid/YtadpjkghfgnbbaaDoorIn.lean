/- What spec.l1In answers. -/
import Derived.Test.YtadpjkghfgnbbaaDoorRows
import Derived.WalkKit
namespace Go.Proofs.YtadpjkghfgnbbaaDoor.L1
open Go.RowKit
theorem l1In_yes (x a b : Int) (h0 : a ≤ x) (h1 : x ≤ b) (w : World) :
    Calls Tryd.prog 25 #[.int .i64 x, .int .i64 a, .int .i64 b] w fun e w' => e = .returned (.bool true) ∧ w = w' := by
  go_enter Tryd.func25, Tryd.ntmps25
  go_wp2
  go_ret
  exact ⟨rfl, rfl⟩
theorem l1In_no (x a b : Int) (h : x < a ∨ b < x) (w : World) :
    Calls Tryd.prog 25 #[.int .i64 x, .int .i64 a, .int .i64 b] w fun e w' => e = .returned (.bool false) ∧ w = w' := by
  by_cases h0 : x < a
  · go_enter Tryd.func25, Tryd.ntmps25
    go_wp2
    go_ret
    exact ⟨rfl, rfl⟩
  · have h1 : b < x := by omega
    have h2 : a ≤ x := by omega
    have h3 : decide (x ≤ b) = false := decide_eq_false (by omega)
    clear h h0
    go_enter Tryd.func25, Tryd.ntmps25
    go_wp2
    go_ret
    exact ⟨rfl, rfl⟩
end Go.Proofs.YtadpjkghfgnbbaaDoor.L1
