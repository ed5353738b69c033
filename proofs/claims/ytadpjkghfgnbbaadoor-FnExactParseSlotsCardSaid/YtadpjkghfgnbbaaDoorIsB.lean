/- What impl.isBelow answers. -/
import Derived.Test.YtadpjkghfgnbbaaDoorRows
import Derived.Test.YtadpjkghfgnbbaaDoorStepO
namespace Go.Proofs.YtadpjkghfgnbbaaDoor.Own
open Go.RowKit Go.Proofs.YtadpjkghfgnbbaaDoor.Mem
theorem isBelow_yes (x c : Int) (h0 : 0 ≤ x) (h1 : x < c) (w : World) :
    Calls Tryd.prog 51 #[.int .i64 x, .int .i64 c] w fun e w' => e = .returned (.bool true) ∧ w = w' := by
  go_enter Tryd.func51, Tryd.ntmps51
  go_wp2
  go_ret
  exact ⟨rfl, rfl⟩
theorem isBelow_no (x c : Int) (h : x < 0 ∨ c ≤ x) (w : World) :
    Calls Tryd.prog 51 #[.int .i64 x, .int .i64 c] w fun e w' => e = .returned (.bool false) ∧ w = w' := by
  by_cases h0 : x < 0
  · go_enter Tryd.func51, Tryd.ntmps51
    go_wp2
    go_ret
    exact ⟨rfl, rfl⟩
  · have h2 : 0 ≤ x := by omega
    have h3 : decide (x < c) = false := decide_eq_false (by omega)
    clear h h0
    go_enter Tryd.func51, Tryd.ntmps51
    go_wp2
    go_ret
    exact ⟨rfl, rfl⟩
theorem isBelow_any (x c : Int) (b : Bool) (hb : decide (0 ≤ x ∧ x < c) = b) (w : World) :
    Calls Tryd.prog 51 #[.int .i64 x, .int .i64 c] w fun e w' => e = .returned (.bool b) ∧ w = w' := by
  subst hb
  by_cases h : 0 ≤ x ∧ x < c
  · rw [decide_eq_true h]; exact isBelow_yes x c h.1 h.2 w
  · rw [decide_eq_false h]; exact isBelow_no x c (by omega) w
end Go.Proofs.YtadpjkghfgnbbaaDoor.Own
