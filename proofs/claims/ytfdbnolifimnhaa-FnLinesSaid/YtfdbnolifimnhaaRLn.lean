/- What the laws' comparison of lists of lines answers on equal lists; whether a list has a number. -/
import Derived.Test.YtfdbnolifimnhaaLinA
import Derived.Test.YtfdbnolifimnhaaStepO
import Derived.Deep.Cut
namespace Go.Proofs.Ytfdbnolifimnhaa.L7
open Go Go.RowKit Go.Proofs.Ytfdbnolifimnhaa.Mem Go.Proofs.Ytfdbnolifimnhaa.Own
set_option maxRecDepth 100000 in
set_option maxHeartbeats 1000000 in
theorem rLines_same (A A' : Option Addr) (n c c' : Nat) (xs : List Lin) (w : World) (hn : n ≤ 1048576) (hx : Reads w w.heap.size 4 A n (FL xs)) (hy : Reads w w.heap.size 4 A' n (FL xs)) :
    Calls Try.prog 58 #[.slice A n c, .slice A' n c'] w fun e w' => e = .returned (.bool true) ∧ Below w.heap.size w w' := by
  go_enter Try.func58, Try.ntmps58
  go_wp2_with fail
  go_loopw [5] (fun i wr => ∃ (k j : Nat), i = .int .i64 k ∧ k ≤ n ∧ wr = w.drewN j) (fun i _ => n - (intOf i).toNat)
  case atStart => exact ⟨0, 0, rfl, Nat.zero_le _, rfl⟩
  case round =>
    obtain ⟨k, j, rfl, hk, rfl⟩ := hrel
    by_cases hlt : k < n
    · obtain ⟨b1, o1, x, rfl, _, hu, c0, c1, c2, c3⟩ := lin_at hx hlt
      obtain ⟨b2, o2, y, rfl, _, hv, d0, d1, d2, d3⟩ := lin_at hy hlt
      obtain rfl : x = y := by rw [hu] at hv; exact Option.some.inj hv
      clear hu hv
      obtain ⟨x0, x1, x2, x3⟩ := x
      simp only at c0 c1 c2 c3 d0 d1 d2 d3
      go_wp2_with fail
      go_quiet (fail)
      go_wp2_with fail
      go_roundw
      case rel => exact ⟨k + 1, _, by go_num, by omega, rfl⟩
      case measure => simp [intOf]; omega
    · go_wp2_with fail
      go_ret
      exact ⟨rfl, Go.Proofs.Ytfdbnolifimnhaa.Own.below_drewN w j⟩
end Go.Proofs.Ytfdbnolifimnhaa.L7
