/- What the laws' rBig, rInts on equal lists and rSum answer. -/
import Derived.Test.YtfdbnolifimnhabDoorInf
import Derived.Test.YtfdbnolifimnhabDoorStepO
namespace Go.Proofs.YtfdbnolifimnhabDoor.Own
open Go.RowKit Go.Proofs.YtfdbnolifimnhabDoor.Mem
theorem rBig_any (A : Option Addr) (n c : Nat) (w : World) :
    Calls Tryd.prog 6 #[.slice A n c] w fun e w' => e = .returned (.bool (decide ((65536 : Int) < n))) ∧ w = w' := by
  go_enter Tryd.func6, Tryd.ntmps6
  go_wp2
  go_ret
  exact ⟨rfl, rfl⟩
set_option maxHeartbeats 1000000 in
theorem rInts_same (A A' : Option Addr) (n c c' : Nat) (xs : List Int) (w : World) (hn : n ≤ 1048576) (hx : Reads w w.heap.size 1 A n (I xs)) (hy : Reads w w.heap.size 1 A' n (I xs)) :
    Calls Tryd.prog 31 #[.slice A n c, .slice A' n c'] w fun e w' => e = .returned (.bool true) ∧ Below w.heap.size w w' := by
  go_enter Tryd.func31, Tryd.ntmps31
  go_wp2
  go_loopw [5] (fun i wr => ∃ (k j : Nat), i = .int .i64 k ∧ k ≤ n ∧ wr = w.drewN j) (fun i _ => n - (intOf i).toNat)
  case atStart => exact ⟨0, 0, rfl, Nat.zero_le _, rfl⟩
  case round =>
    obtain ⟨k, j, rfl, hk, rfl⟩ := hrel
    by_cases hlt : k < n
    · obtain ⟨b1, o1, x, rfl, _, hu, hc⟩ := hx.int_at hlt
      obtain ⟨b2, o2, y, rfl, _, hv, hc'⟩ := hy.int_at hlt
      obtain rfl : x = y := by rw [hu] at hv; exact Option.some.inj hv
      clear hu hv
      go_wp2
      go_quiet (fail)
      go_wp2
      go_roundw
      case rel => exact ⟨k + 1, _, by go_num, by omega, rfl⟩
      case measure => simp [intOf]; omega
    · go_wp2
      go_ret
      exact ⟨rfl, below_drewN w j⟩
end Go.Proofs.YtfdbnolifimnhabDoor.Own
