/- What the laws' comparison vInts answers on equal lists; vBig. -/
import Derived.Test.YtclnhdjnmfkeaaaStep
namespace Go.Proofs.Ytclnhdjnmfkeaaa.Own
open Go.RowKit Go.Proofs.Ytclnhdjnmfkeaaa.Mem
set_option maxHeartbeats 1000000 in
theorem vInts_same (A A' : Option Addr) (n c c' : Nat) (xs : List Int) (w : World) (hn : n ≤ 1048576) (hx : Reads w w.heap.size 1 A n (I xs)) (hy : Reads w w.heap.size 1 A' n (I xs)) :
    Calls Try.prog 45 #[.slice A n c, .slice A' n c'] w fun e w' => e = .returned (.bool true) ∧ Below w.heap.size w w' := by
  go_enter Try.func45, Try.ntmps45
  go_wp2
  go_loopw [5] (fun i wr => ∃ (k j : Nat), i = .int .i64 k ∧ k ≤ n ∧ wr = w.drewN j) (fun i _ => n - (intOf i).toNat)
  case atStart => exact ⟨0, 0, rfl, Nat.zero_le _, rfl⟩
  case round =>
    obtain ⟨k, j, rfl, hk, rfl⟩ := hrel
    by_cases hlt : k < n
    · obtain ⟨b1, o1, x, rfl, _, hu, hc⟩ := hx.int_at hlt
      obtain ⟨b2, o2, y, rfl, _, hv, hc'⟩ := hy.int_at hlt
      obtain rfl : x = y := by rw [hu] at hv; exact Option.some.inj hv
      clear hu hv
      go_wp2
      go_quiet (fail)
      go_wp2
      go_roundw
      case rel => exact ⟨k + 1, _, by go_num, by omega, rfl⟩
      case measure => simp [intOf]; omega
    · go_wp2
      go_ret
      exact ⟨rfl, below_drewN w j⟩
theorem vBig_any (A : Option Addr) (n c : Nat) (w : World) :
    Calls Try.prog 43 #[.slice A n c] w fun e w' => e = .returned (.bool (decide ((65536 : Int) < n))) ∧ w = w' := by
  go_enter Try.func43, Try.ntmps43
  go_wp2
  go_ret
  exact ⟨rfl, rfl⟩
end Go.Proofs.Ytclnhdjnmfkeaaa.Own
