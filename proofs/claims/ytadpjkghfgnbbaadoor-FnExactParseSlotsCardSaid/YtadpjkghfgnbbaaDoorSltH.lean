/- What the laws' looks at marked slices of Slot answer. -/
import Derived.Test.YtadpjkghfgnbbaaDoorSltM
namespace Go.Proofs.YtadpjkghfgnbbaaDoor.L8
open Go Go.RowKit Go.Proofs.YtadpjkghfgnbbaaDoor.Mem Go.Proofs.YtadpjkghfgnbbaaDoor.Own
set_option maxRecDepth 100000 in
set_option maxHeartbeats 4000000 in
theorem heldSlotS_step (A : Option Addr) (n c k0 : Nat) (K : Int) (hK : K = k0) (w : World) (hn : n ≤ 1048576) (hk1 : k0 ≤ 4294967296) (hr : Reads w w.heap.size 3 A n (FL (upSlt k0 n))) :
    Calls Tryd.prog 13 #[.slice A n c, .int .i64 K] w fun e w' => e = .returned (.int .i64 (K + 3 * n)) ∧ Below w.heap.size w w' := by
  subst hK
  have HR := Lib.hid hr
  clear hr
  go_enter Tryd.func13, Tryd.ntmps13
  go_wp2
  go_loopw [1, 5] (fun k i wr => ∃ (q : Nat), i = .int .i64 q ∧ k = .int .i64 (k0 + 3 * q) ∧ q ≤ n ∧ wr = w) (fun _ i _ => n - (intOf i).toNat)
  case atStart => exact ⟨0, rfl, by go_num, Nat.zero_le _, rfl⟩
  case round =>
    obtain ⟨q, rfl, rfl, hq, rfl⟩ := hrel
    by_cases hlt : q < n
    · obtain ⟨b, off, x, rfl, hbB, hu, c0, c1, c2⟩ := slt_at HR.out hlt
      rw [upSlt_at k0 n q hlt] at hu
      obtain rfl := Option.some.inj hu
      dsimp only at c0 c1 c2

      clear hu 
      go_wp2
      go_roundw
      case rel => exact ⟨q + 1, by go_num, by go_num, by omega, by first | rfl | trivial⟩
      case measure => simp [intOf]; omega
    · have hqn : q = n := by omega
      subst hqn
      go_wp2
      go_ret
      exact ⟨rfl, Below.refl _ _⟩
end Go.Proofs.YtadpjkghfgnbbaaDoor.L8
