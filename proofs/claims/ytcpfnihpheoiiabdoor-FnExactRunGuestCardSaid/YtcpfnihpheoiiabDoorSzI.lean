/- What the laws' szIntS answers. -/
import Derived.Test.YtcpfnihpheoiiabDoorStep
namespace Go.Proofs.YtcpfnihpheoiiabDoor.Own
open Go.RowKit Go.Proofs.YtcpfnihpheoiiabDoor.Mem
theorem szIntS_yes (A : Option Addr) (n c : Nat) (L : Int) (h : n ≤ L) (w : World) (hL : L ≤ 1048576) :
    Calls Tryd.prog 49 #[.slice A n c, .int .i64 L] w fun e w' => e = .returned (.int .i64 (L - n)) ∧ w = w' := by
  go_enter Tryd.func49, Tryd.ntmps49
  go_wp2
  go_ret
  exact ⟨rfl, rfl⟩
theorem szIntS_no (A : Option Addr) (n c : Nat) (L : Int) (h : L < n) (h0 : 0 ≤ L) (w : World) (hL : L ≤ 1048576) (hn : n ≤ 9223372036854775807) :
    Calls Tryd.prog 49 #[.slice A n c, .int .i64 L] w fun e w' => e = .returned (.int .i64 (-1)) ∧ w = w' := by
  go_enter Tryd.func49, Tryd.ntmps49
  go_wp2
  go_ret
  exact ⟨rfl, rfl⟩
end Go.Proofs.YtcpfnihpheoiiabDoor.Own
