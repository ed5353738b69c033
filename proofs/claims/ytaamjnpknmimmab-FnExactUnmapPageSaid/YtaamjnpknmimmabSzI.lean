/- What the laws' szIntS answers. -/
import Derived.Test.YtaamjnpknmimmabStep
namespace Go.Proofs.Ytaamjnpknmimmab.Own
open Go.RowKit Go.Proofs.Ytaamjnpknmimmab.Mem
theorem szIntS_yes (A : Option Addr) (n c : Nat) (L : Int) (h : n ≤ L) (w : World) (hL : L ≤ 1048576) :
    Calls Try.prog 48 #[.slice A n c, .int .i64 L] w fun e w' => e = .returned (.int .i64 (L - n)) ∧ w = w' := by
  go_enter Try.func48, Try.ntmps48
  go_wp2
  go_ret
  exact ⟨rfl, rfl⟩
theorem szIntS_no (A : Option Addr) (n c : Nat) (L : Int) (h : L < n) (h0 : 0 ≤ L) (w : World) (hL : L ≤ 1048576) (hn : n ≤ 9223372036854775807) :
    Calls Try.prog 48 #[.slice A n c, .int .i64 L] w fun e w' => e = .returned (.int .i64 (-1)) ∧ w = w' := by
  go_enter Try.func48, Try.ntmps48
  go_wp2
  go_ret
  exact ⟨rfl, rfl⟩
end Go.Proofs.Ytaamjnpknmimmab.Own
