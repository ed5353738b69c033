/- Marks of instructions between two bounds. -/
import Derived.Test.YtclnhdjnmfkeaabDoorInsL
import Derived.Test.YtclnhdjnmfkeaabDoorRow
namespace Go.Proofs.YtclnhdjnmfkeaabDoor.L3
open Go Go.RowKit Go.Proofs.YtclnhdjnmfkeaabDoor.Mem Go.Proofs.YtclnhdjnmfkeaabDoor.Own
theorem markXS_step (A : Option Addr) (n c lo hi k0 : Nat) (K : Int) (hK : K = k0) (xs : List Value) (w : World) (hn : n ≤ 1048576) (hk1 : k0 ≤ 4294967296) (hown : Row w lo hi 23 4 (.slice A n c) n xs) :
    Calls Tryd.prog 16 #[.slice A n c, .int .i64 K] w fun e w' => e = .returned (.int .i64 (K + 4 * n)) ∧ True ∧ Only lo hi w w' :=
  (markInstructionS_step A n c lo k0 K hK xs w hn hk1 hown.own).mono fun _ _ ⟨h1, h3⟩ => ⟨h1, trivial, Only.of_Row hown h3⟩
end Go.Proofs.YtclnhdjnmfkeaabDoor.L3
