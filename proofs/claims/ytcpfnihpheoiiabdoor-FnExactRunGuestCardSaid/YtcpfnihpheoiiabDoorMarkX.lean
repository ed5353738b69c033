/- What the laws' marks on programs and registers do, between two bounds. -/
import Derived.Test.YtcpfnihpheoiiabDoorReg
import Derived.Test.YtcpfnihpheoiiabDoorRow
namespace Go.Proofs.YtcpfnihpheoiiabDoor.L3
open Go Go.RowKit Go.Proofs.YtcpfnihpheoiiabDoor.Mem Go.Proofs.YtcpfnihpheoiiabDoor.Own
theorem markXS_step (A : Option Addr) (n c lo hi k0 : Nat) (K : Int) (hK : K = k0) (xs : List Value) (w : World) (hn : n ≤ 1048576) (hk1 : k0 ≤ 4294967296) (hown : Row w lo hi 43 4 (.slice A n c) n xs) :
    Calls Tryd.prog 17 #[.slice A n c, .int .i64 K] w fun e w' => e = .returned (.int .i64 (K + 4 * n)) ∧ True ∧ Only lo hi w w' :=
  (markInstructionS_step A n c lo k0 K hK xs w hn hk1 hown.own).mono fun _ _ ⟨h1, h3⟩ => ⟨h1, trivial, Only.of_Row hown h3⟩
theorem markGA_step (A : Option Addr) (n c lo hi k0 : Nat) (K : Int) (hK : K = k0) (xs : List Value) (p : Int) (z s : Bool) (w : World) (hn : n ≤ 1048576) (hk1 : k0 ≤ 4294967296) (hown : Row w lo hi 3 1 (.slice A n c) n xs) :
    Calls Tryd.prog 18 #[.agg #[.slice A n c, .int .i64 p, .bool z, .bool s], .int .i64 K] w fun e w' => e = .returned (.int .i64 (K + n)) ∧ Row w' lo hi 3 1 (.slice A n c) n (I (upFrom k0 n)) ∧ Only lo hi w w' :=
  (markRegisters_step A n c lo k0 K hK xs p z s w hn hk1 hown.own).mono fun _ _ ⟨h1, h2, h3⟩ => ⟨h1, ⟨h2, hown.lt⟩, Only.of_Row hown h3⟩
end Go.Proofs.YtcpfnihpheoiiabDoor.L3
