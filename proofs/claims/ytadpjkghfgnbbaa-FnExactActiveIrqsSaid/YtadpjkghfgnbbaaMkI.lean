/- A mark on an owned slice of numbers. -/
import Derived.Test.YtadpjkghfgnbbaaRow
import Derived.Test.YtadpjkghfgnbbaaStep
namespace Go.Proofs.Ytadpjkghfgnbbaa.Own
open Go Go.RowKit Go.Proofs.Ytadpjkghfgnbbaa.Mem
theorem markI_step (A : Option Addr) (n c lo hi k0 : Nat) (K : Int) (hK : K = k0) (xs : List Value) (w : World) (hn : n ≤ 1048576) (hk1 : k0 ≤ 4294967296) (hown : Row w lo hi 3 1 (.slice A n c) n xs) :
    Calls Try.prog 43 #[.slice A n c, .int .i64 K] w fun e w' => e = .returned (.int .i64 (K + n)) ∧ Row w' lo hi 3 1 (.slice A n c) n (I (upFrom k0 n)) ∧ Only lo hi w w' :=
  (mark_step A n c lo k0 K hK xs w hn hk1 hown.own).mono fun _ _ ⟨h1, h2, h3⟩ => ⟨h1, ⟨h2, hown.lt⟩, Only.of_Row hown h3⟩
end Go.Proofs.Ytadpjkghfgnbbaa.Own
