/- What spec.AreIrqs answers. -/
import Derived.Test.YtclnhdjnmfkeaaaDstS
import Derived.Test.YtclnhdjnmfkeaaaBlk
namespace Go.Proofs.Ytclnhdjnmfkeaaa.L6
open Go Go.RowKit Go.Proofs.Ytclnhdjnmfkeaaa.Mem Go.Proofs.Ytclnhdjnmfkeaaa.Own
theorem specAre_any (A : Option Addr) (n c B : Nat) (xs : List Irq) (w : World) (hr : Reads w B 5 A n (FL xs)) (hn : n ≤ 1048576) (b : Bool) (h : decide (OkL xs) = b) :
    Calls Try.prog 16 #[.slice A n c] w fun e w' => e = .returned (.bool b) ∧ Below w.heap.size w w' := by
  have HR := Lib.hid hr
  clear hr
  go_enter Try.func16, Try.ntmps16
  go_wp2_with fail
  refine (l6Good_any A n c B xs _ HR.out hn b h).mono ?_
  rintro e w1 ⟨rfl, rfl⟩
  go_wp2_with fail
  go_ret
  exact ⟨rfl, Below.refl _ _⟩
end Go.Proofs.Ytclnhdjnmfkeaaa.L6
