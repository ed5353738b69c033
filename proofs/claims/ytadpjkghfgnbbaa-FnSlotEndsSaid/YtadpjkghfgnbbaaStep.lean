/- The steps of an exact law over slices of numbers, each as a change of the world that keeps what is owned. -/
import Derived.Test.YtadpjkghfgnbbaaIMark
import Derived.Test.YtadpjkghfgnbbaaStepO
namespace Go.Proofs.Ytadpjkghfgnbbaa.Own
open Go.RowKit Go.Proofs.Ytadpjkghfgnbbaa.Mem
theorem eq_step (A A' : Option Addr) (n c c' : Nat) (xs : List Int) (w : World) (hn : n ≤ 1048576) (hx : Reads w w.heap.size 1 A n (I xs)) (hy : Reads w w.heap.size 1 A' n (I xs)) :
    Calls Try.prog 42 #[.slice A n c, .slice A' n c'] w fun e w' => e = .returned (.bool true) ∧ Below w.heap.size w w' :=
  (eqIntS_any A A' n c n c' w.heap.size xs xs w hx hy (by omega) (by omega) true (by simp)).mono fun e w' ⟨h1, j, h2⟩ => ⟨h1, by rw [h2]; exact below_drewN w j⟩
theorem mark_step (A : Option Addr) (n c b k0 : Nat) (K : Int) (hK : K = k0) (xs : List Value) (w : World) (hn : n ≤ 1048576) (hk1 : k0 ≤ 4294967296) (hown : w.ownsRow b 3 1 (.slice A n c) n xs) :
    Calls Try.prog 43 #[.slice A n c, .int .i64 K] w fun e w' => e = .returned (.int .i64 (K + n)) ∧ w'.ownsRow b 3 1 (.slice A n c) n (I (upFrom k0 n)) ∧ w.grownBy w' (Value.slice A n c).ownBlock := by
  subst hK
  exact markIntS_any A n c b k0 xs w hown hn hk1
theorem held_step (A : Option Addr) (n c k0 : Nat) (K : Int) (hK : K = k0) (w : World) (hn : n ≤ 1048576) (hk1 : k0 ≤ 4294967296) (hr : Reads w w.heap.size 1 A n (I (upFrom k0 n))) :
    Calls Try.prog 44 #[.slice A n c, .int .i64 K] w fun e w' => e = .returned (.int .i64 (K + n)) ∧ Below w.heap.size w w' := by
  subst hK
  exact (heldIntS_any A n c w.heap.size k0 w hr hn hk1).mono fun e w' ⟨h1, h2⟩ => ⟨h1, by rw [h2]; exact Below.refl _ _⟩
end Go.Proofs.Ytadpjkghfgnbbaa.Own
