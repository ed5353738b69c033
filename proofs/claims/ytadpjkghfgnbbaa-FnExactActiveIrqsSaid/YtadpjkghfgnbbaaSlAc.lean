/- The answer of a call that hands back interrupts. -/
import Derived.Test.YtadpjkghfgnbbaaSloB
import Derived.Test.YtadpjkghfgnbbaaRow
namespace Go.Proofs.Ytadpjkghfgnbbaa.L8
open Go Go.RowKit Go.Proofs.Ytadpjkghfgnbbaa.Mem Go.Proofs.Ytadpjkghfgnbbaa.Own
def AcPost (w : World) (r : List Int × Bool) (e : Ending) (w' : World) : Prop :=
  ∃ A' c', e = .returned (.tuple #[.slice A' r.1.length c', .bool r.2]) ∧ w'.ownsRow w.heap.size 3 1 (.slice A' r.1.length c') r.1.length (I r.1) ∧ Below w.heap.size w w'
theorem acPost_no {w w' : World} (hb : Below w.heap.size w w') : AcPost w ([], false) (.returned (.tuple #[.slice none 0 0, .bool false])) w' := ⟨none, 0, rfl, World.ownsRow_nil _ _ _ _, hb⟩
theorem acPost_of {w w' : World} {l : List Int} {A : Option Addr} {n cc : Nat} {d : Bool} (hl : l.length = n) (ho : w'.ownsRow w.heap.size 3 1 (.slice A n cc) n (I l)) (hb : Below w.heap.size w w') : AcPost w (l, d) (.returned (.tuple #[.slice A n cc, .bool d])) w' := by
  subst hl
  exact ⟨_, cc, rfl, ho, hb⟩
theorem snocI (l : List Int) (z : Int) : I l ++ [.int .i64 z] = I (l ++ [z]) := by simp [I]
end Go.Proofs.Ytadpjkghfgnbbaa.L8
