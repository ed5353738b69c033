/- The answer of a call that hands back interrupts. -/
import Derived.Test.YtfdbnolifimnhaaLns
import Derived.Test.YtfdbnolifimnhaaRow
namespace Go.Proofs.Ytfdbnolifimnhaa.L7
open Go Go.RowKit Go.Proofs.Ytfdbnolifimnhaa.Mem Go.Proofs.Ytfdbnolifimnhaa.Own
/-- places as numbers, of the call's own -/
def NatPost (w : World) (l : List Nat) (b : Bool) (e : Ending) (w' : World) : Prop :=
  ∃ A' c', e = .returned (.tuple #[.slice A' l.length c', .bool b]) ∧ w'.ownsRow w.heap.size 3 1 (.slice A' l.length c') l.length (I (ints l)) ∧ Below w.heap.size w w'
theorem ints_snoc (l : List Nat) (k : Nat) : I (ints l) ++ [.int .i64 (k : Int)] = I (ints (l ++ [k])) := by simp [I, ints]
theorem cells_new (w : World) (l : List Value) (t : TypeId) : ∀ j u, l[j]? = some u → (w.alloc (.cells l.toArray t)).cell? ((⟨w.heap.size, 0, none⟩ : Addr).add j) = some u := by
  intro j u hu
  rw [Go.WideShapes.add_plain, Nat.zero_add, cell_of_row _ _ _ _ _ _ (heap_alloc_new w _)]
  simpa using hu
theorem one_lin (x : Lin) : ∀ u ∈ ([.int .i64 x.ki, .int .i64 x.iq, .bool x.hi, .bool x.ra] : List Value), u.oneCell' = true := by
  intro u hu
  simp at hu
  rcases hu with rfl | rfl | rfl | rfl <;> rfl
theorem snoc_lin (L : List Lin) (x : Lin) : FL L ++ [.int .i64 x.ki, .int .i64 x.iq, .bool x.hi, .bool x.ra] = FL (L ++ [x]) := by
  rw [FL_append, FL_one]
  rfl
end Go.Proofs.Ytfdbnolifimnhaa.L7
