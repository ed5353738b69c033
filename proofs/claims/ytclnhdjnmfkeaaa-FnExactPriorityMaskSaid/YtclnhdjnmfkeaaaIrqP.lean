/- Slices of Irq as the laws' arguments, opened. -/
import Derived.Test.YtclnhdjnmfkeaaaIrqO
namespace Go.Proofs.Ytclnhdjnmfkeaaa.L6
open Go Go.RowKit Go.ChangeShapes Go.WideShapes Go.Deep Go.Joins Go.Proofs.Ytclnhdjnmfkeaaa.Mem Go.Proofs.Ytclnhdjnmfkeaaa.Own
section
variable {H : Type} {enc : TypeId × Value → H} {w : World}
set_option maxRecDepth 100000 in
theorem open_irqs {base : Nat} {v : Value} {d : DataW H} {p : List MemPlace} (q : Value.okWide Try.prog w .any base 22 v) (h : DataW.Trod enc Try.prog w 0 (fun _ => true) true 22 v d p) :
    ∃ (A : Option Addr) (n c : Nat) (xs : List Irq), v = .slice A n c ∧ n ≤ maxLen ∧ Reads w w.heap.size 5 A n (FL xs) := by
  obtain ⟨a, len, cap, rfl⟩ := okWide_slice Try.underlying22 q
  obtain ⟨fuel, hf⟩ := h
  obtain ⟨A, n, c, xs, hcs, h1, h2, _, _, hr, _⟩ := open_recs (α := Irq) (g := fun _ => True) Try.underlying22 cellsOfIrq (fun fuel cs y h => by
    obtain ⟨v0, v1, v2, v3, v4, y0, y1, y2, y3, y4, m, rfl, g0, g1, g2, g3, g4⟩ := cells_irq Try.underlying61 (by kernel_rfl) cellsOfIrq h
    obtain ⟨a0, e0, _⟩ := DataW.trod_bool Try.underlying4 g0
    obtain ⟨a1, e1, _⟩ := DataW.trod_bool Try.underlying4 g1
    obtain ⟨a2, e2, _⟩ := DataW.trod_bool Try.underlying4 g2
    obtain ⟨a3, e3, _, _⟩ := DataW.trod_int Try.underlying3 g3
    obtain ⟨a4, e4, _, _⟩ := DataW.trod_int Try.underlying3 g4
    simp only [List.cons.injEq, and_true] at e0 e1 e2 e3 e4
    subst e0 e1 e2 e3 e4
    exact ⟨⟨a0, a1, a2, a3, a4⟩, trivial, rfl⟩) hf
  have h3 : a = A ∧ len = n ∧ cap = c := by simpa [Value.cells] using hcs
  obtain ⟨rfl, rfl, rfl⟩ := h3
  exact ⟨_, _, _, xs, rfl, Nat.le_trans h1 h2, hr⟩
end
end Go.Proofs.Ytclnhdjnmfkeaaa.L6
