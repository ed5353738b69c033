/- Slices of Line as the laws' arguments, opened. -/
import Derived.Test.YtfdbnolifimnhabLinO
namespace Go.Proofs.Ytfdbnolifimnhab.L7
open Go Go.RowKit Go.ChangeShapes Go.WideShapes Go.Deep Go.Joins Go.Proofs.Ytfdbnolifimnhab.Mem Go.Proofs.Ytfdbnolifimnhab.Own
section
variable {H : Type} {enc : TypeId × Value → H} {w : World}
set_option maxRecDepth 100000 in
theorem open_lins {base : Nat} {v : Value} {d : DataW H} {p : List MemPlace} (q : Value.okWide Try.prog w .any base 22 v) (h : DataW.Trod enc Try.prog w 0 (fun _ => true) true 22 v d p) :
    ∃ (A : Option Addr) (n c : Nat) (xs : List Lin), v = .slice A n c ∧ n ≤ maxLen ∧ Reads w w.heap.size 4 A n (FL xs) := by
  obtain ⟨a, len, cap, rfl⟩ := okWide_slice Try.underlying22 q
  obtain ⟨fuel, hf⟩ := h
  obtain ⟨A, n, c, xs, hcs, h1, h2, _, _, hr, _⟩ := open_recs (α := Lin) (g := fun _ => True) Try.underlying22 cellsOfLin (fun fuel cs y h => by
    obtain ⟨v0, v1, v2, v3, y0, y1, y2, y3, m, rfl, g0, g1, g2, g3⟩ := cells_lin Try.underlying39 (by kernel_rfl) cellsOfLin h
    obtain ⟨a0, e0, _, _⟩ := DataW.trod_int Try.underlying3 g0
    obtain ⟨a1, e1, _, _⟩ := DataW.trod_int Try.underlying3 g1
    obtain ⟨a2, e2, _⟩ := DataW.trod_bool Try.underlying4 g2
    obtain ⟨a3, e3, _⟩ := DataW.trod_bool Try.underlying4 g3
    simp only [List.cons.injEq, and_true] at e0 e1 e2 e3
    subst e0 e1 e2 e3
    exact ⟨⟨a0, a1, a2, a3⟩, trivial, rfl⟩) hf
  have h3 : a = A ∧ len = n ∧ cap = c := by simpa [Value.cells] using hcs
  obtain ⟨rfl, rfl, rfl⟩ := h3
  exact ⟨_, _, _, xs, rfl, Nat.le_trans h1 h2, hr⟩
end
end Go.Proofs.Ytfdbnolifimnhab.L7
