/- Slices of Trap as the laws' arguments, opened. -/
import Derived.Test.YtaamjnpknmimmaaTrpO
namespace Go.Proofs.Ytaamjnpknmimmaa.L5
open Go Go.RowKit Go.ChangeShapes Go.WideShapes Go.Deep Go.Joins Go.Proofs.Ytaamjnpknmimmaa.Mem Go.Proofs.Ytaamjnpknmimmaa.Own
section
variable {H : Type} {enc : TypeId × Value → H} {w : World}
set_option maxRecDepth 100000 in
theorem open_trps {base : Nat} {v : Value} {d : DataW H} {p : List MemPlace} (q : Value.okWide Try.prog w .any base 47 v) (h : DataW.Trod enc Try.prog w 0 (fun _ => true) true 47 v d p) :
    ∃ (A : Option Addr) (n c : Nat) (xs : List Trp), v = .slice A n c ∧ n ≤ maxLen ∧ Reads w w.heap.size 5 A n (FL xs) := by
  obtain ⟨a, len, cap, rfl⟩ := okWide_slice Try.underlying47 q
  obtain ⟨fuel, hf⟩ := h
  obtain ⟨A, n, c, xs, hcs, h1, h2, _, _, hr, _⟩ := open_recs (α := Trp) (g := fun _ => True) Try.underlying47 cellsOfTrp (fun fuel cs y h => by
    obtain ⟨v0, v1, v2, v3, v4, y0, y1, y2, y3, y4, m, rfl, g0, g1, g2, g3, g4⟩ := cells_trp Try.underlying23 (by kernel_rfl) cellsOfTrp h
    obtain ⟨a0, e0, _, _⟩ := DataW.trod_int Try.underlying3 g0
    obtain ⟨a1, e1, _, _⟩ := DataW.trod_int Try.underlying3 g1
    obtain ⟨a2, e2, _⟩ := DataW.trod_bool Try.underlying4 g2
    obtain ⟨a3, e3, _, _⟩ := DataW.trod_int Try.underlying3 g3
    obtain ⟨a4, e4, _, _⟩ := DataW.trod_int Try.underlying3 g4
    simp only [List.cons.injEq, and_true] at e0 e1 e2 e3 e4
    subst e0 e1 e2 e3 e4
    exact ⟨⟨a0, a1, a2, a3, a4⟩, trivial, rfl⟩) hf
  have h3 : a = A ∧ len = n ∧ cap = c := by simpa [Value.cells] using hcs
  obtain ⟨rfl, rfl, rfl⟩ := h3
  exact ⟨_, _, _, xs, rfl, Nat.le_trans h1 h2, hr⟩
end
end Go.Proofs.Ytaamjnpknmimmaa.L5
