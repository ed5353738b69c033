/- Slices of Slot as the laws' arguments, opened. -/
import Derived.Test.YtadpjkghfgnbbaaDoorSltO
namespace Go.Proofs.YtadpjkghfgnbbaaDoor.L8
open Go Go.RowKit Go.ChangeShapes Go.WideShapes Go.Deep Go.Joins Go.Proofs.YtadpjkghfgnbbaaDoor.Mem Go.Proofs.YtadpjkghfgnbbaaDoor.Own
section
variable {H : Type} {enc : TypeId × Value → H} {w : World}
set_option maxRecDepth 100000 in
theorem open_slts {base : Nat} {v : Value} {d : DataW H} {p : List MemPlace} (q : Value.okWide Tryd.prog w .any base 22 v) (h : DataW.Trod enc Tryd.prog w 0 (fun _ => true) true 22 v d p) :
    ∃ (A : Option Addr) (n c : Nat) (xs : List Slt), v = .slice A n c ∧ n ≤ maxLen ∧ Reads w w.heap.size 3 A n (FL xs) := by
  obtain ⟨a, len, cap, rfl⟩ := okWide_slice Tryd.underlying22 q
  obtain ⟨fuel, hf⟩ := h
  obtain ⟨A, n, c, xs, hcs, h1, h2, _, _, hr, _⟩ := open_recs (α := Slt) (g := fun _ => True) Tryd.underlying22 cellsOfSlt (fun fuel cs y h => by
    obtain ⟨v0, v1, v2, y0, y1, y2, m, rfl, g0, g1, g2⟩ := cells_slt Tryd.underlying39 (by kernel_rfl) cellsOfSlt h
    obtain ⟨a0, e0, _, _⟩ := DataW.trod_int Tryd.underlying3 g0
    obtain ⟨a1, e1, _, _⟩ := DataW.trod_int Tryd.underlying3 g1
    obtain ⟨a2, e2, _, _⟩ := DataW.trod_int Tryd.underlying3 g2
    simp only [List.cons.injEq, and_true] at e0 e1 e2
    subst e0 e1 e2
    exact ⟨⟨a0, a1, a2⟩, trivial, rfl⟩) hf
  have h3 : a = A ∧ len = n ∧ cap = c := by simpa [Value.cells] using hcs
  obtain ⟨rfl, rfl, rfl⟩ := h3
  exact ⟨_, _, _, xs, rfl, Nat.le_trans h1 h2, hr⟩
end
end Go.Proofs.YtadpjkghfgnbbaaDoor.L8
