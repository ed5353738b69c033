/- The laws' arguments of chapter 3, opened. -/
import Derived.Test.YtclnhdjnmfkeaabDoorOp
namespace Go.Proofs.YtclnhdjnmfkeaabDoor.L3
open Go Go.RowKit Go.ChangeShapes Go.WideShapes Go.Deep Go.Joins Go.Proofs.YtclnhdjnmfkeaabDoor.Mem Go.Proofs.YtclnhdjnmfkeaabDoor.Own
section
variable {H : Type} {enc : TypeId × Value → H} {w : World}
theorem cellsIns : Tryd.prog.cellsOf 79 = 4 := by kernel_rfl
theorem cells4 {P : Program} {e : TypeId} {f0 f1 f2 f3 : Field} {fuel : Nat} {cs : List Value} {y : DataW H × List MemPlace} (he : P.underlying e = some (.struct #[f0, f1, f2, f3])) (hone : oneCellFields P #[f0, f1, f2, f3] = true) (hc : P.cellsOf e = 4)
    (h : DataW.trod enc P w 0 (fun _ => true) true fuel e cs = some y) : ∃ (v0 v1 v2 v3 : Value) (y0 y1 y2 y3 : DataW H × List MemPlace) (m : Nat), cs = [v0, v1, v2, v3] ∧
      DataW.trod enc P w 0 (fun _ => true) true m f0.type [v0] = some y0 ∧ DataW.trod enc P w 0 (fun _ => true) true m f1.type [v1] = some y1 ∧ DataW.trod enc P w 0 (fun _ => true) true m f2.type [v2] = some y2 ∧ DataW.trod enc P w 0 (fun _ => true) true m f3.type [v3] = some y3 := by
  obtain ⟨y0, y1, y2, y3, m, _, hl, g0, g1, g2, g3⟩ := trod_struct4 he h
  rw [hc] at hl
  obtain ⟨o0, k0⟩ := hone_of hone 0 f0 rfl
  obtain ⟨o1, k1⟩ := hone_of hone 1 f1 rfl
  obtain ⟨o2, k2⟩ := hone_of hone 2 f2 rfl
  obtain ⟨o3, k3⟩ := hone_of hone 3 f3 rfl
  match cs, hl with
  | [v0, v1, v2, v3], _ => exact ⟨v0, v1, v2, v3, y0, y1, y2, y3, m, rfl, by simpa [o0, k0] using g0, by simpa [o1, k1] using g1, by simpa [o2, k2] using g2, by simpa [o3, k3] using g3⟩
set_option maxRecDepth 100000 in
theorem open_ins {base : Nat} {v : Value} {d : DataW H} {p : List MemPlace} (q : Value.okWide Tryd.prog w .any base 79 v) (h : DataW.Trod enc Tryd.prog w 0 (fun _ => true) true 79 v d p) : ∃ x : Ins, v = x.val := by
  obtain ⟨c0, c1, c2, c3, y0, y1, y2, y3, m, rfl, _, _, h0, h1, h2, h3⟩ := open_agg4 Tryd.underlying79 (by kernel_rfl) cellsIns q h
  obtain ⟨a, e0, _, _⟩ := DataW.trod_int Tryd.underlying3 h0
  obtain ⟨b, e1, _, _⟩ := DataW.trod_int Tryd.underlying3 h1
  obtain ⟨c, e2, _, _⟩ := DataW.trod_int Tryd.underlying3 h2
  obtain ⟨d, e3, _, _⟩ := DataW.trod_int Tryd.underlying3 h3
  simp only [List.cons.injEq, and_true] at e0 e1 e2 e3
  subst e0 e1 e2 e3
  exact ⟨⟨a, b, c, d⟩, rfl⟩
set_option maxRecDepth 100000 in
theorem open_prog {base : Nat} {v : Value} {d : DataW H} {p : List MemPlace} (q : Value.okWide Tryd.prog w .any base 28 v) (h : DataW.Trod enc Tryd.prog w 0 (fun _ => true) true 28 v d p) :
    ∃ (A : Option Addr) (n c : Nat) (xs : List Ins), v = .slice A n c ∧ n ≤ maxLen ∧ Reads w w.heap.size 4 A n (FL xs) := by
  obtain ⟨a, len, cap, rfl⟩ := okWide_slice Tryd.underlying28 q
  obtain ⟨fuel, hf⟩ := h
  obtain ⟨A, n, c, xs, hcs, h1, h2, _, _, hr, _⟩ := open_recs (α := Ins) (g := fun _ => True) Tryd.underlying28 cellsIns (fun fuel cs y h => by
    obtain ⟨v0, v1, v2, v3, y0, y1, y2, y3, m, rfl, g0, g1, g2, g3⟩ := cells4 Tryd.underlying79 (by kernel_rfl) cellsIns h
    obtain ⟨a, e0, _, _⟩ := DataW.trod_int Tryd.underlying3 g0
    obtain ⟨b, e1, _, _⟩ := DataW.trod_int Tryd.underlying3 g1
    obtain ⟨c, e2, _, _⟩ := DataW.trod_int Tryd.underlying3 g2
    obtain ⟨d, e3, _, _⟩ := DataW.trod_int Tryd.underlying3 g3
    simp only [List.cons.injEq, and_true] at e0 e1 e2 e3
    subst e0 e1 e2 e3
    exact ⟨⟨a, b, c, d⟩, trivial, rfl⟩) hf
  have h3 : a = A ∧ len = n ∧ cap = c := by simpa [Value.cells] using hcs
  obtain ⟨rfl, rfl, rfl⟩ := h3
  exact ⟨_, _, _, xs, rfl, Nat.le_trans h1 h2, hr⟩
end
end Go.Proofs.YtclnhdjnmfkeaabDoor.L3
