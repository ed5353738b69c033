/- The laws' arguments of chapter 3, opened. -/
import Derived.Test.YtodecmdgcopkiaaDoorOp
namespace Go.Proofs.YtodecmdgcopkiaaDoor.L3
open Go Go.RowKit Go.ChangeShapes Go.WideShapes Go.Deep Go.Joins Go.Proofs.YtodecmdgcopkiaaDoor.Mem Go.Proofs.YtodecmdgcopkiaaDoor.Own
section
variable {H : Type} {enc : TypeId × Value → H} {w : World}
theorem cellsIns : Tryd.prog.cellsOf 57 = 4 := by kernel_rfl
set_option maxRecDepth 100000 in
theorem open_ins {base : Nat} {v : Value} {d : DataW H} {p : List MemPlace} (q : Value.okWide Tryd.prog w .any base 57 v) (h : DataW.Trod enc Tryd.prog w 0 (fun _ => true) true 57 v d p) : ∃ x : Ins, v = x.val := by
  obtain ⟨c0, c1, c2, c3, y0, y1, y2, y3, m, rfl, _, _, h0, h1, h2, h3⟩ := open_agg4 Tryd.underlying57 (by kernel_rfl) cellsIns q h
  obtain ⟨a, e0, _, _⟩ := DataW.trod_int Tryd.underlying3 h0
  obtain ⟨b, e1, _, _⟩ := DataW.trod_int Tryd.underlying3 h1
  obtain ⟨c, e2, _, _⟩ := DataW.trod_int Tryd.underlying3 h2
  obtain ⟨d, e3, _, _⟩ := DataW.trod_int Tryd.underlying3 h3
  simp only [List.cons.injEq, and_true] at e0 e1 e2 e3
  subst e0 e1 e2 e3
  exact ⟨⟨a, b, c, d⟩, rfl⟩
end
end Go.Proofs.YtodecmdgcopkiaaDoor.L3
