/- An element of a slice of Slot set: data, an owned row. No program's text. -/
import Derived.Test.YtadpjkghfgnbbaaDoorSltD
import Derived.Test.YtadpjkghfgnbbaaDoorRow
namespace Go.Proofs.YtadpjkghfgnbbaaDoor.L8
open Go Go.RowKit Go.Proofs.YtadpjkghfgnbbaaDoor.Mem Go.Proofs.YtadpjkghfgnbbaaDoor.Own
theorem slt_skip (a0 a1 a2 : Value) (l : List Value) (m : Nat) (v : Value) : (a0 :: a1 :: a2 :: l).set (m + 3) v = a0 :: a1 :: a2 :: l.set m v := rfl
theorem slt_fl_set (xs : List Slt) (k : Nat) (x : Slt) (hk : k < xs.length) : ((((FL xs).set (k * 3) (.int .i64 x.st)).set (k * 3 + 1) (.int .i64 x.iq)).set (k * 3 + 2) (.int .i64 x.pr)) = FL (xs.set k x) := by
  induction xs generalizing k with
  | nil => simp at hk
  | cons y ys ih =>
    cases k with
    | zero => simp [FL, Cells.cells]
    | succ k =>
      have h1 := ih k (by simpa using hk)
      rw [List.set_cons_succ]
      have h2 : FL (y :: ys) = .int .i64 y.st :: .int .i64 y.iq :: .int .i64 y.pr :: FL ys := rfl
      have h3 : FL (y :: ys.set k x) = .int .i64 y.st :: .int .i64 y.iq :: .int .i64 y.pr :: FL (ys.set k x) := rfl
      rw [h2, h3, ← h1]
      rw [show (k + 1) * 3 = k * 3 + 3 by omega]
      rw [show k * 3 + 3 + 1 = k * 3 + 1 + 3 by omega]
      rw [show k * 3 + 3 + 2 = k * 3 + 2 + 3 by omega]
      rw [slt_skip, slt_skip, slt_skip]
theorem slt_one (xs : List Slt) : ∀ u ∈ FL xs, u.oneCell' = true := by
  induction xs with
  | nil => intro u hu; cases hu
  | cons x xs ih =>
    intro u hu
    simp only [FL, List.mem_append] at hu
    rcases hu with h | h
    · simp [Cells.cells] at h
      rcases h with rfl | rfl | rfl <;> rfl
    · exact ih u h
/-- an element of an owned row, stored -/
theorem slt_put {w : World} {b g m c k : Nat} {e : TypeId} {xs : List Slt} (h : w.ownsRow b e 3 (.slice (some ⟨g, 0, none⟩) m c) m (FL xs)) (hk : k < xs.length) (x : Slt) :
    (((w.setCell ⟨g, k * 3, none⟩ (.int .i64 x.st)).setCell ⟨g, k * 3 + 1, none⟩ (.int .i64 x.iq)).setCell ⟨g, k * 3 + 2, none⟩ (.int .i64 x.pr)).ownsRow b e 3 (.slice (some ⟨g, 0, none⟩) m c) m (FL (xs.set k x)) ∧ w.grownBy (((w.setCell ⟨g, k * 3, none⟩ (.int .i64 x.st)).setCell ⟨g, k * 3 + 1, none⟩ (.int .i64 x.iq)).setCell ⟨g, k * 3 + 2, none⟩ (.int .i64 x.pr)) (some g) := by
  refine ⟨?_, (grown_trans (grown_trans (World.ownsRow.stored h (k * 3) (.int .i64 x.st)).2 (World.ownsRow.stored (World.ownsRow.stored h (k * 3) (.int .i64 x.st)).1 (k * 3 + 1) (.int .i64 x.iq)).2) (World.ownsRow.stored (World.ownsRow.stored (World.ownsRow.stored h (k * 3) (.int .i64 x.st)).1 (k * 3 + 1) (.int .i64 x.iq)).1 (k * 3 + 2) (.int .i64 x.pr)).2)⟩
  have h1 := (World.ownsRow.stored (World.ownsRow.stored (World.ownsRow.stored h (k * 3) (.int .i64 x.st)).1 (k * 3 + 1) (.int .i64 x.iq)).1 (k * 3 + 2) (.int .i64 x.pr)).1
  rw [slt_fl_set xs k x hk] at h1
  exact h1
end Go.Proofs.YtadpjkghfgnbbaaDoor.L8
