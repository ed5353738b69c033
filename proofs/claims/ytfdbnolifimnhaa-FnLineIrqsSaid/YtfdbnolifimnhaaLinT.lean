/- An element of a slice of Line set: data, an owned row. No program's text. -/
import Derived.Test.YtfdbnolifimnhaaLinD
import Derived.Test.YtfdbnolifimnhaaRow
namespace Go.Proofs.Ytfdbnolifimnhaa.L7
open Go Go.RowKit Go.Proofs.Ytfdbnolifimnhaa.Mem Go.Proofs.Ytfdbnolifimnhaa.Own
theorem lin_skip (a0 a1 a2 a3 : Value) (l : List Value) (m : Nat) (v : Value) : (a0 :: a1 :: a2 :: a3 :: l).set (m + 4) v = a0 :: a1 :: a2 :: a3 :: l.set m v := rfl
theorem lin_fl_set (xs : List Lin) (k : Nat) (x : Lin) (hk : k < xs.length) : (((((FL xs).set (k * 4) (.int .i64 x.ki)).set (k * 4 + 1) (.int .i64 x.iq)).set (k * 4 + 2) (.bool x.hi)).set (k * 4 + 3) (.bool x.ra)) = FL (xs.set k x) := by
  induction xs generalizing k with
  | nil => simp at hk
  | cons y ys ih =>
    cases k with
    | zero => simp [FL, Cells.cells]
    | succ k =>
      have h1 := ih k (by simpa using hk)
      rw [List.set_cons_succ]
      have h2 : FL (y :: ys) = .int .i64 y.ki :: .int .i64 y.iq :: .bool y.hi :: .bool y.ra :: FL ys := rfl
      have h3 : FL (y :: ys.set k x) = .int .i64 y.ki :: .int .i64 y.iq :: .bool y.hi :: .bool y.ra :: FL (ys.set k x) := rfl
      rw [h2, h3, ← h1]
      rw [show (k + 1) * 4 = k * 4 + 4 by omega]
      rw [show k * 4 + 4 + 1 = k * 4 + 1 + 4 by omega]
      rw [show k * 4 + 4 + 2 = k * 4 + 2 + 4 by omega]
      rw [show k * 4 + 4 + 3 = k * 4 + 3 + 4 by omega]
      rw [lin_skip, lin_skip, lin_skip, lin_skip]
theorem lin_one (xs : List Lin) : ∀ u ∈ FL xs, u.oneCell' = true := by
  induction xs with
  | nil => intro u hu; cases hu
  | cons x xs ih =>
    intro u hu
    simp only [FL, List.mem_append] at hu
    rcases hu with h | h
    · simp [Cells.cells] at h
      rcases h with rfl | rfl | rfl | rfl <;> rfl
    · exact ih u h
/-- an element of an owned row, stored -/
theorem lin_put {w : World} {b g m c k : Nat} {e : TypeId} {xs : List Lin} (h : w.ownsRow b e 4 (.slice (some ⟨g, 0, none⟩) m c) m (FL xs)) (hk : k < xs.length) (x : Lin) :
    ((((w.setCell ⟨g, k * 4, none⟩ (.int .i64 x.ki)).setCell ⟨g, k * 4 + 1, none⟩ (.int .i64 x.iq)).setCell ⟨g, k * 4 + 2, none⟩ (.bool x.hi)).setCell ⟨g, k * 4 + 3, none⟩ (.bool x.ra)).ownsRow b e 4 (.slice (some ⟨g, 0, none⟩) m c) m (FL (xs.set k x)) ∧ w.grownBy ((((w.setCell ⟨g, k * 4, none⟩ (.int .i64 x.ki)).setCell ⟨g, k * 4 + 1, none⟩ (.int .i64 x.iq)).setCell ⟨g, k * 4 + 2, none⟩ (.bool x.hi)).setCell ⟨g, k * 4 + 3, none⟩ (.bool x.ra)) (some g) := by
  refine ⟨?_, (grown_trans (grown_trans (grown_trans (World.ownsRow.stored h (k * 4) (.int .i64 x.ki)).2 (World.ownsRow.stored (World.ownsRow.stored h (k * 4) (.int .i64 x.ki)).1 (k * 4 + 1) (.int .i64 x.iq)).2) (World.ownsRow.stored (World.ownsRow.stored (World.ownsRow.stored h (k * 4) (.int .i64 x.ki)).1 (k * 4 + 1) (.int .i64 x.iq)).1 (k * 4 + 2) (.bool x.hi)).2) (World.ownsRow.stored (World.ownsRow.stored (World.ownsRow.stored (World.ownsRow.stored h (k * 4) (.int .i64 x.ki)).1 (k * 4 + 1) (.int .i64 x.iq)).1 (k * 4 + 2) (.bool x.hi)).1 (k * 4 + 3) (.bool x.ra)).2)⟩
  have h1 := (World.ownsRow.stored (World.ownsRow.stored (World.ownsRow.stored (World.ownsRow.stored h (k * 4) (.int .i64 x.ki)).1 (k * 4 + 1) (.int .i64 x.iq)).1 (k * 4 + 2) (.bool x.hi)).1 (k * 4 + 3) (.bool x.ra)).1
  rw [lin_fl_set xs k x hk] at h1
  exact h1
end Go.Proofs.Ytfdbnolifimnhaa.L7
