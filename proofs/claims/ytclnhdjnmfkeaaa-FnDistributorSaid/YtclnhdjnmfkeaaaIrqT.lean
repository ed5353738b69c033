/- An element of a slice of Irq set: data, an owned row. No program's text. -/
import Derived.Test.YtclnhdjnmfkeaaaIrqD
import Derived.Test.YtclnhdjnmfkeaaaRow
namespace Go.Proofs.Ytclnhdjnmfkeaaa.L6
open Go Go.RowKit Go.Proofs.Ytclnhdjnmfkeaaa.Mem Go.Proofs.Ytclnhdjnmfkeaaa.Own
theorem irq_skip (a0 a1 a2 a3 a4 : Value) (l : List Value) (m : Nat) (v : Value) : (a0 :: a1 :: a2 :: a3 :: a4 :: l).set (m + 5) v = a0 :: a1 :: a2 :: a3 :: a4 :: l.set m v := rfl
theorem irq_fl_set (xs : List Irq) (k : Nat) (x : Irq) (hk : k < xs.length) : ((((((FL xs).set (k * 5) (.bool x.en)).set (k * 5 + 1) (.bool x.pe)).set (k * 5 + 2) (.bool x.ac)).set (k * 5 + 3) (.int .i64 x.pr)).set (k * 5 + 4) (.int .i64 x.tg)) = FL (xs.set k x) := by
  induction xs generalizing k with
  | nil => simp at hk
  | cons y ys ih =>
    cases k with
    | zero => simp [FL, Cells.cells]
    | succ k =>
      have h1 := ih k (by simpa using hk)
      rw [List.set_cons_succ]
      have h2 : FL (y :: ys) = .bool y.en :: .bool y.pe :: .bool y.ac :: .int .i64 y.pr :: .int .i64 y.tg :: FL ys := rfl
      have h3 : FL (y :: ys.set k x) = .bool y.en :: .bool y.pe :: .bool y.ac :: .int .i64 y.pr :: .int .i64 y.tg :: FL (ys.set k x) := rfl
      rw [h2, h3, ← h1]
      rw [show (k + 1) * 5 = k * 5 + 5 by omega]
      rw [show k * 5 + 5 + 1 = k * 5 + 1 + 5 by omega]
      rw [show k * 5 + 5 + 2 = k * 5 + 2 + 5 by omega]
      rw [show k * 5 + 5 + 3 = k * 5 + 3 + 5 by omega]
      rw [show k * 5 + 5 + 4 = k * 5 + 4 + 5 by omega]
      rw [irq_skip, irq_skip, irq_skip, irq_skip, irq_skip]
theorem irq_one (xs : List Irq) : ∀ u ∈ FL xs, u.oneCell' = true := by
  induction xs with
  | nil => intro u hu; cases hu
  | cons x xs ih =>
    intro u hu
    simp only [FL, List.mem_append] at hu
    rcases hu with h | h
    · simp [Cells.cells] at h
      rcases h with rfl | rfl | rfl | rfl | rfl <;> rfl
    · exact ih u h
/-- an element of an owned row, stored -/
theorem irq_put {w : World} {b g m c k : Nat} {e : TypeId} {xs : List Irq} (h : w.ownsRow b e 5 (.slice (some ⟨g, 0, none⟩) m c) m (FL xs)) (hk : k < xs.length) (x : Irq) :
    (((((w.setCell ⟨g, k * 5, none⟩ (.bool x.en)).setCell ⟨g, k * 5 + 1, none⟩ (.bool x.pe)).setCell ⟨g, k * 5 + 2, none⟩ (.bool x.ac)).setCell ⟨g, k * 5 + 3, none⟩ (.int .i64 x.pr)).setCell ⟨g, k * 5 + 4, none⟩ (.int .i64 x.tg)).ownsRow b e 5 (.slice (some ⟨g, 0, none⟩) m c) m (FL (xs.set k x)) ∧ w.grownBy (((((w.setCell ⟨g, k * 5, none⟩ (.bool x.en)).setCell ⟨g, k * 5 + 1, none⟩ (.bool x.pe)).setCell ⟨g, k * 5 + 2, none⟩ (.bool x.ac)).setCell ⟨g, k * 5 + 3, none⟩ (.int .i64 x.pr)).setCell ⟨g, k * 5 + 4, none⟩ (.int .i64 x.tg)) (some g) := by
  refine ⟨?_, (grown_trans (grown_trans (grown_trans (grown_trans (World.ownsRow.stored h (k * 5) (.bool x.en)).2 (World.ownsRow.stored (World.ownsRow.stored h (k * 5) (.bool x.en)).1 (k * 5 + 1) (.bool x.pe)).2) (World.ownsRow.stored (World.ownsRow.stored (World.ownsRow.stored h (k * 5) (.bool x.en)).1 (k * 5 + 1) (.bool x.pe)).1 (k * 5 + 2) (.bool x.ac)).2) (World.ownsRow.stored (World.ownsRow.stored (World.ownsRow.stored (World.ownsRow.stored h (k * 5) (.bool x.en)).1 (k * 5 + 1) (.bool x.pe)).1 (k * 5 + 2) (.bool x.ac)).1 (k * 5 + 3) (.int .i64 x.pr)).2) (World.ownsRow.stored (World.ownsRow.stored (World.ownsRow.stored (World.ownsRow.stored (World.ownsRow.stored h (k * 5) (.bool x.en)).1 (k * 5 + 1) (.bool x.pe)).1 (k * 5 + 2) (.bool x.ac)).1 (k * 5 + 3) (.int .i64 x.pr)).1 (k * 5 + 4) (.int .i64 x.tg)).2)⟩
  have h1 := (World.ownsRow.stored (World.ownsRow.stored (World.ownsRow.stored (World.ownsRow.stored (World.ownsRow.stored h (k * 5) (.bool x.en)).1 (k * 5 + 1) (.bool x.pe)).1 (k * 5 + 2) (.bool x.ac)).1 (k * 5 + 3) (.int .i64 x.pr)).1 (k * 5 + 4) (.int .i64 x.tg)).1
  rw [irq_fl_set xs k x hk] at h1
  exact h1
end Go.Proofs.Ytclnhdjnmfkeaaa.L6
