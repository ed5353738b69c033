/- What the laws do with instructions: copies, comparisons. -/
import Derived.Test.YtodecmdgcopkiaaDoorStep
import Derived.Test.YtodecmdgcopkiaaDoorL3
import Derived.Lib.QuietBelow
namespace Go.Proofs.YtodecmdgcopkiaaDoor.L3
open Go.RowKit Go.Proofs.YtodecmdgcopkiaaDoor.Mem Go.Proofs.YtodecmdgcopkiaaDoor.Own
theorem below_more {w w' : World} (h : Below w.heap.size w w') (o : Obj) : Below w.heap.size w (w'.alloc o) := h.alloc h.size o
theorem below_then {w w1 w2 : World} (h : Below w.heap.size w w1) (h2 : Below w1.heap.size w1 w2) : Below w.heap.size w w2 := h.trans (h2.mono h.size)
/-- a fresh block keeps its cells -/
theorem kept_cell {w w1 : World} {cs : Array Value} {t : TypeId} (hb : Below (w.alloc (.cells cs t)).heap.size (w.alloc (.cells cs t)) w1) (j : Nat) (v : Value) (h : cs[j]? = some v) : w1.cell? ⟨w.heap.size, j, none⟩ = some v := by
  rw [hb.cell (p := ⟨w.heap.size, j, none⟩) (by simp), cell_of_row _ _ _ _ _ _ (heap_alloc_new w _)]
  exact h
/-- block g holds these cells -/
def Blk (w : World) (g : Nat) (t : TypeId) (cs : Array Value) : Prop := w.heap[g]? = some (.cells cs t (0, 0))
section
variable {w w1 : World} {g : Nat} {t : TypeId} {cs : Array Value}
theorem Blk.new (w : World) (cs : Array Value) (t : TypeId) : Blk (w.alloc (.cells cs t)) w.heap.size t cs := heap_alloc_new w _
theorem Blk.lt (h : Blk w g t cs) : g < w.heap.size := by
  rcases Nat.lt_or_ge g w.heap.size with hl | hl
  · exact hl
  · unfold Blk at h
    rw [Array.getElem?_eq_none hl] at h
    cases h
theorem Blk.kept (hb : Below w.heap.size w w1) (h : Blk w g t cs) : Blk w1 g t cs := (hb.block g h.lt).trans h
theorem Blk.alloc (h : Blk w g t cs) (o : Obj) : Blk (w.alloc o) g t cs := Blk.kept (w := w) ((Below.refl w.heap.size w).alloc (Nat.le_refl _) o) h
theorem Blk.cell (h : Blk w g t cs) (j : Nat) (v : Value) (hj : cs[j]? = some v) : w.cell? ⟨g, j, none⟩ = some v := (cell_of_row w g j cs t (0, 0) h).trans hj
theorem Blk.free (h : Blk w g t cs) (j : Nat) : w.frozen? ⟨g, j, none⟩ = false := frozen_of_row w g j cs t h
theorem Blk.set (h : Blk w g t cs) (j : Nat) (v : Value) : Blk (w.setCell ⟨g, j, none⟩ v) g t (cs.setIfInBounds j v) := heap_setCell_same w g j cs t v h
theorem Blk.other (h : Blk w g t cs) {g' j : Nat} (v : Value) (hne : g ≠ g') : Blk (w.setCell ⟨g', j, none⟩ v) g t cs := (heap_setCell_other w ⟨g', j, none⟩ g v hne).trans h
theorem below_set (h : Below w.heap.size w w1) {g j : Nat} (hg : w.heap.size ≤ g) (v : Value) : Below w.heap.size w (w1.setCell ⟨g, j, none⟩ v) := h.setCell (p := ⟨g, j, none⟩) hg v
end
set_option maxHeartbeats 1000000 in
theorem toInstruction_any (x : Ins) (w : World) :
    Calls Tryd.prog 43 #[x.val] w fun e w' => e = .returned x.val ∧ Below w.heap.size w w' := by
  obtain ⟨op, a, b, n⟩ := x
  show Calls Tryd.prog 43 #[.agg #[.int .i64 op, .int .i64 a, .int .i64 b, .int .i64 n]] w fun e w' => e = .returned (.agg #[.int .i64 op, .int .i64 a, .int .i64 b, .int .i64 n]) ∧ Below w.heap.size w w'
  go_enter Tryd.func43, Tryd.ntmps43
  go_wp2
  refine bodyPost_ret (v := .agg #[.int .i64 op, .int .i64 a, .int .i64 b, .int .i64 n]) (by simp [results, Tryd.results43, go_sem]) rfl ⟨rfl, ?_⟩
  exact below_more (below_more (below_more (Below.refl _ _) _) _) _
set_option maxHeartbeats 1000000 in
theorem eqInstruction_same (x : Ins) (w : World) :
    Calls Tryd.prog 55 #[x.val, x.val] w fun e w' => e = .returned (.bool true) ∧ Below w.heap.size w w' := by
  obtain ⟨op, a, b, n⟩ := x
  show Calls Tryd.prog 55 #[.agg #[.int .i64 op, .int .i64 a, .int .i64 b, .int .i64 n], .agg #[.int .i64 op, .int .i64 a, .int .i64 b, .int .i64 n]] w fun e w' => e = .returned (.bool true) ∧ Below w.heap.size w w'
  go_enter Tryd.func55, Tryd.ntmps55
  go_wp2
  go_ret
  exact ⟨rfl, below_more (below_more (Below.refl _ _) _) _⟩
theorem isBelow_yes (x c : Int) (h0 : 0 ≤ x) (h1 : x < c) (w : World) :
    Calls Tryd.prog 61 #[.int .i64 x, .int .i64 c] w fun e w' => e = .returned (.bool true) ∧ w = w' := by
  go_enter Tryd.func61, Tryd.ntmps61
  go_wp2
  go_ret
  exact ⟨rfl, rfl⟩
theorem isBelow_no (x c : Int) (h : x < 0 ∨ c ≤ x) (w : World) :
    Calls Tryd.prog 61 #[.int .i64 x, .int .i64 c] w fun e w' => e = .returned (.bool false) ∧ w = w' := by
  by_cases h0 : x < 0
  · go_enter Tryd.func61, Tryd.ntmps61
    go_wp2
    go_ret
    exact ⟨rfl, rfl⟩
  · have h2 : 0 ≤ x := by omega
    have h3 : decide (x < c) = false := decide_eq_false (by omega)
    clear h h0
    go_enter Tryd.func61, Tryd.ntmps61
    go_wp2
    go_ret
    exact ⟨rfl, rfl⟩
theorem isBelow_any (x c : Int) (b : Bool) (hb : decide (0 ≤ x ∧ x < c) = b) (w : World) :
    Calls Tryd.prog 61 #[.int .i64 x, .int .i64 c] w fun e w' => e = .returned (.bool b) ∧ w = w' := by
  subst hb
  by_cases h : 0 ≤ x ∧ x < c
  · rw [decide_eq_true h]; exact isBelow_yes x c h.1 h.2 w
  · rw [decide_eq_false h]; exact isBelow_no x c (by omega) w
end Go.Proofs.YtodecmdgcopkiaaDoor.L3
