/- A call that boxes a struct parameter and answers in a struct variable: both blocks, as the world changes. No program's text. -/
import Derived.Test.YtfdbnolifimnhabDoorBlk
namespace Go.Proofs.YtfdbnolifimnhabDoor.Own
open Go Go.RowKit Go.Proofs.YtfdbnolifimnhabDoor.Mem
structure BR (w wr : World) (ty : TypeId) (p r : Array Value) : Prop where
  bx : Blk wr w.heap.size ty p
  rs : Blk wr (w.heap.size + 1) ty r
  bel : Below w.heap.size w wr
section
variable {w wr w' : World} {ty : TypeId} {p r : Array Value}
theorem BR.start (w : World) (ty : TypeId) (p r : Array Value) : BR w ((w.alloc (.cells p ty)).alloc (.cells r ty)) ty p r := by
  refine ⟨(Blk.new w p ty).alloc _, ?_, below_more (below_more (Below.refl _ _) _) _⟩
  have h := Blk.new (w.alloc (.cells p ty)) r ty
  rw [size1] at h
  exact h
theorem BR.below (h : BR w wr ty p r) (hb : Below wr.heap.size wr w') : BR w w' ty p r := ⟨Blk.kept hb h.bx, Blk.kept hb h.rs, below_then h.bel hb⟩
theorem BR.set (h : BR w wr ty p r) (j : Nat) (v : Value) : BR w (wr.setCell ⟨w.heap.size, j, none⟩ v) ty (p.setIfInBounds j v) r :=
  ⟨h.bx.set j v, h.rs.other v (by omega), below_set h.bel (Nat.le_refl _) v⟩
theorem BR.put (h : BR w wr ty p r) (j : Nat) (v : Value) : BR w (wr.setCell ⟨w.heap.size + 1, j, none⟩ v) ty p (r.setIfInBounds j v) :=
  ⟨h.bx.other v (by omega), h.rs.set j v, below_set h.bel (Nat.le_succ _) v⟩
end
end Go.Proofs.YtfdbnolifimnhabDoor.Own
