/- A cursor that has just been laid. -/
import Derived.Test.YtadpjkghfgnbbaaCur0
import Derived.OwnWalk
namespace Go.Proofs.Ytadpjkghfgnbbaa.Draw
open Go.RowKit Go.Proofs.Ytadpjkghfgnbbaa.Mem
theorem cur_new (w : World) (A : Option Addr) (n cp : Nat) (zs : List Int) (hr : Reads w w.heap.size 1 A n (zs.map (Value.int .u8))) : Cur (w.alloc (.cells #[.slice A n cp, .int .i64 0, .int .u64 0] 58)) w.heap.size w.heap.size A n cp zs 0 :=
  ⟨Nat.le_refl _, hr.alloc (Nat.le_refl _) _, 0, by decide, heap_alloc_new w _⟩
theorem below_cur {w w0 w' : World} {g : Nat} (h : Below w.heap.size w w0) (hg : w0.grownBy w' (some g)) (hle : w.heap.size ≤ g) : Below w.heap.size w w' :=
  h.grown hg h.size (fun k e => by cases e; exact hle)
end Go.Proofs.Ytadpjkghfgnbbaa.Draw
