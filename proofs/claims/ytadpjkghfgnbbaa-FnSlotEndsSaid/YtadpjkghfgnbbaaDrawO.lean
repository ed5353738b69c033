/- What is owned, beside a cursor. No program's text but the cursor. -/
import Derived.Test.YtadpjkghfgnbbaaCur0
import Derived.Test.YtadpjkghfgnbbaaStepO
import Derived.OwnWalk
namespace Go.Proofs.Ytadpjkghfgnbbaa.Draw
open Go.RowKit Go.Proofs.Ytadpjkghfgnbbaa.Mem Go.Proofs.Ytadpjkghfgnbbaa.Own
set_option linter.unusedVariables false
/-- what is owned lies apart from the cursor -/
theorem own_cur {w w' : World} {b g n size : Nat} {e : TypeId} {v : Value} {xs : List Value} (h : w.ownsRow b e size v n xs) (hg : w.grownBy w' (some g)) (hb : g < b) : w'.ownsRow b e size v n xs := by
  refine h.kept hg ?_
  cases hv : v.ownBlock with
  | none => exact .inl rfl
  | some k =>
    right
    intro e
    have := (h.lt k hv).1
    have : k = g := by injection e
    omega
theorem grown_over {w a b : World} {g : Nat} {row : Option Nat} (h : w.grownBy a (some g)) (k : a.grownBy b row) (hr : ∀ r, row = some r → w.heap.size ≤ r) : w.grownBy b (some g) :=
  ⟨k.os.trans h.os, k.tape.trans h.tape, k.output.trans h.output, Nat.le_trans h.size k.size, fun i hi hne => (k.block i (Nat.lt_of_lt_of_le hi h.size) (fun e => by have := hr i e.symm; omega)).trans (h.block i hi hne)⟩
end Go.Proofs.Ytadpjkghfgnbbaa.Draw
