/- Owned rows and worlds that change, as steps. No program's text. -/
import Derived.Test.YtadpjkghfgnbbaaDoorOwn
import Derived.Lib.Hide
import Derived.Test.YtadpjkghfgnbbaaDoorRows
import Derived.Deep.QuietTactic
import Derived.BigQuiet
import Derived.Outline
namespace Go.Proofs.YtadpjkghfgnbbaaDoor.Own
open Go.RowKit Go.Proofs.YtadpjkghfgnbbaaDoor.Mem
section
variable {w w' : World} {b b2 size size2 n n2 : Nat} {e e2 : TypeId} {u v : Value} {xs ys : List Value}
/-- two values lie in different blocks -/
def Apart (u v : Value) : Prop := ∀ k, u.ownBlock = some k → v.ownBlock ≠ some k
theorem Apart.symm (h : Apart u v) : Apart v u := fun k hk hu => h k hu hk
theorem own_below (h : w.ownsRow b e size v n xs) (hb : Below w.heap.size w w') : w'.ownsRow b e size v n xs :=
  h.kept (grown_of_below hb none) (by cases v.ownBlock <;> simp)
theorem own_apart (h : w.ownsRow b e size v n xs) (hg : w.grownBy w' u.ownBlock) (ha : Apart u v) : w'.ownsRow b e size v n xs := by
  refine h.kept hg ?_
  cases hv : v.ownBlock with
  | none => left; rfl
  | some k => right; intro e; exact ha k e.symm hv
theorem apart_new (hu : w.ownsRow b e size u n xs) (hv : w'.ownsRow w.heap.size e2 size2 v n2 ys) : Apart u v := by
  intro k hk hv'
  have h1 := (hu.lt k hk).2
  have h2 := (hv.lt k hv').1
  omega
theorem own_reads {A : Option Addr} {c : Nat} (h : w.ownsRow b e size (.slice A n c) n xs) : Reads w w.heap.size size A n xs := Reads.of_own h
theorem below_drewN (w : World) (j : Nat) : Below w.heap.size w (w.drewN j) := ⟨rfl, rfl, rfl, Nat.le_refl _, fun _ _ => rfl⟩
theorem own_cap {A : Option Addr} {c : Nat} (h : w.ownsRow b e size (.slice A n c) n xs) : A = none → n = 0 ∧ c = 0 := by
  rintro rfl
  rcases h.2 with ⟨h', h0⟩ | ⟨g, cap, cur, h', _⟩
  · simp only [Value.slice.injEq] at h'
    exact ⟨h0, h'.2.2⟩
  · simp at h'
end
end Go.Proofs.YtadpjkghfgnbbaaDoor.Own
