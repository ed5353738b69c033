/- The steps of an exact law over slices of numbers, each as a change of the world that keeps what is owned. -/
import Derived.Test.YtaamjnpknmimmaaIMark
namespace Go.Proofs.Ytaamjnpknmimmaa.Own
open Go.RowKit Go.Proofs.Ytaamjnpknmimmaa.Mem
section
variable {w w' : World} {b b2 size size2 n n2 : Nat} {e e2 : TypeId} {u v : Value} {xs ys : List Value}
/-- two values lie in different blocks -/
def Apart (u v : Value) : Prop := ∀ k, u.ownBlock = some k → v.ownBlock ≠ some k
theorem Apart.symm (h : Apart u v) : Apart v u := fun k hk hu => h k hu hk
theorem own_below (h : w.ownsRow b e size v n xs) (hb : Below w.heap.size w w') : w'.ownsRow b e size v n xs :=
  h.kept (grown_of_below hb none) (by cases v.ownBlock <;> simp)
theorem own_apart (h : w.ownsRow b e size v n xs) (hg : w.grownBy w' u.ownBlock) (ha : Apart u v) : w'.ownsRow b e size v n xs := by
  refine h.kept hg ?_
  cases hv : v.ownBlock with
  | none => left; rfl
  | some k => right; intro e; exact ha k e.symm hv
theorem apart_new (hu : w.ownsRow b e size u n xs) (hv : w'.ownsRow w.heap.size e2 size2 v n2 ys) : Apart u v := by
  intro k hk hv'
  have h1 := (hu.lt k hk).2
  have h2 := (hv.lt k hv').1
  omega
theorem own_reads {A : Option Addr} {c : Nat} (h : w.ownsRow b e size (.slice A n c) n xs) : Reads w w.heap.size size A n xs := Reads.of_own h
theorem below_drewN (w : World) (j : Nat) : Below w.heap.size w (w.drewN j) := ⟨rfl, rfl, rfl, Nat.le_refl _, fun _ _ => rfl⟩
theorem own_cap {A : Option Addr} {c : Nat} (h : w.ownsRow b e size (.slice A n c) n xs) : A = none → n = 0 ∧ c = 0 := by
  rintro rfl
  rcases h.2 with ⟨h', h0⟩ | ⟨g, cap, cur, h', _⟩
  · simp only [Value.slice.injEq] at h'
    exact ⟨h0, h'.2.2⟩
  · simp at h'
end
theorem eq_step (A A' : Option Addr) (n c c' : Nat) (xs : List Int) (w : World) (hn : n ≤ 1048576) (hx : Reads w w.heap.size 1 A n (I xs)) (hy : Reads w w.heap.size 1 A' n (I xs)) :
    Calls Try.prog 28 #[.slice A n c, .slice A' n c'] w fun e w' => e = .returned (.bool true) ∧ Below w.heap.size w w' :=
  (eqIntS_any A A' n c n c' w.heap.size xs xs w hx hy (by omega) (by omega) true (by simp)).mono fun e w' ⟨h1, j, h2⟩ => ⟨h1, by rw [h2]; exact below_drewN w j⟩
theorem mark_step (A : Option Addr) (n c b k0 : Nat) (K : Int) (hK : K = k0) (xs : List Value) (w : World) (hn : n ≤ 1048576) (hk1 : k0 ≤ 4294967296) (hown : w.ownsRow b 3 1 (.slice A n c) n xs) :
    Calls Try.prog 31 #[.slice A n c, .int .i64 K] w fun e w' => e = .returned (.int .i64 (K + n)) ∧ w'.ownsRow b 3 1 (.slice A n c) n (I (upFrom k0 n)) ∧ w.grownBy w' (Value.slice A n c).ownBlock := by
  subst hK
  exact markIntS_any A n c b k0 xs w hown hn hk1
theorem held_step (A : Option Addr) (n c k0 : Nat) (K : Int) (hK : K = k0) (w : World) (hn : n ≤ 1048576) (hk1 : k0 ≤ 4294967296) (hr : Reads w w.heap.size 1 A n (I (upFrom k0 n))) :
    Calls Try.prog 32 #[.slice A n c, .int .i64 K] w fun e w' => e = .returned (.int .i64 (K + n)) ∧ Below w.heap.size w w' := by
  subst hK
  exact (heldIntS_any A n c w.heap.size k0 w hr hn hk1).mono fun e w' ⟨h1, h2⟩ => ⟨h1, by rw [h2]; exact Below.refl _ _⟩
end Go.Proofs.Ytaamjnpknmimmaa.Own
