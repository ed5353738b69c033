/- The answers of chapter 7's calls that hand back lines. -/
import Derived.Test.YtfdbnolifimnhaaLnQ
import Derived.Test.YtfdbnolifimnhaaRow
namespace Go.Proofs.Ytfdbnolifimnhaa.L7
open Go Go.RowKit Go.Proofs.Ytfdbnolifimnhaa.Mem Go.Proofs.Ytfdbnolifimnhaa.Own
/-- the answer of a call that hands back lines of its own, and whether it did -/
def ListPost (w : World) (l : List Lin) (b : Bool) (e : Ending) (w' : World) : Prop :=
  ∃ A' c', e = .returned (.tuple #[.slice A' l.length c', .bool b]) ∧ w'.ownsRow w.heap.size 58 4 (.slice A' l.length c') l.length (FL l) ∧ Below w.heap.size w w'
/-- and a number -/
def CntPost (w : World) (l : List Lin) (z : Int) (b : Bool) (e : Ending) (w' : World) : Prop :=
  ∃ A' c', e = .returned (.tuple #[.slice A' l.length c', .int .i64 z, .bool b]) ∧ w'.ownsRow w.heap.size 58 4 (.slice A' l.length c') l.length (FL l) ∧ Below w.heap.size w w'
theorem listPost_of {w w' : World} {l : List Lin} {A : Option Addr} {n cc : Nat} {b : Bool} (hl : l.length = n) (ho : w'.ownsRow w.heap.size 58 4 (.slice A n cc) n (FL l)) (hb : Below w.heap.size w w') : ListPost w l b (.returned (.tuple #[.slice A n cc, .bool b])) w' := by
  subst hl
  exact ⟨_, cc, rfl, ho, hb⟩
theorem cntPost_of {w w' : World} {l : List Lin} {A : Option Addr} {n cc : Nat} {z : Int} {b : Bool} (hl : l.length = n) (ho : w'.ownsRow w.heap.size 58 4 (.slice A n cc) n (FL l)) (hb : Below w.heap.size w w') : CntPost w l z b (.returned (.tuple #[.slice A n cc, .int .i64 z, .bool b])) w' := by
  subst hl
  exact ⟨_, cc, rfl, ho, hb⟩
theorem tlK_skip {xs : List Lin} {x : Lin} {i : Int} {k : Nat} (hx : xs[k]? = some x) (hj : x.iq ≠ i) : tlK xs i (k + 1) = tlK xs i k := by
  rw [tlK_succ hx, if_neg hj]
  refine List.ext_getElem? fun a => ?_
  rw [List.getElem?_set]
  split
  · rename_i h1
    subst h1
    rw [tlK_at hx]
    split
    · rfl
    · rename_i h2
      rw [tlK_len] at h2
      exact absurd (List.getElem?_eq_some_iff.1 hx).1 h2
  · rfl
theorem none_zero {w : World} {B s n : Nat} {A : Option Addr} {xs : List Value} (h : Reads w B s A n xs) (e : A = none) : n = 0 ∧ n = 0 := by
  rcases Nat.eq_zero_or_pos n with h0 | h0
  · exact ⟨h0, h0⟩
  · obtain ⟨_, _, e2, _⟩ := h.2 h0
    rw [e] at e2
    cases e2
theorem set_same {xs : List Lin} {x : Lin} {k : Nat} (hx : xs[k]? = some x) : xs.set k x = xs := by
  refine List.ext_getElem? fun a => ?_
  rw [List.getElem?_set]
  split
  · rename_i h1
    subst h1
    rw [hx, if_pos (List.getElem?_eq_some_iff.1 hx).1]
  · rfl
end Go.Proofs.Ytfdbnolifimnhaa.L7
