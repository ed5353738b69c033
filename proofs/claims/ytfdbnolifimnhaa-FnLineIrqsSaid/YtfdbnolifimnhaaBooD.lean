/- Slices of bools: as data, as the laws' arguments, opened. -/
import Derived.Test.YtfdbnolifimnhaaRows
import Derived.Test.YtfdbnolifimnhaaCells
import Derived.Deep.Fields
import Derived.ChangeSame
namespace Go.Proofs.Ytfdbnolifimnhaa.Own
open Go Go.RowKit Go.ChangeShapes Go.WideShapes Go.Deep Go.Joins Go.Proofs.Ytfdbnolifimnhaa.Mem
instance : Cells Bool where
  size := 1
  cells x := [.bool x]
  len _ := rfl
  pos := by decide
theorem FLb_map (xs : List Bool) : FL xs = xs.map Value.bool := by
  induction xs with
  | nil => rfl
  | cons x xs ih => simp [FL, Cells.cells, ih]
theorem FLb_len (xs : List Bool) : (FL xs).length = xs.length := by simp [FLb_map]
theorem FLb_at {xs : List Bool} {k : Nat} {x : Bool} (h : xs[k]? = some x) : (FL xs)[k]? = some (.bool x) := by simp [FLb_map, h]
theorem bool_at {w : World} {B n k : Nat} {A : Option Addr} {xs : List Bool} (h : Reads w B 1 A n (FL xs)) (hk : k < n) :
    ∃ b off x, A = some ⟨b, off, none⟩ ∧ b < B ∧ xs[k]? = some x ∧ w.cell? ⟨b, off + k, none⟩ = some (.bool x) := by
  obtain ⟨b, off, x, h1, h2, h3, h4⟩ := reads_elem (α := Bool) h hk
  refine ⟨b, off, x, h1, h2, h3, ?_⟩
  have := h4 0 _ rfl
  simpa [Cells.size] using this
theorem boolInfo : (Try.prog.info? 4).map (fun i => (i.zero, i.size, i.bytes)) = some (some (.bool false), 1, 1) := by kernel_rfl
theorem cellsOfBool : Try.prog.cellsOf 4 = 1 := by kernel_rfl
section
variable {H : Type} {enc : TypeId × Value → H} {w : World}
set_option maxRecDepth 100000 in
theorem open_bools {base : Nat} {v : Value} {d : DataW H} {p : List MemPlace} (q : Value.okWide Try.prog w .any base 67 v) (h : DataW.Trod enc Try.prog w 0 (fun _ => true) true 67 v d p) :
    ∃ (A : Option Addr) (n c : Nat) (xs : List Bool), v = .slice A n c ∧ n ≤ maxLen ∧ Reads w w.heap.size 1 A n (FL xs) := by
  obtain ⟨a, len, cap, rfl⟩ := okWide_slice Try.underlying67 q
  obtain ⟨fuel, hf⟩ := h
  obtain ⟨A, n, c, xs, hcs, h1, h2, _, _, hr, _⟩ := open_recs (α := Bool) (g := fun _ => True) Try.underlying67 cellsOfBool (fun fuel cs y h => by
    obtain ⟨a0, e0, _⟩ := DataW.trod_bool Try.underlying4 h
    exact ⟨a0, trivial, e0⟩) hf
  have h3 : a = A ∧ len = n ∧ cap = c := by simpa [Value.cells] using hcs
  obtain ⟨rfl, rfl, rfl⟩ := h3
  exact ⟨_, _, _, xs, rfl, Nat.le_trans h1 h2, hr⟩
end
end Go.Proofs.Ytfdbnolifimnhaa.Own
