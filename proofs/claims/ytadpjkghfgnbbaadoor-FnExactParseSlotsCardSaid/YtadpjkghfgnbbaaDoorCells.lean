/- Slices of structs in memory: each element lies flat, a fixed number of plain cells. No program's text. -/
import Derived.Test.YtadpjkghfgnbbaaDoorOwn
import Derived.Deep.Slices
import Derived.Lib.SmallJoins
namespace Go.Proofs.YtadpjkghfgnbbaaDoor.Own
open Go.RowKit Go.ChangeShapes Go.WideShapes Go.Proofs.YtadpjkghfgnbbaaDoor.Mem
/-- a kind of value that lies in a fixed number of cells -/
class Cells (α : Type) where
  size : Nat
  cells : α → List Value
  len : ∀ x, (cells x).length = size
  pos : 0 < size
/-- the cells of a list of them -/
def FL {α : Type} [Cells α] : List α → List Value
  | [] => []
  | x :: xs => Cells.cells x ++ FL xs
section
variable {α : Type} [Cells α]
theorem FL_len (xs : List α) : (FL xs).length = xs.length * Cells.size α := by
  induction xs with
  | nil => simp [FL]
  | cons x xs ih => simp [FL, ih, Cells.len, Nat.add_mul]; omega
theorem FL_append (xs ys : List α) : FL (xs ++ ys) = FL xs ++ FL ys := by
  induction xs with
  | nil => simp [FL]
  | cons x xs ih => simp [FL, ih, List.append_assoc]
theorem FL_one (x : α) : FL [x] = Cells.cells x := by simp [FL]
theorem FL_at {xs : List α} {k i : Nat} {x : α} {v : Value} (h : xs[k]? = some x) (hi : (Cells.cells x)[i]? = some v) : (FL xs)[k * Cells.size α + i]? = some v := by
  induction xs generalizing k with
  | nil => simp at h
  | cons y ys ih =>
    cases k with
    | zero =>
      simp at h
      subst h
      have hl : i < (Cells.cells y).length := (List.getElem?_eq_some_iff.1 hi).1
      simp only [FL, Nat.zero_mul, Nat.zero_add]
      rw [List.getElem?_append_left hl, hi]
    | succ k =>
      simp at h
      simp only [FL]
      rw [List.getElem?_append_right (by rw [Cells.len, Nat.succ_mul]; omega), Cells.len, Nat.succ_mul, show k * Cells.size α + Cells.size α + i - Cells.size α = k * Cells.size α + i by omega]
      exact ih h
theorem FL_take (xs : List α) (k : Nat) : (FL xs).take (k * Cells.size α) = FL (xs.take k) := by
  induction xs generalizing k with
  | nil => simp [FL]
  | cons y ys ih =>
    cases k with
    | zero => simp [FL]
    | succ k =>
      simp only [FL, List.take_succ_cons]
      rw [List.take_append, List.take_of_length_le (by rw [Cells.len, Nat.succ_mul]; omega), Cells.len, show (k + 1) * Cells.size α - Cells.size α = k * Cells.size α by rw [Nat.succ_mul]; omega, ih]
theorem FL_lookup {xs : List α} {j : Nat} (hj : j < xs.length * Cells.size α) : ∃ x : α, xs[j / Cells.size α]? = some x ∧ (FL xs)[j]? = (Cells.cells x)[j % Cells.size α]? ∧ j % Cells.size α < Cells.size α := by
  have hp := Cells.pos (α := α)
  have hk : j / Cells.size α < xs.length := (Nat.div_lt_iff_lt_mul hp).2 hj
  have hr := Nat.mod_lt j hp
  refine ⟨xs[j / Cells.size α], List.getElem?_eq_getElem hk, ?_, hr⟩
  obtain ⟨v, hv⟩ : ∃ v, (Cells.cells xs[j / Cells.size α])[j % Cells.size α]? = some v := ⟨_, List.getElem?_eq_getElem (show j % Cells.size α < (Cells.cells xs[j / Cells.size α]).length by rw [Cells.len]; exact hr)⟩
  have := FL_at (List.getElem?_eq_getElem hk) hv
  rw [hv, ← this]
  congr 1
  rw [Nat.mul_comm]
  exact (Nat.div_add_mod j _).symm
theorem reads_len {w : World} {B n : Nat} {A : Option Addr} {xs : List α} (h : Reads w B (Cells.size α) A n (FL xs)) : xs.length = n := by
  have := h.1
  rw [FL_len] at this
  exact Nat.eq_of_mul_eq_mul_right (Cells.pos (α := α)) this
/-- an element of a slice of them -/
theorem reads_elem {w : World} {B n k : Nat} {A : Option Addr} {xs : List α} (h : Reads w B (Cells.size α) A n (FL xs)) (hk : k < n) :
    ∃ b off x, A = some ⟨b, off, none⟩ ∧ b < B ∧ xs[k]? = some x ∧ ∀ i v, (Cells.cells x)[i]? = some v → w.cell? ⟨b, off + k * Cells.size α + i, none⟩ = some v := by
  obtain ⟨b, off, e, hb, hc⟩ := h.2 (by omega)
  have hl := reads_len h
  refine ⟨b, off, xs[k], e, hb, List.getElem?_eq_getElem (by omega), fun i v hv => ?_⟩
  have := hc _ _ (FL_at (List.getElem?_eq_getElem (by omega)) hv)
  rwa [← Nat.add_assoc] at this
end
section
variable {α : Type} [Cells α] [Inhabited α] {H : Type} {enc : TypeId × Value → H} {P : Program} {w : World}
/-- an argument that is a slice of them -/
theorem open_recs {t e : TypeId} {fuel : Nat} {cs : List Value} {y : DataW H × List MemPlace} {g : α → Prop} (ht : P.underlying t = some (.slice e)) (hc : P.cellsOf e = Cells.size α)
    (one : ∀ (fuel : Nat) (cs : List Value) (y : DataW H × List MemPlace), DataW.trod enc P w 0 (fun _ => true) true fuel e cs = some y → ∃ x : α, g x ∧ cs = Cells.cells x)
    (hf : DataW.trod enc P w 0 (fun _ => true) true fuel t cs = some y) :
    ∃ (A : Option Addr) (n c : Nat) (xs : List α), cs = [.slice A n c] ∧ n ≤ c ∧ c ≤ maxLen ∧ xs.length = n ∧ (∀ x ∈ xs, g x) ∧ Reads w w.heap.size (Cells.size α) A n (FL xs) ∧ (A = none → n = 0 ∧ c = 0) := by
  rcases Go.Deep.open_slice ht hf with ⟨rfl, _⟩ | ⟨a, len, cap, m, n, D, Pl, rfl, _, hl, hm, hmm, _, hx⟩
  · exact ⟨none, 0, 0, [], rfl, Nat.le_refl _, Nat.zero_le _, rfl, by simp, ⟨by simp [FL], fun h => absurd h (by omega)⟩, fun _ => ⟨rfl, rfl⟩⟩
  · have hlm : len ≤ m := by rw [hmm]; simpa using hl
    obtain ⟨X, hX⟩ := Go.Deep.choose_lt (α := α) (n := len) (p := fun i x => g x ∧ w.cells? 0 (a.add (i * P.cellsOf e)) (P.cellsOf e) = some (Cells.cells x)) (fun i hi => by
      obtain ⟨cs', h1, h2⟩ := hx i (by omega)
      obtain ⟨x, hg, rfl⟩ := one _ _ _ h2
      exact ⟨x, hg, h1⟩)
    refine ⟨some a, len, cap, (List.range len).map X, rfl, hl, hm, by simp, ?_, ⟨by rw [FL_len]; simp, fun hp => ?_⟩, fun h => by cases h⟩
    · intro x hx'
      obtain ⟨i, hi, rfl⟩ := List.mem_map.1 hx'
      exact (hX i (by simpa using hi)).1
    · have key : ∀ j, j < len * Cells.size α → w.cell? (a.add j) = (FL ((List.range len).map X))[j]? := by
        intro j hj
        obtain ⟨x, h1, h2, h3⟩ := FL_lookup (xs := (List.range len).map X) (j := j) (by simpa using hj)
        have hk : j / Cells.size α < len := (Nat.div_lt_iff_lt_mul (Cells.pos (α := α))).2 hj
        have h4 : x = X (j / Cells.size α) := by simpa [hk] using h1.symm
        subst h4
        obtain ⟨_, _, hcell⟩ := World.cells?_some (hX _ hk).2
        have h5 := hcell (j % Cells.size α) (by rw [hc]; exact h3)
        rw [Go.Deep.add_add, hc, Nat.mul_comm (j / Cells.size α), Nat.div_add_mod] at h5
        rw [h5, h2]
      have hp0 : 0 < len * Cells.size α := Nat.mul_pos hp (Cells.pos (α := α))
      obtain ⟨b, off, rfl, hb, hc2⟩ := add_cells (w := w) (a := a) (m := len * Cells.size α) (f := fun j => ((FL ((List.range len).map X))[j]?).getD default) (fun j hj => by
        rw [key j hj]
        have : j < (FL ((List.range len).map X)).length := by rw [FL_len]; simpa using hj
        simp [List.getElem?_eq_getElem this]) hp0
      refine ⟨b, off, rfl, hb, fun j u hu => ?_⟩
      have hj : j < len * Cells.size α := by have := (List.getElem?_eq_some_iff.1 hu).1; rw [FL_len] at this; simpa using this
      rw [hc2 j hj, hu]
      rfl
end
end Go.Proofs.YtadpjkghfgnbbaaDoor.Own
