/- An owned row that a sort (or another rewriting of the whole row) has gone over. No program's text. -/
import Derived.Test.YtadpjkghfgnbbaaBlk
import Derived.Lib.SortBridge
import Derived.Laws.IdiomCopy
namespace Go.Proofs.Ytadpjkghfgnbbaa.Own
open Go.RowKit Go.Proofs.Ytadpjkghfgnbbaa.Mem Go.Sort Go.Lib
def setL : List Value → Nat → List Value → List Value
  | xs, _, [] => xs
  | xs, k, y :: ys => setL (xs.set k y) (k + 1) ys
theorem setL_len (ys : List Value) : ∀ (xs : List Value) (k : Nat), (setL xs k ys).length = xs.length := by
  induction ys with
  | nil => intro xs k; rfl
  | cons y ys ih => intro xs k; rw [setL, ih, List.length_set]
theorem setL_at (ys : List Value) : ∀ (xs : List Value) (k j : Nat), k + ys.length ≤ xs.length → (setL xs k ys)[j]? = if k ≤ j ∧ j < k + ys.length then ys[j - k]? else xs[j]? := by
  induction ys with
  | nil => intro xs k j _; rw [setL, if_neg (by simp only [List.length_nil]; omega)]
  | cons y ys ih =>
    intro xs k j h
    simp only [List.length_cons] at h
    rw [setL, ih _ _ _ (by rw [List.length_set]; omega)]
    simp only [List.length_cons]
    by_cases h1 : j = k
    · subst h1
      rw [if_neg (by omega), if_pos (by omega), List.getElem?_set_self (by omega)]
      simp
    · by_cases h2 : k + 1 ≤ j ∧ j < k + 1 + ys.length
      · rw [if_pos h2, if_pos (by omega), show j - k = (j - (k + 1)) + 1 by omega, List.getElem?_cons_succ]
      · rw [if_neg h2, if_neg (by omega), List.getElem?_set_ne (by omega)]
theorem setL_all (xs ys : List Value) (h : ys.length = xs.length) : setL xs 0 ys = ys := by
  apply List.ext_getElem?
  intro j
  rw [setL_at ys xs 0 j (by omega)]
  by_cases hj : j < ys.length
  · rw [if_pos (by omega)]; rfl
  · rw [if_neg (by omega), List.getElem?_eq_none (by omega), List.getElem?_eq_none (by omega)]
theorem own_setCells {b g n c size : Nat} {e : TypeId} (ys : List Value) : ∀ {w : World} {xs : List Value} (k : Nat), w.ownsRow b e size (.slice (some ⟨g, 0, none⟩) n c) n xs →
    (w.setCells g k ys).ownsRow b e size (.slice (some ⟨g, 0, none⟩) n c) n (setL xs k ys) ∧ w.grownBy (w.setCells g k ys) (some g) := by
  induction ys with
  | nil => intro w xs k h; exact ⟨h, ⟨rfl, rfl, rfl, Nat.le_refl _, fun _ _ _ => rfl⟩⟩
  | cons y ys ih =>
    intro w xs k h
    have h1 := h.stored k y
    have h2 := ih (k + 1) h1.1
    exact ⟨h2.1, grown_trans h1.2 h2.2⟩
theorem below_grow (w : World) (os : Array Obj) : Below w.heap.size w (grow w os) :=
  ⟨rfl, rfl, rfl, by show w.heap.size ≤ (w.heap ++ os).size; rw [Array.size_append]; omega, fun _ hj => heap_grow_old w os hj⟩
theorem grown_below {a b c : World} {row : Option Nat} (h : a.grownBy b row) (k : Below b.heap.size b c) : a.grownBy c row :=
  grown_trans h (grown_of_below k row)
/-- the row behind it: as it was handed in, its cells the new ones -/
theorem own_sorted {α : Type} [Inhabited α] {enc : α → Value} {w : World} {b g n c : Nat} {e : TypeId} {xs : List Value} (h : w.ownsRow b e 1 (.slice (some ⟨g, 0, none⟩) n c) n xs) (d : Array α) (hH : Holds enc w g 0 d) (hn : d.size = n) (ys : List α) (hy : ys.length = n) (q : Nat) (os : Array Obj) :
    (grow (putRow enc (Sort.ahead w q) g 0 ys.toArray) os).ownsRow b e 1 (.slice (some ⟨g, 0, none⟩) n c) n (ys.map enc) ∧ w.grownBy (grow (putRow enc (Sort.ahead w q) g 0 ys.toArray) os) (some g) := by
  rw [putRow_eq_setCells enc w g 0 d ys q hH (by omega)]
  have h0 : (w.drewN q).ownsRow b e 1 (.slice (some ⟨g, 0, none⟩) n c) n xs := h
  have h1 := own_setCells (ys.map enc) 0 h0
  rw [setL_all _ _ (by rw [List.length_map, hy, h.1]; omega)] at h1
  have h2 := below_grow ((w.drewN q).setCells g 0 (ys.map enc)) os
  have h3 : w.grownBy ((w.drewN q).setCells g 0 (ys.map enc)) (some g) := ⟨h1.2.os, h1.2.tape, h1.2.output, h1.2.size, h1.2.block⟩
  exact ⟨own_below h1.1 h2, grown_below h3 h2⟩
/-- the cells of an owned row, as the library's words want them -/
theorem holds_of_own {α : Type} [Inhabited α] {enc : α → Value} {w : World} {b g n c : Nat} {e : TypeId} {zs : List α} (h : w.ownsRow b e 1 (.slice (some ⟨g, 0, none⟩) n c) n (zs.map enc)) : Holds enc w g 0 zs.toArray := by
  intro j hj
  have hj' : j < zs.length := by simpa using hj
  have hl := h.1
  rw [List.length_map] at hl
  rw [Nat.zero_add]
  refine ⟨?_, h.frozenAt j⟩
  rw [h.cellAt j (by omega), List.getElem?_map, List.getElem?_eq_getElem hj']
  simp [getElem!_pos, hj']
end Go.Proofs.Ytadpjkghfgnbbaa.Own
