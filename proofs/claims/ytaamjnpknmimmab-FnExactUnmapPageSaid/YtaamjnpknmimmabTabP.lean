/- Two ways to say which tables are valid. No program's text. -/
import Derived.Test.YtaamjnpknmimmabTab
namespace Go.Proofs.Ytaamjnpknmimmab.L4
open Go
def sumTo (g : Nat → Nat) : Nat → Nat
  | 0 => 0
  | m + 1 => sumTo g m + g m
theorem sumTo_congr {g h : Nat → Nat} {m : Nat} (e : ∀ i, i < m → g i = h i) : sumTo g m = sumTo h m := by
  induction m with
  | zero => rfl
  | succ m ih => rw [sumTo, sumTo, ih fun i hi => e i (by omega), e m (by omega)]
theorem sumTo_same {g h : Nat → Nat} {m k : Nat} (e : ∀ i, i ≠ k → h i = g i) (ek : h k = g k + 1) : sumTo h m = sumTo g m + if k < m then 1 else 0 := by
  induction m with
  | zero => rfl
  | succ m ih =>
    rw [sumTo, sumTo, ih]
    by_cases hk : k = m
    · subst hk
      rw [ek]
      simp
      omega
    · rw [e m (by omega)]
      by_cases h2 : k < m
      · simp [h2, show k < m + 1 by omega]; omega
      · simp [h2, show ¬ k < m + 1 by omega]
theorem sumTo_one {g : Nat → Nat} {m : Nat} (e : ∀ i, i < m → g i = 1) : sumTo g m = m := by
  induction m with
  | zero => rfl
  | succ m ih => rw [sumTo, ih fun i hi => e i (by omega), e m (by omega)]
theorem sumTo_le {g : Nat → Nat} {m : Nat} (e : ∀ i, i < m → g i ≤ 1) : sumTo g m ≤ m := by
  induction m with
  | zero => exact Nat.le_refl _
  | succ m ih =>
    have := ih fun i hi => e i (by omega)
    have := e m (by omega)
    rw [sumTo]
    omega
theorem one_of_sumTo {g : Nat → Nat} {m : Nat} (e : ∀ i, i < m → g i ≤ 1) (h : sumTo g m = m) : ∀ i, i < m → g i = 1 := by
  induction m with
  | zero => intro i hi; omega
  | succ m ih =>
    have h1 := sumTo_le (m := m) fun i hi => e i (by omega)
    have h2 := e m (by omega)
    rw [sumTo] at h
    intro i hi
    by_cases hm : i = m
    · subst hm; omega
    · exact ih (fun i hi => e i (by omega)) (by omega) i (by omega)
/-- how many directories have a leaf -/
def used : List Int → Nat
  | [] => 0
  | d :: ds => (if d = -1 then 0 else 1) + used ds
theorem used_append (xs ys : List Int) : used (xs ++ ys) = used xs + used ys := by
  induction xs with
  | nil => simp [used]
  | cons x xs ih => simp [used, ih]; omega
theorem used_take {ds : List Int} {k : Nat} {d : Int} (h : ds[k]? = some d) : used (ds.take (k + 1)) = used (ds.take k) + if d = -1 then 0 else 1 := by
  rw [List.take_add_one, h, used_append]
  simp [used]
theorem used_sum {ds : List Int} {m : Nat} (h : ∀ d ∈ ds, OkD d m) : used ds = sumTo (fun i => ds.count (i : Int)) m := by
  induction ds with
  | nil => exact (by induction m with
      | zero => rfl
      | succ m ih => rw [sumTo, ← ih (by simp)]; simp [used] : used [] = sumTo (fun i => ([] : List Int).count (i : Int)) m)
  | cons d ds ih =>
    have h' := ih fun x hx => h x (List.mem_cons_of_mem _ hx)
    rw [used, h']
    rcases h d (List.mem_cons_self ..) with hd | hd
    · rw [if_pos hd, Nat.zero_add]
      exact sumTo_congr fun i _ => by rw [List.count_cons_of_ne (by omega)]
    · rw [if_neg (by omega), sumTo_same (g := fun i => ds.count (i : Int)) (h := fun i => (d :: ds).count (i : Int)) (k := d.toNat) (fun i hi => List.count_cons_of_ne (by omega)) (by rw [show ((d.toNat : Nat) : Int) = d by omega, List.count_cons_self]), if_pos (by omega)]
      omega
theorem count_take {ds : List Int} {k : Nat} {d x : Int} (h : ds[k]? = some d) : (ds.take (k + 1)).count x = (ds.take k).count x + if d = x then 1 else 0 := by
  rw [List.take_add_one, h, List.count_append]
  by_cases e : d = x
  · subst e; simp
  · simp [e, List.count_cons_of_ne]
theorem count_le {ds : List Int} {x : Int} (hx : x ≠ -1) (h : ∀ (k : Nat) (d : Int), ds[k]? = some d → d ≠ -1 → d ∉ ds.take k) : ∀ k, k ≤ ds.length → (ds.take k).count x ≤ 1
  | 0, _ => by simp
  | k + 1, hk => by
    have ih := count_le hx h k (by omega)
    have hd : ds[k]? = some ds[k] := List.getElem?_eq_getElem (by omega)
    rw [count_take hd]
    by_cases e : ds[k] = x
    · rw [if_pos e]
      have := h k _ hd (by rw [e]; exact hx)
      rw [e] at this
      rw [List.count_eq_zero_of_not_mem this]
      omega
    · rw [if_neg e]; exact ih
/-- as the model says it -/
def Good (t : Tab) : Prop := t.dirs.length = 4 ∧ t.leaves.length ≤ 4 ∧ (∀ (k : Nat) (d : Int), t.dirs[k]? = some d → d ≠ -1 → (0 ≤ d ∧ d < t.leaves.length) ∧ d ∉ t.dirs.take k) ∧ (∀ l ∈ t.leaves, OkL l) ∧ used t.dirs = t.leaves.length
theorem used_le (ds : List Int) : used ds ≤ ds.length := by
  induction ds with
  | nil => simp [used]
  | cons d ds ih => simp only [used, List.length_cons]; split <;> omega
theorem good_iff (t : Tab) : OkT t ↔ Good t := by
  constructor
  · rintro ⟨h1, h2, h3⟩
    have hu : used t.dirs = t.leaves.length := by rw [used_sum h2]; exact sumTo_one fun i hi => (h3 i hi).1
    refine ⟨h1, by have := used_le t.dirs; omega, fun k d hk hd => ?_, fun l hl => ?_, hu⟩
    · have hb : 0 ≤ d ∧ d < t.leaves.length := (h2 d (List.mem_of_getElem? hk)).resolve_left hd
      refine ⟨hb, fun hm => ?_⟩
      have c1 := (h3 d.toNat (by omega)).1
      rw [show ((d.toNat : Nat) : Int) = d by omega] at c1
      have c2 := count_take (x := d) hk
      rw [if_pos rfl] at c2
      have c3 := List.count_pos_iff.2 hm
      have c4 := (List.take_sublist (k + 1) t.dirs).count_le d
      omega
    · obtain ⟨i, hi, rfl⟩ := List.getElem_of_mem hl
      have := (h3 i hi).2
      rwa [List.getD, List.getElem?_eq_getElem hi] at this
  · rintro ⟨h1, h2, h3, h4, h5⟩
    have hok : ∀ d ∈ t.dirs, OkD d t.leaves.length := by
      intro d hd
      obtain ⟨k, hk, rfl⟩ := List.getElem_of_mem hd
      by_cases e : t.dirs[k] = -1
      · exact .inl e
      · exact .inr (h3 k _ (List.getElem?_eq_getElem hk) e).1
    refine ⟨h1, hok, fun i hi => ⟨?_, ?_⟩⟩
    · refine one_of_sumTo (g := fun i => t.dirs.count (i : Int)) (m := t.leaves.length) (fun i hi => ?_) (by rw [← used_sum hok, h5]) i hi
      have := count_le (ds := t.dirs) (x := (i : Int)) (by omega) (fun k d hk hd => (h3 k d hk hd).2) t.dirs.length (Nat.le_refl _)
      rwa [List.take_length] at this
    · rw [List.getD, List.getElem?_eq_getElem hi]
      exact h4 _ (List.getElem_mem hi)
instance (t : Tab) : Decidable (Good t) := decidable_of_iff _ (good_iff t)
end Go.Proofs.Ytaamjnpknmimmab.L4
