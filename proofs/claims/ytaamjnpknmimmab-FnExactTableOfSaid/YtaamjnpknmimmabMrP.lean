/- Pages mapped one after the other: the pure part. -/
import Derived.Test.YtaamjnpknmimmabMapB
namespace Go.Proofs.Ytaamjnpknmimmab.L4
open Go Go.RowKit Go.Proofs.Ytaamjnpknmimmab.Mem Go.Proofs.Ytaamjnpknmimmab.Own Go.Proofs.Ytaamjnpknmimmab.L1
/-- a table behind some successful calls of MapPage -/
def mapN (t : Tab) (page frame : Int) (wr : Bool) : Nat → Option Tab
  | 0 => some t
  | k + 1 => match mapN t page frame wr k with
    | none => none
    | some T => if CanM T (page + k) (frame + k) then some (mapOf T (page + k) (frame + k) wr).1 else none
def runOf (t : Tab) (page frame count : Int) (wr : Bool) : Tab × Bool :=
  if OkT t ∧ 1 ≤ count ∧ count ≤ 16 then match mapN t page frame wr count.toNat with
    | some T => (T, true)
    | none => (noTab, false)
  else (noTab, false)
theorem mapOf_yes {t : Tab} {p f : Int} {wr : Bool} (h : CanM t p f) : mapOf t p f wr = ((mapOf t p f wr).1, true) := by unfold mapOf; rw [if_pos h]
theorem mapOf_no {t : Tab} {p f : Int} {wr : Bool} (h : ¬ CanM t p f) : mapOf t p f wr = (noTab, false) := by unfold mapOf; rw [if_neg h]
theorem mapN_succ {t : Tab} {p f : Int} {wr : Bool} {k : Nat} {T : Tab} (h : mapN t p f wr k = some T) (hc : CanM T (p + k) (f + k)) : mapN t p f wr (k + 1) = some (mapOf T (p + k) (f + k) wr).1 := by
  simp only [mapN, h]
  rw [if_pos hc]
theorem mapN_stop {t : Tab} {p f : Int} {wr : Bool} {k : Nat} {T : Tab} (h : mapN t p f wr k = some T) (hc : ¬ CanM T (p + k) (f + k)) : mapN t p f wr (k + 1) = none := by
  simp only [mapN, h]
  rw [if_neg hc]
theorem mapN_none {t : Tab} {p f : Int} {wr : Bool} {k : Nat} (h : mapN t p f wr k = none) : ∀ j, k ≤ j → mapN t p f wr j = none := by
  intro j hj
  induction j with
  | zero => rw [show k = 0 by omega] at h; exact h
  | succ j ih =>
    by_cases e : k = j + 1
    · rw [← e]; exact h
    · simp only [mapN, ih (by omega)]
/-- what is known behind k successful calls -/
theorem mapN_can {t : Tab} {p f : Int} {wr : Bool} {k : Nat} {T : Tab} (h : mapN t p f wr (k + 1) = some T) : ∃ T0, mapN t p f wr k = some T0 ∧ CanM T0 (p + k) (f + k) ∧ T = (mapOf T0 (p + k) (f + k) wr).1 := by
  simp only [mapN] at h
  split at h
  · cases h
  · rename_i T0 h0
    split at h
    · rename_i hc
      exact ⟨T0, h0, hc, (Option.some.inj h).symm⟩
    · cases h
theorem mapN_first {t : Tab} {p f : Int} {wr : Bool} {k : Nat} {T : Tab} (hk : 0 < k) (h : mapN t p f wr k = some T) : OkT t ∧ 0 ≤ p ∧ p + k ≤ 16 ∧ 0 ≤ f ∧ f + k ≤ 16 := by
  induction k generalizing T with
  | zero => omega
  | succ k ih =>
    obtain ⟨T0, h0, hc, _⟩ := mapN_can h
    by_cases e : k = 0
    · subst e
      simp only [mapN, Option.some.injEq] at h0
      subst h0
      exact ⟨hc.1, by have := hc.2.1.1; simpa using this, by have := hc.2.1.2; simp at this ⊢; omega, by have := hc.2.2.1.1; simpa using this, by have := hc.2.2.1.2; simp at this ⊢; omega⟩
    · obtain ⟨g1, g2, _, g4, _⟩ := ih (by omega) h0
      have a := hc.2.1.2
      have b := hc.2.2.1.2
      exact ⟨g1, g2, by push_cast; omega, g4, by push_cast; omega⟩
def Small (T : Tab) : Prop := T.dirs.length ≤ 1048576 ∧ T.leaves.length ≤ 1048576 ∧ tot T.leaves ≤ 1048576
theorem Small.leaf {T : Tab} (h : Small T) : ∀ xs ∈ T.leaves, xs.length ≤ 1048576 := fun xs hx => by have := len_le_tot hx; have := h.2.2; omega
theorem tot_four {xss : List (List Ent)} (h : ∀ xs ∈ xss, xs.length = 4) : tot xss = 4 * xss.length := by
  induction xss with
  | nil => rfl
  | cons x xss ih =>
    have h1 := h x (List.mem_cons_self ..)
    have h2 := ih fun y hy => h y (List.mem_cons_of_mem _ hy)
    simp only [tot, List.map_cons, List.sum_cons, List.length_cons] at h2 ⊢
    omega
theorem ok_small {t : Tab} (h : OkT t) : t.dirs.length = 4 ∧ t.leaves.length ≤ 4 ∧ tot t.leaves ≤ 16 := by
  have hg := (good_iff t).1 h
  have h4 := tot_four fun xs hx => (hg.2.2.2.1 xs hx).1
  exact ⟨hg.1, hg.2.1, by have := hg.2.1; omega⟩
theorem map_small {T : Tab} {p f : Int} {wr : Bool} (h : CanM T p f) : Small (mapOf T p f wr).1 := by
  obtain ⟨h1, h2, h3⟩ := ok_small h.1
  exact mapOf_sizes (mapOf_yes (wr := wr) h) (by omega)
theorem small_none : Small noTab := ⟨by decide, by decide, by decide⟩
theorem runOf_small {t : Tab} {p f c : Int} {wr b : Bool} {T : Tab} (h : runOf t p f c wr = (T, b)) : Small T := by
  unfold runOf at h
  split at h
  · rename_i hc
    split at h
    · rename_i T0 hT
      obtain rfl := congrArg Prod.fst h
      obtain ⟨k, hk⟩ : ∃ k, c.toNat = k + 1 := ⟨c.toNat - 1, by omega⟩
      rw [hk] at hT
      obtain ⟨T1, _, hc1, e⟩ := mapN_can hT
      simp only
      rw [e]
      exact map_small hc1
    · obtain rfl := congrArg Prod.fst h
      exact small_none
  · obtain rfl := congrArg Prod.fst h
    exact small_none
end Go.Proofs.Ytaamjnpknmimmab.L4
