/- Moving the last number that is no zero to the first zero: what it comes to. Nothing of the program. -/
import Derived.Test.YtlpngmcnelmpmaaFr6
namespace Go.Proofs.Ytlpngmcnelmpmaa.Fra
/-- the first place of a zero, or the length -/
def nz : List Int → Nat
  | [] => 0
  | z :: t => if z = 0 then 0 else nz t + 1
/-- one behind the last place of no zero -/
def ln : List Int → Nat
  | [] => 0
  | z :: t => if 0 < ln t then ln t + 1 else if z = 0 then 0 else 1
theorem nz_le (L : List Int) : nz L ≤ L.length := by
  induction L with
  | nil => simp [nz]
  | cons z t ih => rw [nz]; split <;> simp; omega
theorem nz_zero {L : List Int} (h : nz L < L.length) : L[nz L]? = some 0 := by
  induction L with
  | nil => simp at h
  | cons z t ih =>
    rw [nz] at h ⊢
    split
    · rename_i hz; subst hz; rfl
    · rename_i hz
      rw [if_neg hz] at h
      rw [List.getElem?_cons_succ]
      exact ih (by simpa using h)
theorem nz_before {L : List Int} {i : Nat} (h : i < nz L) : L[i]? ≠ some 0 := by
  induction L generalizing i with
  | nil => simp
  | cons z t ih =>
    rw [nz] at h
    split at h
    · omega
    · rename_i hz
      cases i with
      | zero => simpa using hz
      | succ i => rw [List.getElem?_cons_succ]; exact ih (by omega)
theorem nz_of {L : List Int} {k : Nat} (h1 : ∀ i, i < k → L[i]? ≠ some 0) (h2 : k ≤ L.length) (h3 : k < L.length → L[k]? = some 0) : nz L = k := by
  rcases Nat.lt_trichotomy (nz L) k with h | h | h
  · exact absurd (nz_zero (by omega)) (h1 _ h)
  · exact h
  · have := nz_le L
    exact absurd (h3 (by omega)) (nz_before h)
theorem ln_le (L : List Int) : ln L ≤ L.length := by
  induction L with
  | nil => simp [ln]
  | cons z t ih =>
    rw [ln]
    split
    · simp; omega
    · split <;> simp
theorem ln_after {L : List Int} {i : Nat} (h1 : ln L ≤ i) (h2 : i < L.length) : L[i]? = some 0 := by
  induction L generalizing i with
  | nil => simp at h2
  | cons z t ih =>
    rw [ln] at h1
    split at h1
    · cases i with
      | zero => omega
      | succ i => rw [List.getElem?_cons_succ]; exact ih (by omega) (by simpa using h2)
    · rename_i h0
      split at h1
      · rename_i hz
        cases i with
        | zero => simp [hz]
        | succ i => rw [List.getElem?_cons_succ]; exact ih (by omega) (by simpa using h2)
      · cases i with
        | zero => omega
        | succ i => rw [List.getElem?_cons_succ]; exact ih (by omega) (by simpa using h2)
theorem ln_last {L : List Int} {m : Nat} (h : ln L = m + 1) : m < L.length ∧ L[m]? ≠ some 0 := by
  induction L generalizing m with
  | nil => simp [ln] at h
  | cons z t ih =>
    rw [ln] at h
    split at h
    · obtain ⟨m', rfl⟩ : ∃ m', m = m' + 1 := ⟨m - 1, by omega⟩
      have := ih (m := m') (by omega)
      refine ⟨by simp; omega, ?_⟩
      rw [List.getElem?_cons_succ]
      exact this.2
    · split at h
      · omega
      · rename_i hz
        obtain rfl : m = 0 := by omega
        exact ⟨by simp, by simpa using hz⟩
theorem ln_of {L : List Int} {k : Nat} (h1 : ∀ i, k ≤ i → i < L.length → L[i]? = some 0) (h2 : k ≤ L.length) (h3 : ∀ m, k = m + 1 → L[m]? ≠ some 0) : ln L = k := by
  rcases Nat.lt_trichotomy (ln L) k with h | h | h
  · obtain ⟨m, rfl⟩ : ∃ m, k = m + 1 := ⟨k - 1, by omega⟩
    exact absurd (ln_after (by omega) (by omega)) (h3 m rfl)
  · exact h
  · obtain ⟨m, hm⟩ : ∃ m, ln L = m + 1 := ⟨ln L - 1, by omega⟩
    obtain ⟨h4, h5⟩ := ln_last hm
    exact absurd (h1 m (by omega) h4) h5
theorem ln_bound {L : List Int} {k : Nat} (h1 : ∀ i, k ≤ i → i < L.length → L[i]? = some 0) : ln L ≤ k := by
  rcases Nat.lt_or_ge k (ln L) with h | h
  · obtain ⟨m, hm⟩ : ∃ m, ln L = m + 1 := ⟨ln L - 1, by omega⟩
    obtain ⟨h4, h5⟩ := ln_last hm
    exact absurd (h1 m (by omega) h4) h5
  · exact h
/-- the owners behind a move -/
def moved (L : List Int) : List Int := (L.set (nz L) (L.getD (ln L - 1) 0)).set (ln L - 1) 0
theorem moved_len (L : List Int) : (moved L).length = L.length := by simp [moved]
theorem moved_ln {L : List Int} (h : nz L + 1 < ln L) : ln (moved L) + 1 ≤ ln L := by
  have := ln_le L
  have hb : ln (moved L) ≤ ln L - 1 := by
    refine ln_bound fun i h1 h2 => ?_
    rw [moved_len] at h2
    unfold moved
    by_cases he : ln L - 1 = i
    · rw [he, List.getElem?_set_self (by simpa using h2)]
    · rw [List.getElem?_set_ne he, List.getElem?_set_ne (by omega)]
      exact ln_after (by omega) h2
  omega
/-- the moves, flat, and the owners behind k of them, as far as there are so many -/
def comp (L : List Int) : Nat → List Int × List Int
  | 0 => ([], L)
  | k + 1 => let s := comp L k; if nz s.2 + 1 < ln s.2 then (s.1 ++ [((ln s.2 - 1 : Nat) : Int), (nz s.2 : Int)], moved s.2) else s
theorem comp_go {L M : List Int} {ps : List Int} {k : Nat} (h : comp L k = (ps, M)) (hm : nz M + 1 < ln M) : comp L (k + 1) = (ps ++ [((ln M - 1 : Nat) : Int), (nz M : Int)], moved M) := by
  rw [comp, h]
  simp only
  rw [if_pos hm]
theorem comp_stay {L M : List Int} {ps : List Int} {k : Nat} (h : comp L k = (ps, M)) (hm : ¬ nz M + 1 < ln M) (d : Nat) : comp L (k + d) = (ps, M) := by
  induction d with
  | zero => exact h
  | succ d ih =>
    rw [show k + (d + 1) = (k + d) + 1 from by omega, comp, ih]
    simp only
    rw [if_neg hm]
def CompIs (L ps M : List Int) : Prop := ∃ k, comp L k = (ps, M) ∧ ¬ nz M + 1 < ln M
theorem comp_unique {L ps M ps' M' : List Int} (h : CompIs L ps M) (h' : CompIs L ps' M') : ps = ps' ∧ M = M' := by
  obtain ⟨k, h1, h2⟩ := h
  obtain ⟨k', h1', h2'⟩ := h'
  have e1 := comp_stay h1 h2 k'
  have e2 := comp_stay h1' h2' k
  rw [Nat.add_comm, e2] at e1
  simp only [Prod.mk.injEq] at e1
  exact ⟨e1.1.symm, e1.2.symm⟩
theorem comp_len (L : List Int) (k : Nat) : (comp L k).2.length = L.length ∧ (∃ q, (comp L k).1.length = 2 * q ∧ q + ln (comp L k).2 ≤ ln L) := by
  induction k with
  | zero => exact ⟨rfl, 0, rfl, by simp [comp]⟩
  | succ k ih =>
    obtain ⟨h1, q, h2, h3⟩ := ih
    rw [comp]
    try simp only
    split
    · rename_i hm
      have := moved_ln hm
      exact ⟨by rw [moved_len]; exact h1, q + 1, by simp; omega, by show q + 1 + ln (moved (comp L k).2) ≤ ln L; omega⟩
    · exact ⟨h1, q, h2, h3⟩
theorem comp_ex (L : List Int) : ∃ ps M, CompIs L ps M := by
  have key : ∀ (d k : Nat), ln (comp L k).2 ≤ d → ∃ ps M, CompIs L ps M := by
    intro d
    induction d with
    | zero =>
      intro k h
      exact ⟨_, _, k, rfl, by omega⟩
    | succ d ih =>
      intro k h
      by_cases hm : nz (comp L k).2 + 1 < ln (comp L k).2
      · refine ih (k + 1) ?_
        have := moved_ln hm
        rw [comp_go (M := (comp L k).2) (ps := (comp L k).1) rfl hm]
        simp only
        omega
      · exact ⟨_, _, k, rfl, hm⟩
  exact key _ 0 (Nat.le_refl _)
end Go.Proofs.Ytlpngmcnelmpmaa.Fra
