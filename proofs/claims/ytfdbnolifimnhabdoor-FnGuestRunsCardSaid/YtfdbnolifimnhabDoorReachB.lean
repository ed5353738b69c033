/- ReachedBy by a stack and marks: as data. No program's text. -/
import Derived.Test.YtfdbnolifimnhabDoorReachQ
namespace Go.Proofs.YtfdbnolifimnhabDoor.L3
/-- the indices below k that are marked -/
def ix (R : List Bool) : Nat → List Int
  | 0 => []
  | k + 1 => if R[k]? = some true then ix R k ++ [(k : Int)] else ix R k
theorem ix_hit {R : List Bool} {k : Nat} (h : R[k]? = some true) : ix R (k + 1) = ix R k ++ [(k : Int)] := by rw [ix, if_pos h]
theorem ix_miss {R : List Bool} {k : Nat} (h : R[k]? = some false) : ix R (k + 1) = ix R k := by rw [ix, if_neg (by rw [h]; decide)]
theorem ix_len (R : List Bool) (k : Nat) : (ix R k).length ≤ k := by
  induction k with
  | zero => simp [ix]
  | succ k ih =>
    rw [ix]
    split
    · simp; omega
    · omega
theorem ix_mem (R : List Bool) (k : Nat) (z : Int) : z ∈ ix R k ↔ ∃ i : Nat, i < k ∧ z = i ∧ R[i]? = some true := by
  induction k with
  | zero => simp [ix]
  | succ k ih =>
    rw [ix]
    split
    · rename_i h
      rw [List.mem_append, ih, List.mem_singleton]
      constructor
      · rintro (⟨i, h1, h2, h3⟩ | rfl)
        · exact ⟨i, by omega, h2, h3⟩
        · exact ⟨k, by omega, rfl, h⟩
      · rintro ⟨i, h1, h2, h3⟩
        by_cases e : i = k
        · subst e; exact .inr h2
        · exact .inl ⟨i, by omega, h2, h3⟩
    · rename_i h
      rw [ih]
      constructor
      · rintro ⟨i, h1, h2, h3⟩
        exact ⟨i, by omega, h2, h3⟩
      · rintro ⟨i, h1, h2, h3⟩
        by_cases e : i = k
        · subst e; exact absurd h3 h
        · exact ⟨i, by omega, h2, h3⟩
theorem ix_rise (R : List Bool) (k : Nat) : (ix R k).Pairwise (· < ·) := by
  induction k with
  | zero => simp [ix]
  | succ k ih =>
    rw [ix]
    split
    · rw [List.pairwise_append]
      refine ⟨ih, List.pairwise_singleton _ _, fun a ha b hb => ?_⟩
      obtain ⟨i, h1, rfl, _⟩ := (ix_mem R k a).1 ha
      rw [List.mem_singleton] at hb
      subst hb
      omega
    · exact ih
/-- what holds of the marks and the stack -/
structure Stk (xs : List Ins) (R : List Bool) (O : List Int) : Prop where
  len : R.length = xs.length
  marks : ∀ i : Nat, R[i]? = some true → Reach xs i
  stack : ∀ z ∈ O, 0 ≤ z ∧ (z < xs.length → Reach xs z.toNat)
  zero : R[0]? = some true ∨ (0 : Int) ∈ O
  shut : ∀ i : Nat, R[i]? = some true → ∀ j : Nat, (j : Int) ∈ ways xs i → j < xs.length → R[j]? = some true ∨ (j : Int) ∈ O
theorem Stk.start (xs : List Ins) : Stk xs (List.replicate xs.length false) [0] :=
  ⟨by simp, fun i h => by rw [List.getElem?_replicate] at h; split at h <;> simp at h,
   fun z hz => by rw [List.mem_singleton] at hz; subst hz; exact ⟨by omega, fun _ => .zero⟩,
   .inr (by simp), fun i h => by rw [List.getElem?_replicate] at h; split at h <;> simp at h⟩
theorem Stk.skip {xs : List Ins} {R : List Bool} {O : List Int} {z : Int} (h : Stk xs R (O ++ [z])) (hz : ∀ j : Nat, z = j → j < xs.length → R[j]? = some true) (hp : 0 < xs.length) : Stk xs R O := by
  refine ⟨h.len, h.marks, fun y hy => h.stack y (by simp [hy]), ?_, fun i hi j hj hl => ?_⟩
  · rcases h.zero with h1 | h1
    · exact .inl h1
    · rcases List.mem_append.1 h1 with h1 | h1
      · exact .inr h1
      · rw [List.mem_singleton] at h1
        exact .inl (hz 0 (by omega) hp)
  · rcases h.shut i hi j hj hl with h1 | h1
    · exact .inl h1
    · rcases List.mem_append.1 h1 with h1 | h1
      · exact .inr h1
      · rw [List.mem_singleton] at h1
        exact .inl (hz j h1.symm hl)
theorem Stk.mark {xs : List Ins} {R : List Bool} {O : List Int} {k : Nat} (h : Stk xs R (O ++ [(k : Int)])) (hk : k < xs.length) (ho : OkP xs) : Stk xs (R.set k true) (O ++ ways xs k) := by
  have hr : Reach xs k := by
    have h1 := (h.stack k (by simp)).2 (by omega)
    rwa [Int.toNat_natCast] at h1
  have hs : ∀ i : Nat, (R.set k true)[i]? = some true ↔ i = k ∨ R[i]? = some true := by
    intro i
    rw [List.getElem?_set]
    split
    · rename_i e
      subst e
      rw [if_pos (by rw [h.len]; exact hk)]
      simp
    · rename_i e
      constructor
      · exact .inr
      · rintro (rfl | h1)
        · exact absurd rfl e
        · exact h1
  refine ⟨by rw [List.length_set, h.len], fun i hi => ?_, fun z hz => ?_, ?_, fun i hi j hj hl => ?_⟩
  · rcases (hs i).1 hi with rfl | h1
    · exact hr
    · exact h.marks i h1
  · rcases List.mem_append.1 hz with h1 | h1
    · exact h.stack z (by simp [h1])
    · have h2 := ways_nonneg ho h1
      exact ⟨h2, fun hl => .step hr (by rw [Int.toNat_of_nonneg h2]; exact h1) (by omega)⟩
  · rcases h.zero with h1 | h1
    · exact .inl ((hs 0).2 (.inr h1))
    · rcases List.mem_append.1 h1 with h1 | h1
      · exact .inr (by simp [h1])
      · rw [List.mem_singleton] at h1
        exact .inl ((hs 0).2 (.inl (by omega)))
  · rcases (hs i).1 hi with rfl | h1
    · exact .inr (List.mem_append.2 (.inr hj))
    · rcases h.shut i h1 j hj hl with h2 | h2
      · exact .inl ((hs j).2 (.inr h2))
      · rcases List.mem_append.1 h2 with h2 | h2
        · exact .inr (by simp [h2])
        · rw [List.mem_singleton] at h2
          exact .inl ((hs j).2 (.inl (by omega)))
theorem Stk.done {xs : List Ins} {R : List Bool} (h : Stk xs R []) (hp : 0 < xs.length) : IsReach xs (ix R xs.length) := by
  refine ⟨ix_rise _ _, fun z => ?_⟩
  rw [ix_mem]
  constructor
  · rintro ⟨i, h1, rfl, h2⟩
    exact ⟨i, rfl, h.marks i h2⟩
  · rintro ⟨i, rfl, hi⟩
    refine ⟨i, reach_lt hp hi, rfl, ?_⟩
    refine reach_in (S := fun i => R[i]? = some true) (h.zero.resolve_right (by simp)) (fun i hi j hj hl => (h.shut i hi j hj hl).resolve_right (by simp)) hi
/-- how many are not marked -/
def un : List Bool → Nat
  | [] => 0
  | b :: R => (if b = true then 0 else 1) + un R
theorem un_rep (n : Nat) : un (List.replicate n false) = n := by
  induction n with
  | zero => rfl
  | succ n ih => rw [List.replicate_succ, un, ih]; simp; omega
theorem un_set {R : List Bool} {k : Nat} (h : R[k]? = some false) : un (R.set k true) + 1 = un R := by
  induction R generalizing k with
  | nil => simp at h
  | cons b R ih =>
    cases k with
    | zero =>
      simp at h
      subst h
      simp [un]; omega
    | succ k =>
      have h1 := ih (k := k) (by simpa using h)
      rw [List.set_cons_succ, un, un]
      omega
theorem ways_len (xs : List Ins) (k : Nat) : (ways xs k).length ≤ 2 := by
  unfold ways
  split
  · simp
  · split
    · simp
    · split
      · simp
      · split <;> simp
end Go.Proofs.YtfdbnolifimnhabDoor.L3
