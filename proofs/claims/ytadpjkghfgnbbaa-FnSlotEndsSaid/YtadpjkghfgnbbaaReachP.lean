/- Which indices of a program may be executed: as data. No program's text. -/
import Derived.Test.YtadpjkghfgnbbaaL3
namespace Go.Proofs.Ytadpjkghfgnbbaa.L3
/-- what may follow index i -/
def ways (xs : List Ins) (i : Nat) : List Int :=
  match xs[i]? with
  | none => []
  | some x => if x.op = 0 then [] else if x.op = 7 then [x.n] else if x.op = 8 then [(i : Int) + 1, x.n] else [(i : Int) + 1]
/-- what is reached from index 0 on -/
inductive Reach (xs : List Ins) : Nat → Prop
  | zero : Reach xs 0
  | step {i j : Nat} : Reach xs i → (j : Int) ∈ ways xs i → j < xs.length → Reach xs j
theorem reach_lt {xs : List Ins} (h : 0 < xs.length) {i : Nat} (hr : Reach xs i) : i < xs.length := by
  cases hr with
  | zero => exact h
  | step _ _ hl => exact hl
theorem ways_nonneg {xs : List Ins} (h : OkP xs) {i : Nat} {z : Int} (hz : z ∈ ways xs i) : 0 ≤ z := by
  unfold ways at hz
  cases hx : xs[i]? with
  | none => rw [hx] at hz; simp at hz
  | some x =>
    have hn := (h.1 x (List.mem_of_getElem? hx)).2.2.2.1
    rw [hx] at hz
    simp only at hz
    split at hz
    · simp at hz
    · split at hz
      · simp at hz; omega
      · split at hz
        · simp at hz; omega
        · simp at hz; omega
/-- a set that holds 0 and what may follow its elements holds all that is reached -/
theorem reach_in {xs : List Ins} {S : Nat → Prop} (h0 : S 0) (hs : ∀ i, S i → ∀ j : Nat, (j : Int) ∈ ways xs i → j < xs.length → S j) {i : Nat} (hr : Reach xs i) : S i := by
  induction hr with
  | zero => exact h0
  | step _ hj hl ih => exact hs _ ih _ hj hl
/-- a rising list is told by its elements -/
theorem rising_one : ∀ {L M : List Int}, L.Pairwise (· < ·) → M.Pairwise (· < ·) → (∀ z, z ∈ L ↔ z ∈ M) → L = M := by
  intro L
  induction L with
  | nil =>
    intro M _ _ h
    cases M with
    | nil => rfl
    | cons m M => exact absurd ((h m).2 (by simp)) (by simp)
  | cons a L ih =>
    intro M hL hM h
    cases M with
    | nil => exact absurd ((h a).1 (by simp)) (by simp)
    | cons m M =>
      rw [List.pairwise_cons] at hL hM
      have ham : a = m := by
        rcases List.mem_cons.1 ((h a).1 (by simp)) with h1 | h1
        · exact h1
        · rcases List.mem_cons.1 ((h m).2 (by simp)) with h2 | h2
          · exact h2.symm
          · have h3 := hM.1 a h1
            have h4 := hL.1 m h2
            omega
      subst ham
      refine congrArg _ (ih hL.2 hM.2 fun z => ⟨fun hz => ?_, fun hz => ?_⟩)
      · rcases List.mem_cons.1 ((h z).1 (by simp [hz])) with h1 | h1
        · have := hL.1 z hz
          omega
        · exact h1
      · rcases List.mem_cons.1 ((h z).2 (by simp [hz])) with h1 | h1
        · have := hM.1 z hz
          omega
        · exact h1
/-- the answer of ReachedBy -/
def IsReach (xs : List Ins) (L : List Int) : Prop := L.Pairwise (· < ·) ∧ ∀ z : Int, z ∈ L ↔ ∃ i : Nat, z = i ∧ Reach xs i
theorem isReach_one {xs : List Ins} {L M : List Int} (h : IsReach xs L) (k : IsReach xs M) : L = M :=
  rising_one h.1 k.1 fun z => (h.2 z).trans (k.2 z).symm
end Go.Proofs.Ytadpjkghfgnbbaa.L3
