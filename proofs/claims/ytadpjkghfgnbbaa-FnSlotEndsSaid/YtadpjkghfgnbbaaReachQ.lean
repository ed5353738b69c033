/- Rising lists: how long, one put in. No program's text. -/
import Derived.Test.YtadpjkghfgnbbaaReachP
namespace Go.Proofs.Ytadpjkghfgnbbaa.L3
theorem rising_len : ∀ (L : List Int) (a n : Int), L.Pairwise (· < ·) → (∀ z ∈ L, a ≤ z ∧ z < n) → a ≤ n → (L.length : Int) ≤ n - a := by
  intro L
  induction L with
  | nil => intro a n _ _ h; simp; omega
  | cons x L ih =>
    intro a n hp hz hn
    rw [List.pairwise_cons] at hp
    have h1 := hz x (by simp)
    have h2 := ih (x + 1) n hp.2 (fun z h => ⟨by have := hp.1 z h; omega, (hz z (by simp [h])).2⟩) (by omega)
    rw [List.length_cons]
    push_cast
    omega
theorem put_rising {L : List Int} {k : Nat} {x : Int} (h : L.Pairwise (· < ·)) (ha : ∀ z ∈ L.take k, z < x) (hb : ∀ z ∈ L.drop k, x < z) : (L.take k ++ x :: L.drop k).Pairwise (· < ·) ∧ ∀ z, z ∈ (L.take k ++ x :: L.drop k) ↔ z = x ∨ z ∈ L := by
  have h2 := h
  rw [← List.take_append_drop k L, List.pairwise_append] at h2
  refine ⟨?_, fun z => ?_⟩
  · rw [List.pairwise_append]
    refine ⟨h2.1, List.pairwise_cons.2 ⟨hb, h2.2.1⟩, fun a ha' b hb' => ?_⟩
    rcases List.mem_cons.1 hb' with rfl | hb'
    · exact ha a ha'
    · exact h2.2.2 a ha' b hb'
  · have h3 : z ∈ L ↔ z ∈ L.take k ∨ z ∈ L.drop k := by rw [← List.mem_append, List.take_append_drop]
    rw [List.mem_append, List.mem_cons, h3]
    constructor
    · rintro (h | h | h)
      · exact .inr (.inl h)
      · exact .inl h
      · exact .inr (.inr h)
    · rintro (h | h | h)
      · exact .inr (.inl h)
      · exact .inl h
      · exact .inr (.inr h)
/-- what may follow an instruction, by its kind -/
theorem ways_at {xs : List Ins} {i : Nat} {x : Ins} (h : xs[i]? = some x) : ways xs i = if x.op = 0 then [] else if x.op = 7 then [x.n] else if x.op = 8 then [(i : Int) + 1, x.n] else [(i : Int) + 1] := by
  unfold ways
  rw [h]
end Go.Proofs.Ytadpjkghfgnbbaa.L3
