/- What is asked of one line, and what its calls answer. No program's text. -/
import Derived.Test.YtfdbnolifimnhaaLns
namespace Go.Proofs.Ytfdbnolifimnhaa.L7
open Go Go.Proofs.Ytfdbnolifimnhaa.Own
theorem ok_0 (i : Int) (h r : Bool) : decide (Ok ⟨0, i, h, r⟩) = decide (0 ≤ i ∧ i < 8) := decide_eq_decide.2 (by simp [Ok])
theorem ok_1 (i : Int) (h r : Bool) : decide (Ok ⟨1, i, h, r⟩) = (decide (0 ≤ i ∧ i < 8) && (r == h)) := by
  rw [Bool.eq_iff_iff]
  simp [Ok]
theorem ok_no {k : Int} (i : Int) (h r : Bool) (h0 : k ≠ 0) (h1 : k ≠ 1) : decide (Ok ⟨k, i, h, r⟩) = false := decide_eq_false fun hh => by
  rcases hh.1 with e | e
  · exact h0 e
  · exact h1 e
theorem drAns_yes {x y : Lin} {g b : Bool} (h : drAns x g = (y, b)) (hx : Ok x) : y = drv x g ∧ b = true := by
  unfold drAns at h
  rw [if_pos hx] at h
  exact ⟨(congrArg Prod.fst h).symm, (congrArg Prod.snd h).symm⟩
theorem drAns_no {x y : Lin} {g b : Bool} (h : drAns x g = (y, b)) (hx : ¬ Ok x) : y = noLin ∧ b = false := by
  unfold drAns at h
  rw [if_neg hx] at h
  exact ⟨(congrArg Prod.fst h).symm, (congrArg Prod.snd h).symm⟩
theorem tkAns_yes {x y : Lin} {q b : Bool} (h : tkAns x = (y, q, b)) (hx : Ok x) : y = tak x ∧ q = x.ra ∧ b = true := by
  unfold tkAns at h
  rw [if_pos hx] at h
  simp only [Prod.mk.injEq] at h
  exact ⟨h.1.symm, h.2.1.symm, h.2.2.symm⟩
theorem tkAns_no {x y : Lin} {q b : Bool} (h : tkAns x = (y, q, b)) (hx : ¬ Ok x) : y = noLin ∧ q = false ∧ b = false := by
  unfold tkAns at h
  rw [if_neg hx] at h
  simp only [Prod.mk.injEq] at h
  exact ⟨h.1.symm, h.2.1.symm, h.2.2.symm⟩
end Go.Proofs.Ytfdbnolifimnhaa.L7
