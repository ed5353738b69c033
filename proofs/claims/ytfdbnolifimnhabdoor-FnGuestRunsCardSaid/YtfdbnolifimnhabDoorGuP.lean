/- Runs of a guest: only reached instructions are executed. No program's text. -/
import Derived.Test.YtfdbnolifimnhabDoorReachQ
namespace Go.Proofs.YtfdbnolifimnhabDoor.L3
theorem reach_step {xs : List Ins} {g : Regs} (h : OkG xs g) {i : Nat} (hi : g.place = i) (hr : Reach xs i) : ∃ j : Nat, (stepOf xs g).place = j ∧ Reach xs j := by
  have hlt : i < xs.length := by have := h.2.2.1.2; omega
  obtain ⟨x, hx⟩ : ∃ x, xs[i]? = some x := ⟨_, List.getElem?_eq_getElem hlt⟩
  have hok := h.1.1 x (List.mem_of_getElem? hx)
  have hxD : xs.getD g.place.toNat default = x := by rw [hi]; simp [List.getD, hx]
  have hp : (stepOf xs g).place = if nextOf x g.place g.zero < xs.length then nextOf x g.place g.zero else g.place := by simp only [stepOf, hxD]
  rw [hp, hi]
  by_cases hn : nextOf x i g.zero < xs.length
  · rw [if_pos hn]
    by_cases h0 : x.op = 0
    · exact ⟨i, by simp [nextOf, h0], hr⟩
    · have hnn : 0 ≤ nextOf x i g.zero := by
        have := hok.2.2.2.1
        unfold nextOf
        repeat' split
        all_goals omega
      obtain ⟨j, hj⟩ := Int.eq_ofNat_of_zero_le hnn
      refine ⟨j, hj, .step hr ?_ (by omega)⟩
      rw [ways_at hx, if_neg h0, ← hj]
      unfold nextOf
      rw [if_neg h0]
      by_cases h7 : x.op = 7
      · simp [h7]
      · by_cases h8 : x.op = 8
        · cases g.zero <;> simp [h8]
        · simp [h7, h8]
  · rw [if_neg hn]; exact ⟨i, rfl, hr⟩
theorem reach_it {xs : List Ins} {g : Regs} (h : OkG xs g) (h0 : g.place = 0) (k : Nat) : ∃ j : Nat, (itOf xs g k).place = j ∧ Reach xs j := by
  induction k with
  | zero => exact ⟨0, by simpa [itOf] using h0, .zero⟩
  | succ k ih =>
    obtain ⟨j, hj, hr⟩ := ih
    exact reach_step (it_ok h k) hj hr
/-- the run from the first instruction on stays among the reached ones -/
theorem place_in {xs : List Ins} {g : Regs} {M : List Int} (h : OkG xs g) (h0 : g.place = 0) (hM : IsReach xs M) (k : Nat) : (itOf xs g k).place ∈ M := by
  obtain ⟨j, hj, hr⟩ := reach_it h h0 k
  rw [hj]
  exact (hM.2 _).2 ⟨j, rfl, hr⟩
/-- registers begun anew -/
theorem okG_start {xs : List Ins} {r : List Int} {p : Int} {zo st : Bool} (h : OkG xs ⟨r, p, zo, st⟩) : OkG xs ⟨r, 0, zo, false⟩ :=
  ⟨h.1, h.2.1, ⟨Int.le_refl _, by have := h.1.2.1; show (0 : Int) < _; omega⟩, h.2.2.2⟩
end Go.Proofs.YtfdbnolifimnhabDoor.L3
