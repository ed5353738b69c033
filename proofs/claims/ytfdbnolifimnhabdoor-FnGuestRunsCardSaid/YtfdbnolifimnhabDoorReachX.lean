/- The answer of ReachedBy: there is one. -/
import Derived.Test.YtfdbnolifimnhabDoorReachS
import Derived.Test.YtfdbnolifimnhabDoorReachI
namespace Go.Proofs.YtfdbnolifimnhabDoor.L3
theorem reach_ex (xs : List Ins) : ∃ M : List Int, ∃ b : Bool, (OkP xs → IsReach xs M ∧ b = true) ∧ (¬ OkP xs → M = [] ∧ b = false) ∧ M.length ≤ 16 := by
  classical
  by_cases h : OkP xs
  · have hp : 0 < xs.length := h.2.1
    obtain ⟨M, hM⟩ := isReach_ex xs hp
    refine ⟨M, true, fun _ => ⟨hM, rfl⟩, fun h2 => absurd h h2, ?_⟩
    have h1 := rising_len M 0 xs.length hM.1 (fun z hz => by
      obtain ⟨i, rfl, hi⟩ := (hM.2 z).1 hz
      have := reach_lt hp hi
      omega) (by omega)
    have := h.2.2
    omega
  · exact ⟨[], false, fun h2 => absurd h2 h, fun _ => ⟨rfl, rfl⟩, by simp⟩
end Go.Proofs.YtfdbnolifimnhabDoor.L3
